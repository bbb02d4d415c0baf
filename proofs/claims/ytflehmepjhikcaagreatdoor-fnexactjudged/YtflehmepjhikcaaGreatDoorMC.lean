/- Gathered texts. -/
import Derived.Test.YtflehmepjhikcaaGreatDoorMB
set_option maxRecDepth 100000
set_option maxHeartbeats 8000000
namespace Go.Proofs.YtflehmepjhikcaaGreatDoor
open Go.ChangeShapes Go.WideShapes Go.ChangeAt Go.RowKit
open Go.RowKit
def GW (f:Nat->Nat):Nat->Nat
 | 0=>0
 |m+1=>GW f m+f m
theorem RZ {f g:Nat->Nat}:∀m:Nat,(∀c,c<m->f c=g c)->GW f m=GW g m
 | 0,_=>rfl
 |m+1,h=>by rw[GW,GW,RZ m (fun c hc=>h c (by omega)),h m (by omega)]
theorem Me {f g:Nat->Nat}{c:Nat}(h1:f c+1<=g c)(h2:∀c',c'≠c->f c'=g c'):∀m:Nat,c<m->GW f m+1<=GW g m
 | 0,h=>by omega
 |m+1,h=>by
  rw[GW,GW];by_cases e:c=m
  ·
   subst e;rw[RZ c (fun c' hc=>h2 c' (by omega))];omega
  ·
   have:=Me h1 h2 m (by omega);rw[h2 m (fun h=>e h.symm)];omega
def Nn (AA:List (List Dd))(b:Bd)(c:Nat):Nat:=2*((AA.getD c []).length-Aj b c)+(b.AJ.getD c []).length
def Df (AA:List (List Dd))(b:Bd):Nat:=GW (Nn AA b) AA.length
def LN (AA:List (List Dd))(b:Bd):Prop:=b.AK.length=AA.length/\b.AJ.length=AA.length
theorem Cn {α:Type}(l:List α)(z x:α)(i j:Nat)(hi:i<l.length):(l.set i x).getD j z=if i=j then x else l.getD j z:=by
 rw[List.getD_eq_getElem?_getD,List.getElem?_set];by_cases e:i=j
 . subst e;rw[if_pos rfl,if_pos hi,if_pos rfl];rfl
 . rw[if_neg e,if_neg e,List.getD_eq_getElem?_getD]
theorem Xj (AA:List (List Dd))(es:List Ev)(b:Bd)(c k:Nat):(BA AA es b c k).AK=b.AK/\((BA AA es b c k).AJ=b.AJ\/∃x,(BA AA es b c k).AJ=b.AJ.set c (b.AJ.getD c []++[x])):=by
 unfold BA;split
 . exact⟨rfl,.inl rfl⟩
 ·
  split
  . exact⟨rfl,.inl rfl⟩
  ·
   split
   . exact⟨rfl,.inl rfl⟩
   ·
    split
    . exact⟨rfl,.inr ⟨_,rfl⟩⟩
    . exact⟨rfl,.inl rfl⟩
theorem Sm {AA:List (List Dd)}{es:List Ev}{b:Bd}(hL:LN AA b)(h0:∀c,0<=b.AK.getD c 0){c:Nat}(hc:c<AA.length):(∀c',Aj (Ag AA es b c) c'=if c=c' then Aj b c+1 else Aj b c')/\∀c',0<=(Ag AA es b c).AK.getD c' 0:=by
 have e:∀c',(Ag AA es b c).AK.getD c' 0=if c=c' then b.AK.getD c 0+1 else b.AK.getD c' 0:=fun c'=>by
  show (b.AK.set c (b.AK.getD c 0+1)).getD c' 0=_;rw[Cn _ _ _ _ _ (by rw[hL.1];exact hc)]
 constructor
 ·
  intro c';unfold Aj;rw[e];split
  . have:=h0 c;omega
  . rfl
 ·
  intro c';rw[e];split
  . have:=h0 c;omega
  . exact h0 c'
theorem Tx {AA:List (List Dd)}{es:List Ev}{b:Bd}(hL:LN AA b)(h0:∀c,0<=b.AK.getD c 0){c:Nat}(hc:c<AA.length)(hk:Aj b c<(AA.getD c []).length):Df AA (Ag AA es b c)+1<=Df AA b/\LN AA (Ag AA es b c)/\∀c',0<=(Ag AA es b c).AK.getD c' 0:=by
 obtain⟨hn,h0'⟩:=Sm (es:=es) hL h0 hc;obtain⟨_,hd⟩:=Xj AA es b c (Aj b c)
 have YE:(∀c',c'≠c->(Ag AA es b c).AJ.getD c' []=b.AJ.getD c' [])/\((Ag AA es b c).AJ.getD c []).length<=(b.AJ.getD c []).length+1/\(Ag AA es b c).AJ.length=b.AJ.length:=by
  have e:(Ag AA es b c).AJ=(BA AA es b c (Aj b c)).AJ:=rfl;rw[e];rcases hd with hd|⟨x,hd⟩
  . rw[hd];exact⟨fun _ _=>rfl,by omega,rfl⟩
  ·
   rw[hd];refine⟨fun c' h=>?_,?_,by rw[List.length_set]⟩
   . rw[Cn _ _ _ _ _ (by rw[hL.2];exact hc),if_neg (fun h2=>h h2.symm)]
   . rw[Cn _ _ _ _ _ (by rw[hL.2];exact hc),if_pos rfl,List.length_append];simp
 refine⟨Me (c:=c) ?_ (fun c' h=>?_) _ hc,⟨?_,?_⟩,h0'⟩
 ·
  unfold Nn;rw[hn,if_pos rfl];have:=YE.2.1;omega
 ·
  unfold Nn;rw[hn,if_neg (fun h2=>h h2.symm),YE.1 c' h]
 ·
  show (b.AK.set c _).length=_;rw[List.length_set];exact hL.1
 . rw[YE.2.2];exact hL.2
theorem YW {AA:List (List Dd)}{es:List Ev}(g:Int){c:Nat}(hc:c<AA.length):∀(m:Nat) (b:Bd),LN AA b->(∀c,0<=b.AK.getD c 0)->1<=m->Aj b c<(AA.getD c []).length->(AA.getD c []).length<=Aj b c+m ->
  Df AA (EE AA es g c m b)+1<=Df AA b/\LN AA (EE AA es g c m b)/\∀c',0<=(EE AA es g c m b).AK.getD c' 0
 | 0,_,_,_,h,_,_=>by omega
 |m+1,b,hL,h0,_,hk,hm=>by
  have h1:=Tx (es:=es) hL h0 hc hk;have hn:=(Sm (es:=es) hL h0 hc).1 c;rw[if_pos rfl] at hn;rw[EE];split
  . exact h1
  ·
   rename_i hs;have hs1:¬Aj (Ag AA es b c) c=(AA.getD c []).length:=fun h=>hs (.inr (.inl h))
   have h2:=YW (es:=es) g hc m (Ag AA es b c) h1.2.1 h1.2.2 (by omega) (by omega) (by omega);exact⟨by omega,h2.2⟩
theorem VV {AA:List (List Dd)}{b:Bd}(hL:LN AA b)(h0:∀c,0<=b.AK.getD c 0){c:Nat}(hc:c<AA.length)(hne:b.AJ.getD c []≠[]):Df AA (BG b c)+1<=Df AA b/\LN AA (BG b c)/\∀c',0<=(BG b c).AK.getD c' 0:=by
 unfold BG
 cases hq:b.AJ.getD c [] with
 |nil=>exact absurd hq hne
 |cons x r=>
  have e:∀c',(b.AJ.set c r).getD c' []=if c=c' then r else b.AJ.getD c' []:=fun c'=>Cn _ _ _ _ _ (by rw[hL.2];exact hc)
  refine⟨Me (c:=c) ?_ (fun c' h=>?_) _ hc,⟨hL.1,?_⟩,h0⟩
  ·
   show 2*((AA.getD c []).length-Aj b c)+((b.AJ.set c r).getD c []).length+1<=2*((AA.getD c []).length-Aj b c)+(b.AJ.getD c []).length;rw[e,if_pos rfl,hq];simp only[List.length_cons];omega
  ·
   show 2*((AA.getD c' []).length-Aj b c')+((b.AJ.set c r).getD c' []).length=2*((AA.getD c' []).length-Aj b c')+(b.AJ.getD c' []).length;rw[e,if_neg (fun h2=>h h2.symm)]
  ·
   show (b.AJ.set c r).length=_;rw[List.length_set];exact hL.2
theorem Jf {AA:List (List Dd)}(hb:AL AA=true){es:List Ev}{b:Bd}(hL:LN AA b)(h0:∀c,0<=b.AK.getD c 0){s:Int}(hs:Mx (An AA b) s=true):Df AA (Ao AA es b s)+1<=Df AA b/\LN AA (Ao AA es b s)/\∀c',0<=(Ao AA es b s).AK.getD c' 0:=by
 have hl3:AA.length<=3:=by
  simp only[AL,Bool.and_eq_true,decide_eq_true_eq] at hb;exact hb.1.1.1.1.2
 have hm:=LM hs;unfold An at hm;rw[List.mem_append,List.mem_map,List.mem_map] at hm;rcases hm with ⟨c,hc,e⟩|⟨c,hc,e⟩
 ·
  rw[List.mem_filter,List.mem_range] at hc;obtain⟨hc,hcan⟩:=hc;unfold Bx at hcan;simp only[Bool.and_eq_true,decide_eq_true_eq] at hcan;unfold Ao;rw[if_neg (by omega),show s.toNat=c by omega];exact YW _ hc _ b hL h0 (by omega) hcan.1 (by omega)
 ·
  rw[List.mem_filter,List.mem_range] at hc;obtain⟨hc,hne⟩:=hc;unfold Ao;rw[if_pos (by omega),show (s-10).toNat=c by omega];refine VV hL h0 hc (fun h=>?_);rw[h] at hne;simp at hne
theorem fC (AA:List (List Dd)):GW (fun c=>(AA.getD c []).length) AA.length=Bs AA:=by
 have h:∀(l:List (List Dd)) (m:Nat),m<=l.length->GW (fun c=>(l.getD c []).length) m=Bs (l.take m):=by
  intro l m
  induction m with
  |zero=>intro _;simp[GW,Bs]
  |succ m ih=>
   intro hm;rw[GW,ih (by omega),List.take_add_one,List.getElem?_eq_getElem (by omega),List.getD_eq_getElem?_getD,List.getElem?_eq_getElem (by omega)];simp only[Option.toList_some,Option.getD_some]
   have:∀(x:List (List Dd)) (d:List Dd),Bs (x++[d])=Bs x+d.length:=by
    intro x d
    induction x with
    |nil=>simp[Bs]
    |cons y x ih=>rw[List.cons_append,Bs,ih,Bs];omega
   rw[this]
 have:=h AA AA.length (Nat.le_refl _);rw[List.take_length] at this;exact this
theorem Tw {AA:List (List Dd)}(hb:AL AA=true):Df AA (Ci AA)<=24/\LN AA (Ci AA)/\∀c',0<=(Ci AA).AK.getD c' 0:=by
 have h12:Bs AA<=12:=by
  simp only[AL,Bool.and_eq_true,decide_eq_true_eq] at hb;exact hb.1.1.2
 have h0:∀c',(Ci AA).AK.getD c' 0=0:=fun c'=>by
  show (List.replicate AA.length (0:Int)).getD c' 0=0;rw[List.getD_eq_getElem?_getD,List.getElem?_replicate];split<;>rfl
 refine⟨?_,⟨by show (List.replicate _ _).length=_;simp,by show (List.replicate _ _).length=_;simp⟩,fun c'=>by rw[h0];omega⟩
 have e:∀m:Nat,GW (Nn AA (Ci AA)) m=2*GW (fun c=>(AA.getD c []).length) m:=by
  intro m
  induction m with
  |zero=>rfl
  |succ m ih=>
   rw[GW,GW,ih]
   have:Nn AA (Ci AA) m=2*(AA.getD m []).length:=by
    unfold Nn Aj;rw[h0]
    have:(Ci AA).AJ.getD m []=[]:=by
     show (List.replicate AA.length ([]:List Nt)).getD m []=[];rw[List.getD_eq_getElem?_getD,List.getElem?_replicate];split<;>rfl
    rw[this];simp
   rw[this];omega
 unfold Df;rw[e,fC];omega
theorem Q9 {AA:List (List Dd)}{b:Bd}{c:Nat}(hc:c<AA.length)(h:Bx AA b c=true):Mx (An AA b) (c:Int)=true:=by
 refine Je ?_;unfold An;exact List.mem_append_left _ (List.mem_map.2 ⟨c,List.mem_filter.2 ⟨List.mem_range.2 hc,h⟩,rfl⟩)
theorem Sp {AA:List (List Dd)}{b:Bd}{c:Nat}(hc:c<AA.length)(h:b.AJ.getD c []≠[]):Mx (An AA b) (10+(c:Int))=true:=by
 refine Je ?_;unfold An;refine List.mem_append_right _ (List.mem_map.2 ⟨c,List.mem_filter.2 ⟨List.mem_range.2 hc,?_⟩,rfl⟩)
 cases hq:b.AJ.getD c [] with
 |nil=>exact absurd hq h
 |cons _ _=>rfl
theorem Z0 {AA:List (List Dd)}{b:Bd}{a:Ab}(R:Wh AA b a){c:Nat}(hc:c<AA.length):Bx AA b c=(decide (a.nx c<(AA.getD c []).length)&&((decide ((Ai AA c (a.nx c)).1<=2)&&decide (BE AA c (a.nx c)=0))||(a.N c).isEmpty)):=by
 unfold Bx;rw[(Dp R hc).2,Ek R hc]
 congr 2
 cases a.N c<;>rfl
theorem C6 {AA:List (List Dd)}(hb:AL AA=true):AA.length<=3:=by
 simp only[AL,Bool.and_eq_true,decide_eq_true_eq] at hb;exact hb.1.1.1.1.2
theorem ON {AA:List (List Dd)}(hb:AL AA=true){b:Bd}{c:Nat}(hc:c<AA.length)(hk:Aj b c<(AA.getD c []).length)(hg:BE AA c (Aj b c)=0):Ao AA (AB AA) b (c:Int)=Ag AA (AB AA) b c:=by
 have:=C6 hb;unfold Ao;rw[if_neg (by omega),Int.toNat_natCast,hg]
 cases hq:(AA.getD c []).length with
 |zero=>omega
 |succ m=>rw[EE,if_pos (.inl rfl)]
def Bv (AA:List (List Dd))(es:List Ev)(b:Bd)(c:Nat):Bd:=
 if ((Ao AA es b (c:Int)).AJ.getD c []).isEmpty=true then Ao AA es b (c:Int) else Ao AA es (Ao AA es b (c:Int)) (10+(c:Int))
def Zo (AA:List (List Dd))(a:Ab)(τ:Nat->Nat):Prop:=∀i j,(Cr AA a τ).D (BT AA) i->(Cr AA a τ).D (BT AA) j->3<=i->i<j->(BT AA).ck i=(BT AA).ck j->(BT AA).cs i≠(BT AA).cs j->τ i<τ j
structure QI (AA:List (List Dd))(b:Bd)(a:Ab)(τ:Nat->Nat)(T:Nat)(z:Int):Prop where
 mi:MI AA b a τ T z
 bd:BD AA a
 no:∀c,a.N c=[]
 mono:Zo AA a τ
theorem Qw {AA:List (List Dd)}{a a':Ab}{τ τ':Nat->Nat}{T:Nat}{z0 z:Int}(I:FE (BT AA) (Cr AA a τ) T z0)(hm:Zo AA a τ)(hD:∀j,3<=j->(Cr AA a' τ').D (BT AA) j->(Cr AA a τ).D (BT AA) j\/((BT AA).cs j=z/\¬(Cr AA a τ).X j/\T<τ' j))
  (hτ:∀i,(Cr AA a τ).D (BT AA) i->τ' i=τ i):Zo AA a' τ':=by
 intro i j hi hj h3 hij hck hcs;rcases hD i h3 hi with oi|⟨ci,ni,ti⟩
 ·
  rcases hD j (by omega) hj with oj|⟨cj,nj,tj⟩
  ·
   rw[hτ i oi,hτ j oj];exact hm i j oi oj h3 hij hck hcs
  ·
   have:=I.NG i oi;rw[hτ i oi];change τ i<=T at this;omega
 ·
  rcases hD j (by omega) hj with oj|⟨cj,nj,tj⟩
  . exact absurd (I.down i j oj.1 h3 hij hck) ni
  . exact absurd (ci.trans cj.symm) hcs
theorem Vg {AA:List (List Dd)}(hb:AL AA=true){b:Bd}{a:Ab}{τ:Nat->Nat}{T:Nat}{z:Int}(M:MI AA b a τ T z)(hT:1<=T){c:Nat}(hc:c<AA.length)(hk:a.nx c<(AA.getD c []).length)
  (hz:Co AA c (a.nx c)=z) (h4:(Ai AA c (a.nx c)).1≠4) (h2:(Ai AA c (a.nx c)).1=2->BE AA c (a.nx c)≠0) (hN:a.N c=[]):
  ∃a' τ',MI AA (Ag AA (AB AA) b c) a' τ' T z/\a'.nx=(BB a c).nx/\a'.N=a.N/\(∀i,(Cr AA a τ).X i->τ' i=τ i)/\∀j,(Cr AA a' τ').X j->(Cr AA a τ).X j\/(BT AA).cs j=z:=by
 have E:=CU hc hk h4;have hnew:=(EU hb a τ hc hk h4).new;have s4:=(DD hb E).2.2.2;rcases Bz (Bu hb hc _ hk) with h|h|h|h
 ·
  obtain⟨f,_,M'⟩:=Ki hb M hT hc hk h hz (.inr hN);refine⟨_,_,M',rfl,rfl,fun i hi=>?_,fun j hj=>?_⟩
  ·
   show (if i=AZ AA c (a.nx c) then T else τ i)=τ i;rw[if_neg (fun e=>hnew (by rw[<-e];exact hi))]
  ·
   rcases (iR hb a τ _ hc hk h f j).1 hj with hj|hj
   . exact .inl hj
   . exact .inr (by rw[hj,s4,hz])
 ·
  have M':=MQ hb M hT hc hk h (h2 h) hz hN;refine⟨_,_,M',rfl,rfl,fun i hi=>?_,fun j hj=>?_⟩
  ·
   show (if i=AZ AA c (a.nx c) then T else τ i)=τ i;rw[if_neg (fun e=>hnew (by rw[<-e];exact hi))]
  ·
   rcases (mW hb a τ _ hc hk h _ j).1 hj with hj|hj
   . exact .inl hj
   . exact .inr (by rw[hj,s4,hz])
 ·
  have M':=Kk hb M hT hc hk h hz hN;have E2:=Hm hc hk h;have r4:=(DD hb E2).2.2.2;refine⟨_,_,M',rfl,rfl,fun i hi=>?_,fun j hj=>?_⟩
  ·
   show (if i=AZ AA c (a.nx c)+1 then T else if i=AZ AA c (a.nx c) then T else τ i)=τ i;rw[if_neg (fun e=>?_),if_neg (fun e=>hnew (by rw[<-e];exact hi))];have:=hi.2;rw[e,JU hb E2,decide_eq_true_eq] at this;omega
  ·
   rcases (iT hb a τ _ hc hk h _ j).1 hj with (hj|hj)|hj
   . exact .inl hj
   . exact .inr (by rw[hj,s4,hz])
   . exact .inr (by rw[hj,r4,hz])
 . exact absurd h h4
theorem Qi {AA:List (List Dd)}(hb:AL AA=true){c:Nat}(hc:c<AA.length)(g:Int){T:Nat}(hT:1<=T){z:Int}:∀(m:Nat) (b:Bd) (a:Ab) (τ:Nat->Nat),MI AA b a τ T z->a.nx c<(AA.getD c []).length->(AA.getD c []).length<=a.nx c+m->BE AA c (a.nx c)=g ->
  Co AA c (a.nx c)=z->(Ai AA c (a.nx c)).1≠4->((Ai AA c (a.nx c)).1=2->BE AA c (a.nx c)≠0)->a.N c=[] ->
  ∃a' τ',MI AA (EE AA (AB AA) g c m b) a' τ' T z/\a.nx c<a'.nx c/\(∀c',c'≠c->a'.nx c'=a.nx c')/\a'.N=a.N/\(∀i,(Cr AA a τ).X i->τ' i=τ i)/\(∀j,(Cr AA a' τ').X j->(Cr AA a τ).X j\/(BT AA).cs j=z)/\(a'.nx c<(AA.getD c []).length->BE AA c (a'.nx c)≠0->BE AA c (a'.nx c-1)≠BE AA c (a'.nx c))
 | 0,b,a,τ,M,hk,hm,_,_,_,_,_=>by omega
 |m+1,b,a,τ,M,hk,hm,hg,hz,h4,h2,hN=>by
  obtain⟨a1,τ1,M1,e1,e2,e3,e4⟩:=Vg hb M hT hc hk hz h4 h2 hN;have hn1:a1.nx c=a.nx c+1:=by rw[e1,Cp,if_pos rfl]
  have ho1:∀c',c'≠c->a1.nx c'=a.nx c':=fun c' h=>by rw[e1,Cp,if_neg h]
  have hX1:∀j,(Cr AA a τ).X j->(Cr AA a1 τ1).X j:=by
   intro j hj;refine⟨hj.1,?_⟩;have:=hj.2;unfold D2 at this ⊢;rw[e1];simp only[Bool.or_eq_true,decide_eq_true_eq] at this ⊢;rcases this with h|h
   . exact .inl h
   ·
    refine .inr ?_;rw[Cp];split
    . rename_i e;rw[e] at h;omega
    . exact h
  rw[EE,(Dp M1.Bo hc).2,hn1];by_cases hs:g=0\/a.nx c+1=(AA.getD c []).length\/BE AA c (a.nx c+1)≠g
  ·
   rw[if_pos hs];refine⟨a1,τ1,M1,by omega,ho1,e2,e3,e4,?_⟩;rw[hn1];intro hl hg0;rw[show a.nx c+1-1=a.nx c by omega,hg];rcases hs with hs|hs|hs
   . rw[hs];exact fun e=>hg0 e.symm
   . omega
   . exact fun e=>hs e.symm
  ·
   rw[if_neg hs];have hs0:¬g=0:=fun h=>hs (.inl h)
   have hs1:¬a.nx c+1=(AA.getD c []).length:=fun h=>hs (.inr (.inl h))
   have hs2:BE AA c (a.nx c+1)=g:=Classical.byContradiction (fun h=>hs (.inr (.inr h)));have hl:=M1.UD c hc;have hk1:a.nx c+1<(AA.getD c []).length:=by omega
   have hok:=Bu hb hc;have n2:=ER hok hk1 (by rw[hs2];exact hs0);have hcl:Co AA c (a.nx c+1)=Co AA c (a.nx c):=(Hl hok hok hk1 hk n2.1 h4).2 ⟨rfl,.inr ⟨by rw[hs2];exact hs0,by rw[hs2,hg]⟩⟩;obtain⟨a',τ',M',q1,q2,q3,q4,q5,q6⟩:=Qi hb hc g hT m (Ag AA (AB AA) b c) a1 τ1 M1 (by omega) (by omega) (by rw[hn1];exact hs2) (by rw[hn1,hcl];exact hz) (by rw[hn1];exact n2.1) (by rw[hn1,hs2];exact fun _=>hs0) (by rw[e2];exact hN);refine⟨a',τ',M',by omega,fun c' h=>by rw[q2 c' h,ho1 c' h],by rw[q3,e2],fun i hi=>by rw[q4 i (hX1 i hi),e3 i hi],fun j hj=>?_,q6⟩;rcases q5 j hj with h|h
   . exact e4 j h
   . exact .inr h
theorem lK {AA:List (List Dd)}{a:Ab}(τ:Nat->Nat)(h:∀c,a.N c=[])(j:Nat):(Cr AA a τ).D (BT AA) j↔(Cr AA a τ).X j:=by
 have:∀c,(Cr AA a τ).N c=[]:=fun c=>by
  show (if 0<=c then a.N c.toNat else [])=[];split
  . exact h _
  . rfl
 unfold A6.D;rw[this];simp
theorem Vo {AA:List (List Dd)}(hb:AL AA=true){b:Bd}{a:Ab}{τ:Nat->Nat}{T:Nat}{z:Int}(Q:QI AA b a τ T z){c:Nat}(hc:c<AA.length)(hcan:Bx AA b c=true):
  ∃a' τ' T' z',QI AA (Bv AA (AB AA) b c) a' τ' T' z':=by
 have M:=Q.mi;have hl3:=C6 hb;have hn:=(Dp M.Bo hc).2
 have hk:a.nx c<(AA.getD c []).length:=by
  rw[Z0 M.Bo hc] at hcan;simp only[Bool.and_eq_true,decide_eq_true_eq] at hcan;exact hcan.1
 have hok:=Bu hb hc;by_cases h4:(Ai AA c (a.nx c)).1=4
 ·
  have hg0:BE AA c (a.nx c)=0:=by
   apply Classical.byContradiction;intro hg;exact (ER hok hk hg).1 h4
  have hst:=ON hb hc (b:=b) (by rw[hn];exact hk) (by rw[hn];exact hg0);have M':=N2 hb M hc hk h4 (Q.no c)
  have hq:Bv AA (AB AA) b c=Ag AA (AB AA) b c:=by
   unfold Bv;rw[hst,if_pos];rw[Ek M'.Bo hc];show ((a.N c).map _).isEmpty=true;rw[Q.no c];rfl
  rw[hq];refine⟨_,τ,T,z,M',fun c' hc' h0 hl hg=>?_,Q.no,?_⟩
  ·
   by_cases e:c'=c
   ·
    subst e;rw[Cp,if_pos rfl] at hl hg ⊢;rw[show a.nx c'+1-1=a.nx c' by omega,hg0];exact fun h=>hg h.symm
   ·
    rw[Cp,if_neg e] at h0 hl hg ⊢;exact Q.bd c' hc' h0 hl hg
  ·
   unfold Zo;rw[UR hb a τ hc hk h4];exact Q.mono
 ·
  have E:=CU hc hk h4;have s:=DD hb E;by_cases hpl:(Ai AA c (a.nx c)).1=2/\BE AA c (a.nx c)=0
  ·
   have hst:=ON hb hc (b:=b) (by rw[hn];exact hk) (by rw[hn];exact hpl.2);have M':=N1 hb M hc hk hpl.1 hpl.2
   have hN':(Q0 AA a c).N c=AZ AA c (a.nx c)::[]:=by
    show (if c=c then a.N c++[AZ AA c (a.nx c)] else a.N c)=_;rw[if_pos rfl,Q.no c];rfl
   have M2:=KY hb M' hc hN'
   have hq:Bv AA (AB AA) b c=BG (Ag AA (AB AA) b c) c:=by
    unfold Bv;rw[hst,if_neg]
    ·
     unfold Ao;rw[if_pos (by omega),show (10+(c:Int)-10).toNat=c by omega]
    ·
     rw[Ek M'.Bo hc,hN'];simp
   rw[hq]
   have hno:∀c',(Op (Q0 AA a c) c ((BT AA).pl (AZ AA c (a.nx c))) (AZ AA c (a.nx c)) []).N c'=[]:=by
    intro c';show (if c'=c then [] else (if c'=c then a.N c'++[AZ AA c (a.nx c)] else a.N c'))=[];split
    . rfl
    . exact Q.no c'
   have hX:∀j,(Cr AA (Op (Q0 AA a c) c ((BT AA).pl (AZ AA c (a.nx c))) (AZ AA c (a.nx c)) []) (fun i=>if i=AZ AA c (a.nx c) then T+1 else τ i)).X j↔(Cr AA a τ).X j\/j=AZ AA c (a.nx c):=fun j=>iQ hb a τ τ hc hk hpl.1 j
   have hnew:=(EU hb a τ hc hk h4).new;refine⟨_,_,_,_,M2,fun c' hc' h0 hl hg=>?_,hno,?_⟩
   ·
    change 0<(BB a c).nx c' at h0;change (BB a c).nx c'<_ at hl;change BE AA c' ((BB a c).nx c')≠0 at hg;show BE AA c' ((BB a c).nx c'-1)≠BE AA c' ((BB a c).nx c');by_cases e:c'=c
    ·
     subst e;rw[Cp,if_pos rfl] at hl hg ⊢;rw[show a.nx c'+1-1=a.nx c' by omega,hpl.2];exact fun h=>hg h.symm
    ·
     rw[Cp,if_neg e] at h0 hl hg ⊢;exact Q.bd c' hc' h0 hl hg
   ·
    refine Qw M.inv Q.mono (z:=Co AA c (a.nx c)) (fun j h3 hj=>?_) (fun i hi=>?_)
    ·
     rcases (hX j).1 hj.1 with h|h
     . exact .inl ((lK τ Q.no j).2 h)
     ·
      refine .inr ⟨by rw[h];exact s.2.2.2,by rw[h];exact hnew,?_⟩;show T<if j=AZ AA c (a.nx c) then T+1 else τ j
      rw[if_pos h];omega
    ·
     show (if i=AZ AA c (a.nx c) then T+1 else τ i)=τ i;rw[if_neg (fun e=>hnew (by rw[<-e];exact hi.1))]
  ·
   have h2:(Ai AA c (a.nx c)).1=2->BE AA c (a.nx c)≠0:=fun h h'=>hpl ⟨h,h'⟩
   have M1:MI AA b a τ (T+1) (Co AA c (a.nx c)):=by
    refine⟨M.Bo,M.inv.tick _ (fun i hi h3 e=>?_),M.UD,M.nt⟩;obtain⟨c',k',i',E',hX,e1,e2⟩:=Xi hb hi h3;rw[e1] at e;obtain⟨rfl,hq⟩:=(Hl (Bu hb E'.hc) hok E'.hk hk E'.kind h4).1 e;rcases hq with hq|⟨g1,g2⟩
    . omega
    ·
     have h0:BE AA c' (a.nx c')≠0:=by rw[<-g2];exact g1
     refine Q.bd c' hc (by omega) hk h0 ?_;exact Ka hb hc (j:=k') (k:=a.nx c'-1) (l:=a.nx c') (by omega) (by omega) hk h0 g2
   have hst:Ao AA (AB AA) b (c:Int)=EE AA (AB AA) (BE AA c (a.nx c)) c (AA.getD c []).length b:=by
    unfold Ao;rw[if_neg (by omega),Int.toNat_natCast,hn]
   obtain⟨a',τ',M',q1,q2,q3,q4,q5,q6⟩:=Qi hb hc (BE AA c (a.nx c)) (T:=T+1) (by omega) (AA.getD c []).length b a τ M1 hk (by omega) rfl rfl h4 h2 (Q.no c);have hno:∀c',a'.N c'=[]:=fun c'=>by rw[q3];exact Q.no c'
   have hq:Bv AA (AB AA) b c=EE AA (AB AA) (BE AA c (a.nx c)) c (AA.getD c []).length b:=by
    unfold Bv;rw[hst,if_pos];rw[Ek M'.Bo hc,hno c];rfl
   rw[hq];refine⟨a',τ',T+1,_,M',fun c' hc' h0 hl hg=>?_,hno,?_⟩
   ·
    by_cases e:c'=c
    . subst e;exact q6 hl hg
    ·
     rw[q2 c' e] at h0 hl hg ⊢;exact Q.bd c' hc' h0 hl hg
   ·
    refine Qw M.inv Q.mono (z:=Co AA c (a.nx c)) (fun j h3 hj=>?_) (fun i hi=>q4 i hi.1);by_cases uf:(Cr AA a τ).X j
    . exact .inl ((lK τ Q.no j).2 uf)
    ·
     have hcs:=(q5 j hj.1).resolve_left uf;refine .inr ⟨hcs,uf,?_⟩;have:=(M'.inv.now j hj h3).2 hcs;change τ' j=T+1 at this;omega
def Bm:List Int->List Int->Bool
 |x::a,y::b=>if x≠y then decide (x<y) else Bm a b
 |a,b=>decide (a.length<b.length)
theorem Dt (x y:Int)(a b:List Int):Bm (x::a) (y::b)=if x≠y then decide (x<y) else Bm a b:=by rw[Bm]
theorem Jd (b:List Int):Bm [] b=decide (0<b.length):=by
 unfold Bm;rfl
theorem FB (a:List Int):Bm a []=false:=by
 cases a with
 |nil=>rfl
 |cons x a=>unfold Bm;simp
theorem D5:∀a:List Int,Bm a a=false
 | []=>rfl
 |x::a=>by rw[Dt,if_neg (by simp)];exact D5 a
theorem Eg:∀a b c:List Int,Bm a b=true->Bm b c=true->Bm a c=true
 | [],b,[],_,h2=>by rw[FB] at h2;cases h2
 | [],b,y::c,_,_=>by rw[Jd];simp
 |x::a,[],c,h1,_=>by rw[FB] at h1;cases h1
 |x::a,y::b,[],_,h2=>by rw[FB] at h2;cases h2
 |x::a,y::b,z::c,h1,h2=>by
  rw[Dt] at h1 h2 ⊢;by_cases e1:x=y
  ·
   subst e1;rw[if_neg (by simp)] at h1;by_cases e2:x=z
   ·
    subst e2;rw[if_neg (by simp)] at h2 ⊢;exact Eg a b c h1 h2
   . rw[if_pos e2] at h2 ⊢;exact h2
  ·
   rw[if_pos e1,decide_eq_true_eq] at h1;by_cases e2:y=z
   ·
    subst e2;rw[if_pos e1,decide_eq_true_eq];exact h1
   ·
    rw[if_pos e2,decide_eq_true_eq] at h2;rw[if_pos (by omega),decide_eq_true_eq];omega
theorem GD:∀a b:List Int,a=b\/Bm a b=true\/Bm b a=true
 | [],[] => .inl rfl
 | [],y::b => .inr (.inl (by rw[Jd];simp))
 |x::a,[] => .inr (.inr (by rw[Jd];simp))
 |x::a,y::b=>by
  rw[Dt,Dt];by_cases e:x=y
  ·
   subst e;rw[if_neg (by simp),if_neg (by simp)];rcases GD a b with h|h
   . exact .inl (by rw[h])
   . exact .inr h
  ·
   rw[if_pos e,if_pos (fun h=>e h.symm),decide_eq_true_eq,decide_eq_true_eq];right;omega
theorem VT {a b:List Int}(h1:Bm a b=true)(h2:Bm b a=true):False:=by
 have:=Eg a b a h1 h2;rw[D5] at this;cases this
abbrev NK (l:List (List Int)):Prop:=l.Pairwise (fun a b=>Bm a b=true)
theorem Hy {l:List (List Int)}(h:NK l):l.Nodup:=h.imp (fun {a b} hab e=>by rw[e,D5] at hab;cases hab)
theorem dJ {a b:List (List Int)}(ha:NK a)(hb:NK b)(h:∀x,x∈a↔x∈b):a=b:=by
 refine List.Perm.eq_of_pairwise (le:=fun a b=>Bm a b=true) (fun x y _ _ h1 h2=>(VT h1 h2).elim) ha hb ?_;exact (List.perm_ext_iff_of_nodup (Hy ha) (Hy hb)).2 h
def C4 (l:List (List Int))(x:List Int):Nat:=l.countP (fun a=>Bm a x)
theorem PY (l:List (List Int))(x:List Int):C4 l x<=l.length:=List.countP_le_length
theorem En:∀ {l:List (List Int)},NK l->∀(x:List Int) (i:Nat) (hi:i<l.length),Bm l[i] x=decide (i<C4 l x)
 | [],_,x,i,hi=>by simp at hi
 |y::l,h,x,i,hi=>by
  rw[NK,List.pairwise_cons] at h;unfold C4;rw[List.countP_cons];by_cases hy:Bm y x=true
  ·
   rw[if_pos hy]
   cases i with
   |zero=>simp[hy]
   |succ i=>
    have:=En h.2 x i (by simp at hi;omega);unfold C4 at this;simp only[List.getElem_cons_succ];rw[this];simp
  ·
   rw[if_neg hy]
   have h0:l.countP (fun a=>Bm a x)=0:=by
    rw[List.countP_eq_zero];intro a ha hax;exact hy (Eg _ _ _ (h.1 a ha) hax)
   rw[h0]
   cases i with
   |zero=>simp[hy]
   |succ i=>
    have:=En h.2 x i (by simp at hi;omega);unfold C4 at this;rw[h0] at this;simp only[List.getElem_cons_succ];rw[this];simp
theorem Yw {l:List (List Int)}(h:NK l)(x:List Int):x∈l↔C4 l x<l.length/\l.getD (C4 l x) []=x:=by
 constructor
 ·
  intro hx;obtain⟨i,hi,e⟩:=List.getElem_of_mem hx;have h1:=En h x i hi;rw[e,D5] at h1;have h2:¬i<C4 l x:=of_decide_eq_false h1.symm;have hr:C4 l x<l.length:=by omega
  refine⟨hr,?_⟩;have h3:=En h x _ hr;rw[decide_eq_false (by omega)] at h3;rw[List.getD_eq_getElem?_getD,List.getElem?_eq_getElem hr,Option.getD_some];by_cases e2:C4 l x=i
  . simp only[e2];exact e
  ·
   exfalso;have:=List.pairwise_iff_getElem.1 h _ _ hr hi (by omega);rw[e] at this;rw[this] at h3;cases h3
 ·
  rintro⟨h1,h2⟩;rw[List.getD_eq_getElem?_getD,List.getElem?_eq_getElem h1,Option.getD_some] at h2;rw[<-h2];exact List.getElem_mem h1
def PD (l:List (List Int))(x:List Int):Bool:=decide (C4 l x<l.length)&&(l.getD (C4 l x) []==x)
def Dv (l:List (List Int))(x:List Int):List (List Int):=if PD l x=true then l else l.take (C4 l x)++x::l.drop (C4 l x)
theorem PE {l:List (List Int)}(h:NK l)(x:List Int):PD l x=true↔x∈l:=by
 rw[Yw h];unfold PD;simp only[Bool.and_eq_true,decide_eq_true_eq,beq_iff_eq]
theorem UM (l:List (List Int))(h:NK l)(x y:List Int):y∈Dv l x↔y∈l\/y=x:=by
 unfold Dv;split
 ·
  rename_i hx;constructor
  . exact fun h => .inl h
  ·
   rintro (h|rfl)
   . exact h
   . exact (PE h _).1 hx
 ·
  rw[List.mem_append,List.mem_cons]
  have:y∈l↔y∈l.take (C4 l x)\/y∈l.drop (C4 l x):=by
   rw[<-List.mem_append,List.take_append_drop]
  rw[this];constructor
  ·
   rintro (h|h|h)
   . exact .inl (.inl h)
   . exact .inr h
   . exact .inl (.inr h)
  ·
   rintro ((h|h)|h)
   . exact .inl h
   . exact .inr (.inr h)
   . exact .inr (.inl h)
theorem PW {l:List (List Int)}(h:NK l)(x:List Int):NK (Dv l x):=by
 unfold Dv;split
 . exact h
 ·
  rename_i hx;have hnot:x∉l:=fun hm=>hx ((PE h x).2 hm)
  have h':=h;rw[<-List.take_append_drop (C4 l x) l,NK,List.pairwise_append] at h'
  have ht:∀a,a∈l.take (C4 l x)->Bm a x=true:=by
   intro a ha;obtain⟨i,hi,e⟩:=List.getElem_of_mem ha;rw[List.length_take] at hi;rw[List.getElem_take] at e;rw[<-e,En h x i (by omega)];simp;omega
  have hd:∀a,a∈l.drop (C4 l x)->Bm x a=true:=by
   intro a ha;have hal:a∈l:=List.mem_of_mem_drop ha;obtain⟨i,hi,e⟩:=List.getElem_of_mem ha;rw[List.length_drop] at hi;rw[List.getElem_drop] at e;have:=En h x (C4 l x+i) (by omega);rw[e,decide_eq_false (by omega)] at this;rcases GD x a with g|g|g
   . exact absurd (by rw[g];exact hal) hnot
   . exact g
   . rw[g] at this;cases this
  rw[NK,List.pairwise_append,List.pairwise_cons];refine⟨h'.1,⟨hd,h'.2.1⟩,fun a ha b hb=>?_⟩;rcases List.mem_cons.1 hb with rfl|hb
  . exact ht a ha
  . exact h'.2.2 a ha b hb
def FZ (AJ:List (List Nt)):List Int:=AJ.flatMap (fun n=>-2::n.map (fun x=>x.2.2))
def CZ (b:Bd):List Int:=b.AK++b.AO++b.sn++FZ b.AJ
def Ak (b:Bd):List Int:=b.sn++b.AM
def FV (b:Bd):Bd:={ b with fr:=[],rws:=[] }
theorem Ut (AA:List (List Dd))(es:List Ev)(b:Bd)(c k:Nat):FV (BA AA es (FV b) c k)=FV (BA AA es b c k):=by
 unfold BA;split
 . rfl
 ·
  split
  . rfl
  ·
   split
   . rfl
   . split<;>rfl
theorem QK (AA:List (List Dd))(es:List Ev)(b:Bd)(c:Nat):FV (Ag AA es (FV b) c)=FV (Ag AA es b c):=by
 have h:=Ut AA es b c (Aj b c);have e:Aj (FV b) c=Aj b c:=rfl;unfold Ag;rw[e];simp only[FV] at h ⊢;injection h with h1 h2 h3 h4 h5;rw[h1,h2,h3,h5]
def DV (b b':Bd):Prop:=FV b=FV b'
theorem Uk {AA:List (List Dd)}{es:List Ev}{b b':Bd}(h:DV b b')(c:Nat):DV (Ag AA es b c) (Ag AA es b' c):=by
 unfold DV at h ⊢;rw[<-QK,h,QK]
theorem FU {b b':Bd}(h:DV b b'):b.AK=b'.AK/\b.AJ=b'.AJ/\b.sn=b'.sn/\b.AM=b'.AM/\b.AO=b'.AO:=by
 unfold DV FV at h;injection h with h1 h2 h3 h4 h5;exact⟨h4,h3,h5,h1,h2⟩
theorem QF {AA:List (List Dd)}{es:List Ev}(g:Int)(c:Nat):∀(m:Nat) (b b':Bd),DV b b'->DV (EE AA es g c m b) (EE AA es g c m b')
 | 0,_,_,h=>h
 |m+1,b,b',h=>by
  have h1:=Uk (AA:=AA) (es:=es) h c;have e:Aj (Ag AA es b c) c=Aj (Ag AA es b' c) c:=by unfold Aj;rw[(FU h1).1]
  rw[EE,EE,e];split
  . exact h1
  . exact QF g c m _ _ h1
theorem QE {b b':Bd}(h:DV b b')(c:Nat):DV (BG b c) (BG b' c):=by
 obtain⟨h1,h2,h3,h4,h5⟩:=FU h;unfold BG;rw[h2];split
 . exact h
 ·
  unfold DV FV Db;simp only;rw[h1,h3,h4,h5]
theorem Ic {AA:List (List Dd)}{es:List Ev}{b b':Bd}(h:DV b b')(s:Int):DV (Ao AA es b s) (Ao AA es b' s):=by
 unfold Ao;have e:Aj b s.toNat=Aj b' s.toNat:=by unfold Aj;rw[(FU h).1]
 split
 . exact QE h _
 . rw[e];exact QF _ _ _ _ _ h
theorem QH {AA:List (List Dd)}{es:List Ev}{b b':Bd}(h:DV b b')(c:Nat):DV (Bv AA es b c) (Bv AA es b' c):=by
 have h1:=Ic (AA:=AA) (es:=es) h (c:Int);unfold Bv;rw[(FU h1).2.1];split
 . exact h1
 . exact Ic h1 _
theorem Ib {AA:List (List Dd)}{b b':Bd}(h:DV b b'):An AA b=An AA b'/\DF AA b=DF AA b'/\CZ b=CZ b'/\Ak b=Ak b':=by
 obtain⟨h1,h2,h3,h4,h5⟩:=FU h;have hn:∀c,Aj b c=Aj b' c:=fun c=>by unfold Aj;rw[h1]
 refine⟨?_,?_,?_,?_⟩
 ·
  unfold An;have:Bx AA b=Bx AA b':=by funext c;unfold Bx;rw[hn,h2]
  rw[this,h2]
 ·
  unfold DF;rw[h2]
  congr 1
  funext c;rw[hn]
 . unfold CZ;rw[h1,h2,h3,h5]
 . unfold Ak;rw[h3,h4]
theorem VD:∀L:List (List Int),(L.flatMap (fun l=>(-2:Int)::l)).takeWhile (fun x=>decide (0<=x))=[]
 | []=>rfl
 |l::L=>by rw[List.flatMap_cons,List.cons_append,List.takeWhile_cons];simp
theorem Qe:∀(L L':List (List Int)),(∀l∈L,∀x∈l,0<=x)->(∀l∈L',∀x∈l,0<=x)->L.flatMap (fun l=>(-2:Int)::l)=L'.flatMap (fun l=>(-2:Int)::l)->L=L'
 | [],[],_,_,_=>rfl
 | [],_::_,_,_,h=>by simp at h
 |_::_,[],_,_,h=>by simp at h
 |l::L,l'::L',h1,h2,h=>by
  rw[List.flatMap_cons,List.flatMap_cons,List.cons_append,List.cons_append,List.cons.injEq] at h
  have t:∀(l:List Int) (L:List (List Int)),(∀x∈l,0<=x)->(l++L.flatMap (fun l=>(-2:Int)::l)).takeWhile (fun x=>decide (0<=x))=l:=by
   intro l L hl;rw[List.takeWhile_append_of_pos (fun x hx=>by simpa using hl x hx),VD,List.append_nil]
  have e1:=t l L (h1 l (by simp));have e2:=t l' L' (h2 l' (by simp));rw[h.2] at e1;have e:l=l':=e1.symm.trans e2;subst e;rw[Qe L L' (fun l hl=>h1 l (List.mem_cons_of_mem _ hl)) (fun l hl=>h2 l (List.mem_cons_of_mem _ hl)) (List.append_cancel_left h.2)]
theorem Qg {AA:List (List Dd)}{b:Bd}{a:Ab}(R:Wh AA b a):FZ b.AJ=((List.range AA.length).map (fun c=>(a.N c).map Int.ofNat)).flatMap (fun l=>(-2:Int)::l):=by
 unfold FZ;rw[R.AJ,List.flatMap_map,List.flatMap_map]
 congr 1
 funext c;rw[List.map_map];rfl
theorem KC {AA:List (List Dd)}{b b':Bd}{a a':Ab}(R:Wh AA b a)(R':Wh AA b' a')(h:CZ b=CZ b'):DV b b':=by
 unfold CZ at h;have l1:b.AK.length=b'.AK.length:=by rw[R.AK,R'.AK];simp
 have l2:b.AO.length=b'.AO.length:=by rw[R.AO,R'.AO];simp
 have l3:b.sn.length=b'.sn.length:=by rw[R.sn,R'.sn];simp
 obtain⟨h1,h4⟩:=List.append_inj h (by simp[l1,l2,l3]);obtain⟨h1,h3⟩:=List.append_inj h1 (by simp[l1,l2]);obtain⟨h1,h2⟩:=List.append_inj h1 l1;rw[Qg R,Qg R'] at h4
 have hp:∀(a:Ab),∀l∈(List.range AA.length).map (fun c=>(a.N c).map Int.ofNat),∀x∈l,0<=x:=by
  intro a l hl x hx;obtain⟨c,_,rfl⟩:=List.mem_map.1 hl;obtain⟨y,_,rfl⟩:=List.mem_map.1 hx;exact Int.natCast_nonneg y
 have h5:=Qe _ _ (hp a) (hp a') h4
 have hN:∀c,c<AA.length->a.N c=a'.N c:=by
  intro c hc;have:=congrArg (fun l=>l.getD c []) h5;rw[Cw _ _ hc,Cw _ _ hc] at this;exact List.map_inj_right (fun x y e=>Int.ofNat.inj e) |>.1 this
 have hl:∀p,p<3->BM a p=BM a' p:=by
  intro p hp;have e1:=(KH R hp).1;have e2:=(KH R' hp).1;rw[h2] at e1;omega
 unfold DV FV
 have YE:b.AJ=b'.AJ:=by
  rw[R.AJ,R'.AJ];refine List.map_congr_left (fun c hc=>?_);rw[hN c (List.mem_range.1 hc)]
 have uq:b.AM=b'.AM:=by
  rw[R.AM,R'.AM];refine List.map_congr_left (fun p hp=>?_);rw[hl p (List.mem_range.1 hp)]
 rw[h1,h2,h3,YE,uq]
theorem SK {AA:List (List Dd)}{b:Bd}(h:DF AA b=true):An AA b=[]:=by
 unfold DF at h;rw[List.all_eq_true] at h;unfold An;rw[List.append_eq_nil_iff,List.map_eq_nil_iff,List.map_eq_nil_iff,List.filter_eq_nil_iff,List.filter_eq_nil_iff];constructor
 ·
  intro c hc;have:=h c hc;simp only[Bool.and_eq_true,decide_eq_true_eq] at this;unfold Bx;simp only[Bool.and_eq_true,decide_eq_true_eq,not_and];intro h2;omega
 ·
  intro c hc;have:=h c hc;simp only[Bool.and_eq_true] at this;rw[this.2];simp
theorem VX {AA:List (List Dd)}(hb:AL AA=true):QI AA (Ci AA) Ir (fun _=>0) 0 (-1):=by
 have hX:∀j,(Cr AA Ir (fun _=>0)).X j->j<3:=by
  intro j hj;have:=hj.2;unfold D2 Ir at this;simp at this;omega
 refine⟨(LQ hb).1,(LQ hb).2,fun _=>rfl,fun i j hi _ h3=>?_⟩;have:=hX i hi.1;omega
def Bh (AA:List (List Dd))(es:List Ev)(quick:Bool)(b:Bd):List Bd:=
 ((An AA b).filter (fun s=>!(quick&&decide (10<=s)))).map (fun s=>if quick=true then Bv AA es b s.toNat else Ao AA es b s)
inductive Bi (AA:List (List Dd)) (quick:Bool):Bd->Prop
 |new:Bi AA quick (Ci AA)
 |step {b x:Bd}:Bi AA quick b->x∈Bh AA (AB AA) quick b->Bi AA quick x
structure SS where
 ends:List (List Int)
 seen:List (List Int)
 opn:List Bd
def Iy (AA:List (List Dd))(es:List Ev)(quick:Bool)(S:SS):SS:=
 match S.opn.getLast? with
 |none=>S
 |some b=>
  if PD S.seen (CZ b)=true then { S with opn:=S.opn.dropLast }
  else if DF AA b=true then { ends:=Dv S.ends (Ak b),seen:=Dv S.seen (CZ b),opn:=S.opn.dropLast }
  else { ends:=S.ends,seen:=Dv S.seen (CZ b),opn:=S.opn.dropLast++Bh AA es quick b }
theorem KM {AA:List (List Dd)}{b:Bd}{s:Int}(h:s∈An AA b)(hl3:AA.length<=3):(∃c:Nat,s=(c:Int)/\c<AA.length/\Bx AA b c=true/\s<10)\/(∃c:Nat,s=10+(c:Int)/\c<AA.length/\b.AJ.getD c []≠[]/\10<=s):=by
 unfold An at h;rw[List.mem_append,List.mem_map,List.mem_map] at h;rcases h with ⟨c,hc,e⟩|⟨c,hc,e⟩
 ·
  rw[List.mem_filter,List.mem_range] at hc;exact .inl ⟨c,e.symm,hc.1,hc.2,by omega⟩
 ·
  rw[List.mem_filter,List.mem_range] at hc;refine .inr ⟨c,e.symm,hc.1,fun h=>?_,by omega⟩;rw[h] at hc;simp at hc
theorem Gz {AA:List (List Dd)}{es:List Ev}(hb:AL AA=true){quick:Bool}{b x:Bd}(h:x∈Bh AA es quick b):
  (quick=true/\∃c,c<AA.length/\Bx AA b c=true/\x=Bv AA es b c)\/(quick=false/\∃s,Mx (An AA b) s=true/\x=Ao AA es b s):=by
 unfold Bh at h;rw[List.mem_map] at h;obtain⟨s,hs,e⟩:=h;rw[List.mem_filter] at hs
 cases quick with
 |true=>
  rw[if_pos rfl] at e;rcases KM hs.1 (C6 hb) with ⟨c,ec,h1,h2,_⟩|⟨c,ec,h1,h2,h3⟩
  ·
   refine .inl ⟨rfl,c,h1,h2,?_⟩;rw[<-e,ec,Int.toNat_natCast]
  ·
   have:=hs.2;rw[decide_eq_true h3] at this;simp at this
 |false=>
  rw[if_neg (by simp)] at e;exact .inr ⟨rfl,s,Je hs.1,e.symm⟩
theorem Ay {AA:List (List Dd)}(hb:AL AA=true){quick:Bool}{b:Bd}(h:Bi AA quick b):∃a τ T z,MI AA b a τ T z/\BD AA a/\(quick=true->QI AA b a τ T z):=by
 induction h with
 |new=>exact⟨_,_,_,_,(LQ hb).1,(LQ hb).2,fun _=>VX hb⟩
 |step hr hx ih=>
  obtain⟨a,τ,T,z,M,B,Q⟩:=ih;rcases Gz hb hx with ⟨hq,c,hc,hcan,rfl⟩|⟨hq,s,hs,rfl⟩
  ·
   obtain⟨a',τ',T',z',Q'⟩:=Vo hb (Q hq) hc hcan;exact⟨a',τ',T',z',Q'.mi,Q'.bd,fun _=>Q'⟩
  ·
   obtain⟨a',τ',z',M',B'⟩:=ZC hb M B hs;exact⟨a',τ',T+1,z',M',B',fun h=>by rw[hq] at h;cases h⟩
theorem QG {AA:List (List Dd)}{es:List Ev}{quick:Bool}{b b':Bd}(h:DV b b'){x:Bd}(hx:x∈Bh AA es quick b):∃x',x'∈Bh AA es quick b'/\DV x x':=by
 unfold Bh at hx ⊢;rw[List.mem_map] at hx;obtain⟨s,hs,e⟩:=hx;rw[(Ib (AA:=AA) h).1] at hs;refine⟨_,List.mem_map.2 ⟨s,hs,rfl⟩,?_⟩;rw[<-e];split
 . exact QH h _
 . exact Ic h _
structure SI (AA:List (List Dd))(quick:Bool)(S:SS):Prop where
 oe:NK S.ends
 os:NK S.seen
 opn:∀b,b∈S.opn->Bi AA quick b
 ends:∀e,e∈S.ends->∃b,Bi AA quick b/\DF AA b=true/\e=Ak b
 seen:∀k,k∈S.seen->∃b,Bi AA quick b/\CZ b=k/\(DF AA b=true->Ak b∈S.ends)/\(DF AA b=false->∀x,x∈Bh AA (AB AA) quick b->CZ x∈S.seen\/x∈S.opn)
 ES:CZ (Ci AA)∈S.seen\/Ci AA∈S.opn
theorem jo (AA:List (List Dd))(quick:Bool):SI AA quick { ends:=[],seen:=[],opn:=[Ci AA] }:=
 ⟨List.Pairwise.nil,List.Pairwise.nil,fun b hb=>by rw[List.mem_singleton] at hb;rw[hb];exact .new,fun e he=>(by cases he),fun k hk=>(by cases hk),.inr (List.mem_singleton.2 rfl)⟩
theorem Se {α:Type}{l:List α}{b:α}(h:l.getLast? = some b)(x:α):x∈l↔x∈l.dropLast\/x=b:=by
 obtain⟨l',rfl⟩:=List.getLast?_eq_some_iff.1 h;rw[List.dropLast_concat,List.mem_append,List.mem_singleton]
theorem S8 {AA:List (List Dd)}{quick:Bool}{S:SS}(h:SI AA quick S):SI AA quick (Iy AA (AB AA) quick S):=by
 unfold Iy
 cases hl:S.opn.getLast? with
 |none=>exact h
 |some b=>
  have hm:=Se hl;have hbr:Bi AA quick b:=h.opn b ((hm b).2 (.inr rfl));show SI AA quick (if PD S.seen (CZ b)=true then _ else _);by_cases hs:PD S.seen (CZ b)=true
  ·
   rw[if_pos hs];have hk:=(PE h.os _).1 hs;refine⟨h.oe,h.os,fun x hx=>h.opn x ((hm x).2 (.inl hx)),h.ends,fun k hk'=>?_,?_⟩
   ·
    obtain⟨y,y1,y2,y3,y4⟩:=h.seen k hk';refine⟨y,y1,y2,y3,fun he x hx=>?_⟩;rcases y4 he x hx with g|g
    . exact .inl g
    ·
     rcases (hm x).1 g with g|g
     . exact .inr g
     . exact .inl (by rw[g];exact hk)
   ·
    rcases h.ES with g|g
    . exact .inl g
    ·
     rcases (hm _).1 g with g|g
     . exact .inr g
     . exact .inl (by rw[g];exact hk)
  ·
   rw[if_neg hs];have hp:=UM S.seen h.os (CZ b);by_cases he:DF AA b=true
   ·
    rw[if_pos he];have hpe:=UM S.ends h.oe (Ak b);refine⟨PW h.oe _,PW h.os _,fun x hx=>h.opn x ((hm x).2 (.inl hx)),fun e hx=>?_,fun k hk'=>?_,?_⟩
    ·
     rcases (hpe e).1 hx with g|g
     . exact h.ends e g
     . exact⟨b,hbr,he,g⟩
    ·
     rcases (hp k).1 hk' with g|g
     ·
      obtain⟨y,y1,y2,y3,y4⟩:=h.seen k g;refine⟨y,y1,y2,fun he=>(hpe _).2 (.inl (y3 he)),fun he x hx=>?_⟩;rcases y4 he x hx with g|g
      . exact .inl ((hp _).2 (.inl g))
      ·
       rcases (hm x).1 g with g|g
       . exact .inr g
       . exact .inl ((hp _).2 (.inr (by rw[g])))
     . exact⟨b,hbr,g.symm,fun _=>(hpe _).2 (.inr rfl),fun h'=>by rw[he] at h';cases h'⟩
    ·
     rcases h.ES with g|g
     . exact .inl ((hp _).2 (.inl g))
     ·
      rcases (hm _).1 g with g|g
      . exact .inr g
      . exact .inl ((hp _).2 (.inr (by rw[g])))
   ·
    rw[if_neg he];refine⟨h.oe,PW h.os _,fun x hx=>?_,h.ends,fun k hk'=>?_,?_⟩
    ·
     rcases List.mem_append.1 hx with g|g
     . exact h.opn x ((hm x).2 (.inl g))
     . exact .step hbr g
    ·
     rcases (hp k).1 hk' with g|g
     ·
      obtain⟨y,y1,y2,y3,y4⟩:=h.seen k g;refine⟨y,y1,y2,y3,fun he x hx=>?_⟩;rcases y4 he x hx with g|g
      . exact .inl ((hp _).2 (.inl g))
      ·
       rcases (hm x).1 g with g|g
       . exact .inr (List.mem_append_left _ g)
       . exact .inl ((hp _).2 (.inr (by rw[g])))
     . exact⟨b,hbr,g.symm,fun h'=>absurd h' he,fun _ x hx => .inr (List.mem_append_right _ hx)⟩
    ·
     rcases h.ES with g|g
     . exact .inl ((hp _).2 (.inl g))
     ·
      rcases (hm _).1 g with g|g
      . exact .inr (List.mem_append_left _ g)
      . exact .inl ((hp _).2 (.inr (by rw[g])))
def GX (AA:List (List Dd))(quick:Bool)(l:List (List Int)):Prop:=NK l/\∀x,x∈l↔∃b,Bi AA quick b/\DF AA b=true/\x=Ak b
theorem Xm {AA:List (List Dd)}{quick:Bool}{l l':List (List Int)}(h:GX AA quick l)(h':GX AA quick l'):l=l':=dJ h.1 h'.1 (fun x=>by rw[h.2,h'.2])
theorem SH {AA:List (List Dd)}{es:List Ev}{quick:Bool}{b x:Bd}(hx:x∈Bh AA es quick b):DF AA b=false:=by
 cases he:DF AA b with
 |false=>rfl
 |true=>
  unfold Bh at hx;rw[SK he] at hx;cases hx
theorem RO {AA:List (List Dd)}(hb:AL AA=true){quick:Bool}{S:SS}(h:SI AA quick S)(h0:S.opn=[]):GX AA quick S.ends:=by
 have all:∀b,Bi AA quick b->CZ b∈S.seen:=by
  intro b hr
  induction hr with
  |new=>
   rcases h.ES with g|g
   . exact g
   . rw[h0] at g;cases g
  | @step b x hr hx ih=>
   obtain⟨y,y1,y2,y3,y4⟩:=h.seen _ ih;obtain⟨a,_,_,_,M,_⟩:=Ay hb hr;obtain⟨a',_,_,_,M',_⟩:=Ay hb y1;have al:=KC M.Bo M'.Bo y2.symm;obtain⟨x',hx',ax⟩:=QG al hx;have:=y4 (SH hx') x' hx';rw[h0] at this;rw[(Ib (AA:=AA) ax).2.2.1];exact this.resolve_right (by simp)
 refine⟨h.oe,fun x=>⟨h.ends x,?_⟩⟩;rintro⟨b,hr,he,rfl⟩;obtain⟨y,y1,y2,y3,y4⟩:=h.seen _ (all b hr);obtain⟨a,_,_,_,M,_⟩:=Ay hb hr;obtain⟨a',_,_,_,M',_⟩:=Ay hb y1;have al:=Ib (AA:=AA) (KC M.Bo M'.Bo y2.symm);rw[al.2.2.2];exact y3 (by rw[<-al.2.1];exact he)
theorem Yz {AA:List (List Dd)}{b:Bd}{a:Ab}(R:Wh AA b a):LN AA b/\∀c,0<=b.AK.getD c 0:=by
 refine⟨⟨by rw[R.AK];simp,by rw[R.AJ];simp⟩,fun c=>?_⟩;by_cases hc:c<AA.length
 . rw[(Dp R hc).1];exact Int.natCast_nonneg _
 ·
  rw[List.getD_eq_getElem?_getD,List.getElem?_eq_none (by rw[R.AK];simp;omega)];exact Int.le_refl _
theorem VW {AA:List (List Dd)}(hb:AL AA=true){es:List Ev}{b:Bd}(hL:LN AA b)(h0:∀c,0<=b.AK.getD c 0){c:Nat}(hc:c<AA.length)(hcan:Bx AA b c=true):Df AA (Bv AA es b c)+1<=Df AA b:=by
 obtain⟨m1,m2,m3⟩:=Jf hb (es:=es) hL h0 (Q9 hc hcan);unfold Bv;split
 . exact m1
 ·
  rename_i hne;have:=Jf hb (es:=es) m2 m3 (Sp hc (fun h=>hne (by rw[h];rfl)));omega
theorem Hu {AA:List (List Dd)}(hb:AL AA=true){quick:Bool}{b x:Bd}(hr:Bi AA quick b)(hx:x∈Bh AA (AB AA) quick b):Df AA x+1<=Df AA b:=by
 obtain⟨a,_,_,_,M,_⟩:=Ay hb hr;obtain⟨hL,h0⟩:=Yz M.Bo;rcases Gz hb hx with ⟨_,c,hc,hcan,rfl⟩|⟨_,s,hs,rfl⟩
 . exact VW hb hL h0 hc hcan
 . exact (Jf hb hL h0 hs).1
theorem Ht {AA:List (List Dd)}(hb:AL AA=true){es:List Ev}{quick:Bool}{b:Bd}:(Bh AA es quick b).length<=6:=by
 have hl3:=C6 hb;unfold Bh;rw[List.length_map];refine Nat.le_trans (List.length_filter_le _ _) ?_;unfold An;rw[List.length_append,List.length_map,List.length_map];have h1:=List.length_filter_le (Bx AA b) (List.range AA.length);have h2:=List.length_filter_le (fun c=>!(b.AJ.getD c []).isEmpty) (List.range AA.length);rw[List.length_range] at h1 h2;omega
def JF (AA:List (List Dd))(l:List Bd):Nat:=(l.map (fun b=>7 ^ Df AA b)).sum
theorem OY (AA:List (List Dd))(a b:List Bd):JF AA (a++b)=JF AA a+JF AA b:=by
 unfold JF;rw[List.map_append,List.sum_append]
theorem Ri {AA:List (List Dd)}{w:Nat}:∀l:List Bd,(∀x,x∈l->7 ^ Df AA x<=w)->JF AA l<=l.length*w
 | [],_=>by unfold JF;simp
 |x::l,h=>by
  have h1:=Ri l (fun y hy=>h y (List.mem_cons_of_mem _ hy));have h2:=h x (by simp);have:JF AA (x::l)=7 ^ Df AA x+JF AA l:=by unfold JF;rw[List.map_cons,List.sum_cons]
  rw[this,List.length_cons,Nat.add_mul];omega
theorem Yc {AA:List (List Dd)}(hb:AL AA=true){quick:Bool}{b:Bd}(hr:Bi AA quick b):JF AA (Bh AA (AB AA) quick b)<7 ^ Df AA b:=by
 by_cases hn:Bh AA (AB AA) quick b=[]
 ·
  rw[hn];exact Nat.pow_pos (by omega)
 ·
  obtain⟨x,hx⟩:=List.exists_mem_of_ne_nil _ hn;have h1:=Hu hb hr hx
  have h2:=Ri (AA:=AA) (w:=7 ^ (Df AA b-1)) (Bh AA (AB AA) quick b) (fun y hy=>by
   have:=Hu hb hr hy
   exact Nat.pow_le_pow_right (by omega) (by omega))
  have h3:=Ht hb (es:=AB AA) (quick:=quick) (b:=b)
  have h4:7 ^ Df AA b=7*7 ^ (Df AA b-1):=by
   rw[<-Nat.pow_succ',show (Df AA b-1).succ=Df AA b by omega]
  have h5:0<7 ^ (Df AA b-1):=Nat.pow_pos (by omega);have h6:=Nat.mul_le_mul_right (7 ^ (Df AA b-1)) h3;omega
theorem TH {AA:List (List Dd)}(hb:AL AA=true){quick:Bool}{S:SS}(h:SI AA quick S)(hne:S.opn≠[]):JF AA (Iy AA (AB AA) quick S).opn<JF AA S.opn:=by
 unfold Iy
 cases hl:S.opn.getLast? with
 |none=>exact absurd (List.getLast?_eq_none_iff.1 hl) hne
 |some b=>
  obtain⟨l',e⟩:=List.getLast?_eq_some_iff.1 hl;have hbr:Bi AA quick b:=h.opn b (by rw[e];simp);have e1:JF AA S.opn=JF AA l'+7 ^ Df AA b:=by rw[e,OY];unfold JF;simp
  have e2:S.opn.dropLast=l':=by rw[e,List.dropLast_concat]
  have hp:0<7 ^ Df AA b:=Nat.pow_pos (by omega);show JF AA (if PD S.seen (CZ b)=true then _ else _:SS).opn<_;split
  ·
   show JF AA S.opn.dropLast<_;rw[e2,e1];omega
  ·
   split
   ·
    show JF AA S.opn.dropLast<_;rw[e2,e1];omega
   ·
    show JF AA (S.opn.dropLast++_)<_;rw[OY,e2,e1];have:=Yc hb hbr;omega
def II (l:List Int)(lo hi:Int)(most:Nat):Bool:=l.all (fun x=>decide (lo<=x)&&decide (x<=hi))&&decide (l.length<=most)
def kZ (n:Int)(x:Nt):Bool:=(decide (0<=x.1)&&decide (x.1<=2))&&((decide (0<=x.2.1)&&decide (x.2.1<=9))&&(decide (0<=x.2.2)&&decide (x.2.2<=n-1)))
def Yg (n:Int)(l:List Nt):Bool:=l.all (kZ n)
def Td (AA:List (List Dd))(n:Int)(b:Bd)(i:Nat):Bool:=
 (decide (0<=b.AK.getD i 0)&&decide (b.AK.getD i 0<=((AA.getD i []).length:Int)))&&(decide ((b.AJ.getD i []).length<=8)&&Yg n (b.AJ.getD i []))
def He (AA:List (List Dd))(b:Bd):Bool:=
 AL AA&&(decide (b.AM.length=3)&&(decide (b.AO.length=3)&&(decide (b.rws.length=3)&&(decide (b.AJ.length=AA.length)&&decide (b.AK.length=AA.length)))))
def Lu (n:Int)(r:Nat)(b:Bd):Bool:=
 decide (b.sn.length=r)&&(decide (b.fr.length=r)&&(II b.AM 0 9 3&&(II b.AO 0 (n-1) 3&&(II b.sn (-1) 9 12&&II b.fr (-1) (n-1) 12))))
def Iw (n:Int)(b:Bd):Bool:=(List.range 3).all (fun i=>II (b.rws.getD i []) 0 (n-1) 20)
def Am (AA:List (List Dd))(b:Bd):Bool:=
 He AA b&&(Lu ((AB AA).length:Int) (AX Ae (AB AA)).length b&&(Iw ((AB AA).length:Int) b&&(List.range AA.length).all (fun i=>Td AA ((AB AA).length:Int) b i)))
theorem D9 {n k:Nat}{f:Nat->Bool}(hk:k<n)(h:f k=false):(List.range n).all f=false:=by
 rw[List.all_eq_false];exact⟨k,List.mem_range.2 hk,by rw[h];simp⟩
theorem EZ {n:Nat}{f:Nat->Bool}(h:∀k,k<n->f k=true):(List.range n).all f=true:=by
 rw[List.all_eq_true];exact fun k hk=>h k (List.mem_range.1 hk)
theorem R6 {AA:List (List Dd)}{b:Bd}(h:Am AA b=true):b.AJ.length=AA.length/\b.AK.length=AA.length:=by
 unfold Am He at h;simp only[Bool.and_eq_true,decide_eq_true_eq] at h;exact⟨h.1.2.2.2.2.1,h.1.2.2.2.2.2⟩
theorem JT {AA:List (List Dd)}(hb:AL AA=true){j:Nat}(hj:j<(AB AA).length):(0<=IQ AA j/\IQ AA j<=9)/\0<=Zb AA j/\Zb AA j<=2:=by
 by_cases h3:j<3
 ·
  have e:=(Ls (AA:=AA) (by simp only[AL,Bool.and_eq_true,decide_eq_true_eq] at hb;intro i hi;have:=List.all_eq_true.1 hb.1.1.1.2 _ (List.getElem_mem hi);rw[List.getD_eq_getElem?_getD,List.getElem?_eq_getElem hi];exact this) AA.length (Nat.le_refl _)).1;obtain⟨t,ht⟩:=e;have e1:AB AA=B5++t:=by rw[AB,if_pos hb,ht]
  unfold IQ Zb;rw[e1,List.getD_eq_getElem?_getD,List.getElem?_append_left (by simp[B5];omega)];have:j=0\/j=1\/j=2:=by omega
  rcases this with rfl|rfl|rfl<;>simp[B5]
 ·
  obtain⟨c,k,i,E⟩:=Fu hb (by omega) hj;have hd:=Bu hb E.hc k E.hk;unfold IQ Zb;rw[E.at hb];simp only;unfold WE;have hd':=hd;unfold Ai at hd' ⊢;simp only[Eu,Dn,decide_eq_true_eq] at hd';split<;>omega
theorem aG (AA:List (List Dd)):(AB AA).length<=9:=by
 unfold AB;split
 ·
  rename_i h;simp only[AL,Bool.and_eq_true,decide_eq_true_eq] at h;obtain⟨⟨⟨⟨_,h2⟩,_⟩,h4⟩,_⟩:=h;have:=Gr (fun i hi=>Be [] h2 i hi) AA.length (Nat.le_refl _);omega
 . simp
theorem Ny {lo n:Nat}:∀ {l:List Nat},l.Nodup->(∀x∈l,lo<=x/\x<n)->l.length<=n-lo:=fun {l} hn h=>by
 have hs:∀x∈l,x∈List.range' lo (n-lo):=fun x hx=>by
  have:=h x hx;rw[List.mem_range'_1];omega
 have:l.length<=(List.range' lo (n-lo)).length:=by
  clear h;generalize List.range' lo (n-lo)=r at hs
  induction l generalizing r with
  |nil=>simp
  |cons x t ih=>
   rw[List.nodup_cons] at hn;have hx:=hs x (by simp);have:=ih hn.2 (r.erase x) (fun y hy=>(List.mem_erase_of_ne (fun e=>hn.1 (by rw[<-e];exact hy))).2 (hs y (by simp[hy])));rw[List.length_erase_of_mem hx] at this;have:0<r.length:=List.length_pos_of_mem hx;simp only[List.length_cons];omega
 simpa using this
theorem Gg {α:Type}(l:List α)(f:α->Int){lo hi:Int}{most:Nat}(h:∀x∈l,lo<=f x/\f x<=hi)(hm:l.length<=most):II (l.map f) lo hi most=true:=by
 unfold II;rw[Bool.and_eq_true,List.all_eq_true,decide_eq_true_eq,List.length_map];refine⟨fun y hy=>?_,hm⟩;obtain⟨x,hx,rfl⟩:=List.mem_map.1 hy;have:=h x hx;simp[this]
theorem Gx {AA:List (List Dd)}(hb:AL AA=true){b:Bd}{a:Ab}{τ:Nat->Nat}{T:Nat}{z:Int}(M:MI AA b a τ T z):Am AA b=true:=by
 have h9:=aG AA;have R:=M.Bo;have I:=M.inv
 have hlen3:3<=(AB AA).length:=by
  have:=I.lt 2 (I.ES 2 (by omega)).1;exact this
 have Y2:∀p x,x∈a.R p->x<(AB AA).length:=fun p x hx=>I.lt x ((I.rows p x).1 hx).1.1
 have Yd:∀c x,x∈a.N c->3<=x/\x<(AB AA).length:=fun c x hx=>by
  have hx':x∈(Cr AA a τ).N (c:Int):=by rw[IP];exact hx
  have:=I.note (c:Int) x hx';exact⟨this.2.1,I.lt x this.1⟩
 have hlast:∀p,p<3->BM a p<(AB AA).length:=fun p hp=>by
  unfold BM
  cases hl:(a.R p).getLast? with
  |none=>show p<_;omega
  |some x=>exact Y2 p x (List.mem_of_getLast? hl)
 have hF:∀r,r<(AB AA).length->((AB AA).getD r zE).2.2.1=true->D2 AA a r=true->a.F r<(AB AA).length:=fun r h1 h2 h3=>I.lt _ (I.src r ⟨h1,h3⟩ h2).1
 have hx12:(AB AA).length<=12:=by omega
 have rl:(AX Ae (AB AA)).length<=12:=by
  unfold AX;rw[if_pos hx12];have:=D4 Ae (AB AA) (AB AA).length;omega
 have pu:∀r∈AX Ae (AB AA),(0<=r/\r<((AB AA).length:Int))/\((AB AA).getD r.toNat zE).2.2.1=true:=fun r hr=>by
  unfold AX at hr;rw[if_pos hx12] at hr;exact⟨Ho _ _ _ _ hr,JZ _ _ _ _ hr⟩
 unfold Am;rw[Bool.and_eq_true,Bool.and_eq_true,Bool.and_eq_true];refine⟨?_,?_,?_,?_⟩
 ·
  unfold He;rw[hb,R.AM,R.AO,R.rws,R.AJ,R.AK];simp
 ·
  unfold Lu;rw[R.sn,R.fr,R.AM,R.AO,List.length_map,List.length_map];simp only[decide_true,Bool.true_and,Bool.and_eq_true];refine⟨Gg _ _ (fun p hp=>(JT hb (hlast p (List.mem_range.1 hp))).1) (by simp),Gg _ _ (fun p hp=>by have:=hlast p (List.mem_range.1 hp);omega) (by simp),Gg _ _ (fun r hr=>?_) rl,Gg _ _ (fun r hr=>?_) rl⟩
  ·
   obtain⟨h1,h2⟩:=pu r hr;by_cases hE:D2 AA a r.toNat=true
   ·
    rw[if_pos hE];have:=(JT hb (hF r.toNat (by omega) h2 hE)).1;omega
   . rw[if_neg hE];omega
  ·
   obtain⟨h1,h2⟩:=pu r hr;by_cases hE:D2 AA a r.toNat=true
   ·
    rw[if_pos hE];have:=hF r.toNat (by omega) h2 hE;omega
   . rw[if_neg hE];omega
 ·
  unfold Iw;rw[List.all_eq_true];intro p hp;rw[R.rws,Cw _ _ (List.mem_range.1 hp)];refine Gg _ _ (fun x hx=>by have:=Y2 p x hx;exact⟨Int.natCast_nonneg _,by show (x:Int)<=_;omega⟩) ?_;have:=Ny (lo:=0) (I.Ph p) (fun x hx=>⟨Nat.zero_le _,Y2 p x hx⟩);have e:(Cr AA a τ).R p=a.R p:=rfl;rw[e] at this;omega
 ·
  rw[List.all_eq_true];intro c hc;have hc:=List.mem_range.1 hc;unfold Td;rw[(Dp R hc).1,R.AJ,Cw _ _ hc,List.length_map];have h1:=M.UD c hc
  have hnd:(a.N c).Nodup:=by
   have:=I.Kz (c:Int);rw[IP] at this;exact this.imp (fun h=>Nat.ne_of_lt h)
  have h2:=Ny hnd (Yd c);simp only[Bool.and_eq_true,decide_eq_true_eq];refine⟨⟨by omega,by omega⟩,by omega,?_⟩;unfold Yg;rw[List.all_eq_true];intro y hy;obtain⟨x,hx,rfl⟩:=List.mem_map.1 hy;have hn:=Yd c x hx;have:=JT hb hn.2;unfold kZ Va;simp only[Bool.and_eq_true,decide_eq_true_eq];omega
def WI (es:List Ev)(c k i:Nat):Bool:=((es.getD i zE).1==(c:Int))&&((es.getD i zE).2.1==(k:Int))
theorem aC {es:List Ev}{c k i:Nat}(h3:3<=i)(hi:i<es.length)(hn:∀j,3<=j->j<i->WI es c k j=false)(h:WI es c k i=true):Jv es c k=(i:Int):=by
 unfold Jv
 have e:(List.range es.length).find? (fun i=>decide (3<=i)&&((es.getD i zE).1==(c:Int))&&((es.getD i zE).2.1==(k:Int)))=some i:=by
  rw[List.find?_eq_some_iff_getElem];refine⟨?_,i,by simpa using hi,by simp,fun j hj=>?_⟩
  ·
   unfold WI at h;rw[Bool.and_assoc,h];simp[h3]
  ·
   simp only[List.getElem_range];by_cases h3:3<=j
   ·
    have:=hn j h3 hj;unfold WI at this;rw[Bool.and_assoc,this];simp
   . simp[h3]
 rw[e]
theorem Xr {es:List Ev}{c k:Nat}(hn:∀j,3<=j->j<es.length->WI es c k j=false):Jv es c k=-1:=by
 unfold Jv
 have e:(List.range es.length).find? (fun i=>decide (3<=i)&&((es.getD i zE).1==(c:Int))&&((es.getD i zE).2.1==(k:Int)))=none:=by
  rw[List.find?_eq_none];intro j hj;by_cases h3:3<=j
  ·
   have:=hn j h3 (List.mem_range.1 hj);unfold WI at this;rw[Bool.and_assoc,this];simp
  . simp[h3]
 rw[e]
theorem jA (es:List Ev)(c k:Nat)(h:es.length<=12):-1<=Jv es c k/\Jv es c k<=12:=by
 unfold Jv;split
 ·
  rename_i i e;have:=List.mem_range.1 (List.mem_of_find?_eq_some e);omega
 . omega
def DU (rs:List Int)(ev v:Int)(l:List Int):Nat->List Int
 | 0=>l
 |k+1=>if decide (rs.getD k 0=ev)=true then (DU rs ev v l k).set k v else DU rs ev v l k
theorem Hd (rs:List Int)(ev v:Int)(l:List Int):∀k:Nat,(DU rs ev v l k).length=l.length
 | 0=>rfl
 |k+1=>by rw[DU];split<;>simp[Hd rs ev v l k]
theorem RP {rs:List Int}{ev v:Int}{l:List Int}:∀(k j:Nat),j<l.length->(DU rs ev v l k)[j]? = if j<k/\rs.getD j 0=ev then some v else l[j]?
 | 0,j,h=>by simp[DU]
 |k+1,j,h=>by
  have ih:=RP (rs:=rs) (ev:=ev) (v:=v) k j h;rw[DU];by_cases e:rs.getD k 0=ev
  ·
   rw[if_pos (decide_eq_true e),List.getElem?_set,Hd];by_cases ej:k=j
   ·
    subst ej;rw[if_pos rfl,if_pos h,if_pos ⟨by omega,e⟩]
   ·
    rw[if_neg ej,ih];by_cases h1:j<k/\rs.getD j 0=ev
    . rw[if_pos h1,if_pos ⟨by omega,h1.2⟩]
    . rw[if_neg h1,if_neg (fun h2=>h1 ⟨by omega,h2.2⟩)]
  ·
   rw[if_neg (by simpa using e),ih];by_cases h1:j<k/\rs.getD j 0=ev
   . rw[if_pos h1,if_pos ⟨by omega,h1.2⟩]
   ·
    rw[if_neg h1,if_neg (fun h2=>?_)];by_cases ej:j=k
    . subst ej;exact e h2.2
    . exact h1 ⟨by omega,h2.2⟩
theorem OI {rs:List Int}{ev v:Int}{l:List Int}(h:l.length=rs.length):DU rs ev v l rs.length=GI rs ev v l:=by
 apply List.ext_getElem?;intro j;unfold GI;by_cases hj:j<l.length
 ·
  rw[RP _ _ hj,List.getElem?_zipWith];rw[List.getElem?_eq_getElem hj,List.getElem?_eq_getElem (show j<rs.length by omega)];have e:rs.getD j 0=rs[j]'(by omega):=by rw[List.getD_eq_getElem?_getD,List.getElem?_eq_getElem (show j<rs.length by omega)];rfl
  simp only[e];by_cases h1:rs[j]'(by omega)=ev
  . rw[if_pos ⟨by omega,h1⟩];simp[h1]
  . rw[if_neg (fun h2=>h1 h2.2)];simp[h1]
 . rw[List.getElem?_eq_none (by rw[Hd];omega),List.getElem?_eq_none (by rw[List.length_zipWith];omega)]
def GR (AA:List (List Dd))(b:Bd)(k:Nat):List Int:=((List.range k).filter (Bx AA b)).map (fun c:Nat=>(c:Int))
theorem Xc {AA:List (List Dd)}{b:Bd}{k:Nat}(h:Bx AA b k=true):GR AA b (k+1)=GR AA b k++[(k:Int)]:=by
 unfold GR;rw[List.range_succ,List.filter_append,List.map_append];simp[h]
theorem Uz {AA:List (List Dd)}{b:Bd}{k:Nat}(h:Bx AA b k=false):GR AA b (k+1)=GR AA b k:=by
 unfold GR;rw[List.range_succ,List.filter_append,List.map_append];simp[h]
def M7 (b:Bd)(k:Nat):List Int:=((List.range k).filter (fun c=>!(b.AJ.getD c []).isEmpty)).map (fun c:Nat=>10+(c:Int))
theorem bf {b:Bd}{k:Nat}(h:0<(b.AJ.getD k []).length):M7 b (k+1)=M7 b k++[10+(k:Int)]:=by
 have:(b.AJ.getD k []).isEmpty=false:=by
  cases e:b.AJ.getD k [] with
  |nil=>rw[e] at h;simp at h
  |cons x l=>rfl
 unfold M7;rw[List.range_succ,List.filter_append,List.map_append];simp only[List.filter_cons,this,Bool.not_false,if_true,List.filter_nil,List.map_cons,List.map_nil]
theorem Ye {b:Bd}{k:Nat}(h:¬ 0<(b.AJ.getD k []).length):M7 b (k+1)=M7 b k:=by
 have:(b.AJ.getD k []).isEmpty=true:=by
  cases e:b.AJ.getD k [] with
  |nil=>rfl
  |cons x l=>rw[e] at h;simp at h
 unfold M7;rw[List.range_succ,List.filter_append,List.map_append];simp only[List.filter_cons,this,Bool.not_true,Bool.false_eq_true,if_false,List.filter_nil,List.map_nil,List.append_nil]
theorem Vl (AA:List (List Dd))(b:Bd):GR AA b AA.length++M7 b AA.length=An AA b:=rfl
theorem QR (AA:List (List Dd))(b:Bd)(k:Nat):(GR AA b k).length<=k:=by
 unfold GR;rw[List.length_map];exact Nat.le_trans (List.length_filter_le _ _) (by simp)
theorem bg (b:Bd)(k:Nat):(M7 b k).length<=k:=by
 unfold M7;rw[List.length_map];exact Nat.le_trans (List.length_filter_le _ _) (by simp)
structure Dq (AA:List (List Dd))(b:Bd)(n:Nat):Prop where
 work:AL AA=true
 AM:b.AM.length=3
 AO:b.AO.length=3
 rws:b.rws.length=3
 AJ:b.AJ.length=AA.length
 AK:b.AK.length=AA.length
 sn:b.sn.length=(AX Ae (AB AA)).length
 fr:b.fr.length=(AX Ae (AB AA)).length
 rl:∀p,(b.rws.getD p []).length<=n
 nl:∀c,(b.AJ.getD c []).length<=n
theorem Dq.mono {AA:List (List Dd)}{b:Bd}{n m:Nat}(h:Dq AA b n)(hm:n<=m):Dq AA b m:=
 ⟨h.work,h.AM,h.AO,h.rws,h.AJ,h.AK,h.sn,h.fr,fun p=>Nat.le_trans (h.rl p) hm,fun c=>Nat.le_trans (h.nl c) hm⟩
theorem Iz {α:Type}{l:List (List α)}{n:Nat}(h:∀i,(l.getD i []).length<=n)(k:Nat)(z:List α)(hz:z.length<=n):∀i,((l.set k z).getD i []).length<=n:=fun i=>by
 rw[List.getD_eq_getElem?_getD,List.getElem?_set];by_cases e:k=i
 ·
  rw[if_pos e];by_cases hk:k<l.length
  . rw[if_pos hk];exact hz
  . rw[if_neg hk];simp
 . rw[if_neg e,<-List.getD_eq_getElem?_getD];exact h i
theorem Jq {rs:List Int}{ev v:Int}{l:List Int}(h:l.length=rs.length):(GI rs ev v l).length=rs.length:=by unfold GI;rw[List.length_zipWith];omega
theorem Dq.see {AA:List (List Dd)}{b:Bd}{n:Nat}(h:Dq AA b n)(ev v f:Int):Dq AA (Ew (AX Ae (AB AA)) b ev v f) n:=
 ⟨h.work,h.AM,h.AO,h.rws,h.AJ,h.AK,Jq h.sn,Jq h.fr,h.rl,h.nl⟩
theorem Dq.YK {AA:List (List Dd)}{b:Bd}{n:Nat}(h:Dq AA b n)(p:Nat)(v ev:Int):Dq AA (Db b p v ev) (n+1):=
 ⟨h.work,by simp[Db,h.AM],by simp[Db,h.AO],by simp[Db,h.rws],h.AJ,h.AK,h.sn,h.fr,
  Iz (fun i=>Nat.le_succ_of_le (h.rl i)) p _ (by have:=h.rl p;rw[List.length_append,List.length_singleton];omega),fun c=>Nat.le_succ_of_le (h.nl c)⟩
theorem Dq.note {AA:List (List Dd)}{b:Bd}{n:Nat}(h:Dq AA b n)(c:Nat)(x:Nt):Dq AA { b with AJ:=b.AJ.set c (b.AJ.getD c []++[x]) } (n+1):=
 ⟨h.work,h.AM,h.AO,h.rws,by simp[h.AJ],h.AK,h.sn,h.fr,fun p=>Nat.le_succ_of_le (h.rl p),
  Iz (fun i=>Nat.le_succ_of_le (h.nl i)) c _ (by have:=h.nl c;rw[List.length_append,List.length_singleton];omega)⟩
theorem Dq.less {AA:List (List Dd)}{b:Bd}{n:Nat}(h:Dq AA b n)(c:Nat)(l:List Nt)(hl:l.length<=n):Dq AA { b with AJ:=b.AJ.set c l } n:=
 ⟨h.work,h.AM,h.AO,h.rws,by simp[h.AJ],h.AK,h.sn,h.fr,h.rl,Iz h.nl c _ hl⟩
theorem Dq.deed {AA:List (List Dd)}{b:Bd}{n:Nat}(h:Dq AA b n)(c k:Nat):Dq AA (BA AA (AB AA) b c k) (n+1):=by
 unfold BA;split
 . exact (h.see _ _ _).mono (Nat.le_succ n)
 ·
  split
  . exact (h.see _ _ _).YK _ _ _
  ·
   split
   . exact h.YK _ _ _
   ·
    split
    . exact h.note c _
    . exact h.mono (Nat.le_succ n)
theorem Dq.next {AA:List (List Dd)}{b:Bd}{n:Nat}(h:Dq AA b n)(c:Nat)(x:Int):Dq AA { b with AK:=b.AK.set c x } n:=
 ⟨h.work,h.AM,h.AO,h.rws,h.AJ,by simp[h.AK],h.sn,h.fr,h.rl,h.nl⟩
theorem Lm (AA:List (List Dd))(es:List Ev)(b:Bd)(c k:Nat):(BA AA es b c k).AK=b.AK:=by
 unfold BA;split
 . rfl
 ·
  split
  . rfl
  ·
   split
   . rfl
   . split<;>rfl
theorem Dq.one {AA:List (List Dd)}{b:Bd}{n:Nat}(h:Dq AA b n)(c:Nat):Dq AA (Ag AA (AB AA) b c) (n+1):=by
 have:=(h.deed c (Aj b c)).next c (b.AK.getD c 0+1);rw[Lm] at this;exact this
theorem Dq.of {AA:List (List Dd)}{b:Bd}(h:Am AA b=true):Dq AA b 20:=by
 simp only[Am,He,Lu,Iw,Bool.and_eq_true,decide_eq_true_eq] at h;obtain⟨⟨hw,h1,h2,h3,h4,h5⟩,⟨h6,h7,-⟩,h8,h9⟩:=h;refine⟨hw,h1,h2,h3,h4,h5,h6,h7,fun p=>?_,fun c=>?_⟩
 ·
  by_cases hp:p<3
  ·
   have:=List.all_eq_true.1 h8 p (List.mem_range.2 hp);simp only[II,Bool.and_eq_true,decide_eq_true_eq] at this;exact this.2
  . rw[List.getD_eq_getElem?_getD,List.getElem?_eq_none (by omega)];simp
 ·
  by_cases hc:c<AA.length
  ·
   have:=List.all_eq_true.1 h9 c (List.mem_range.2 hc);simp only[Td,Bool.and_eq_true,decide_eq_true_eq] at this;omega
  . rw[List.getD_eq_getElem?_getD,List.getElem?_eq_none (by omega)];simp
theorem E4 {AA:List (List Dd)}{b:Bd}(h:Am AA b=true){c:Nat}(hc:c<AA.length):0<=b.AK.getD c 0/\b.AK.getD c 0<=((AA.getD c []).length:Int):=by
 simp only[Am,Bool.and_eq_true] at h;have:=List.all_eq_true.1 h.2.2.2 c (List.mem_range.2 hc);simp only[Td,Bool.and_eq_true,decide_eq_true_eq] at this;exact this.1
structure RB (AA:List (List Dd))(b:Bd)(N:Nat->Nat)(m:Nat):Prop where
 work:AL AA=true
 AM:b.AM.length=3
 AO:b.AO.length=3
 rws:b.rws.length=3
 AJ:b.AJ.length=AA.length
 AK:b.AK.length=AA.length
 sn:b.sn.length=(AX Ae (AB AA)).length
 fr:b.fr.length=(AX Ae (AB AA)).length
 vp:∀x∈b.AM,0<=x/\x<=9
 vl:∀x∈b.AO,0<=x/\x<=((AB AA).length:Int)-1
 vs:∀x∈b.sn,-1<=x/\x<=9
 vf:∀x∈b.fr,-1<=x/\x<=((AB AA).length:Int)-1
 rl:∀p,(b.rws.getD p []).length<=m/\∀x∈b.rws.getD p [],0<=x/\x<=((AB AA).length:Int)-1
 nl:∀c,(b.AJ.getD c []).length<=N c/\∀x∈b.AJ.getD c [],(0<=x.1/\x.1<=2)/\(0<=x.2.1/\x.2.1<=9)/\0<=x.2.2/\x.2.2<=((AB AA).length:Int)-1
 nx:∀c,c<AA.length->0<=b.AK.getD c 0/\b.AK.getD c 0<=((AA.getD c []).length:Int)
theorem Ni {α:Type}{l:List α}{z:α}{i:Nat}(h:¬i<l.length):l.getD i z=z:=by rw[List.getD_eq_getElem?_getD,List.getElem?_eq_none (by omega)];rfl
theorem Gs {α:Type}{l:List α}{z:α}{i:Nat}(h:i<l.length):l.getD i z∈l:=by rw[List.getD_eq_getElem?_getD,List.getElem?_eq_getElem h];exact List.getElem_mem h
theorem Gh {l:List Int}{lo hi:Int}{most:Nat}(h:II l lo hi most=true):(∀x∈l,lo<=x/\x<=hi)/\l.length<=most:=by
 simp only[II,Bool.and_eq_true,decide_eq_true_eq,List.all_eq_true] at h;exact h
theorem RB.of {AA:List (List Dd)}{b:Bd}(h:Am AA b=true){N:Nat->Nat}{m:Nat}(hN:∀c,(b.AJ.getD c []).length<=N c)(hm:∀p,(b.rws.getD p []).length<=m):RB AA b N m:=by
 simp only[Am,He,Lu,Iw,Bool.and_eq_true,decide_eq_true_eq] at h;obtain⟨⟨hw,h1,h2,h3,h4,h5⟩,⟨h6,h7,p1,p2,p3,p4⟩,h8,h9⟩:=h;refine⟨hw,h1,h2,h3,h4,h5,h6,h7,(Gh p1).1,(Gh p2).1,(Gh p3).1,(Gh p4).1,fun p=>⟨hm p,?_⟩,fun c=>⟨hN c,?_⟩,fun c hc=>?_⟩
 ·
  by_cases hp:p<3
  . exact (Gh (List.all_eq_true.1 h8 p (List.mem_range.2 hp))).1
  . rw[Ni (by omega)];simp
 ·
  by_cases hc:c<AA.length
  ·
   have:=List.all_eq_true.1 h9 c (List.mem_range.2 hc);simp only[Td,Yg,kZ,Bool.and_eq_true,decide_eq_true_eq,List.all_eq_true] at this;exact this.2.2
  . rw[Ni (by omega)];simp
 ·
  have:=List.all_eq_true.1 h9 c (List.mem_range.2 hc);simp only[Td,Bool.and_eq_true,decide_eq_true_eq] at this;exact this.1
theorem MK {α:Type}{l:List α}{i:Nat}{v x:α}(h:x∈l.set i v):x∈l\/x=v:=by
 rcases List.mem_or_eq_of_mem_set h with h|h
 . exact .inl h
 . exact .inr h
theorem Tv {rs:List Int}{ev v:Int}:∀ {l:List Int} {x:Int},x∈GI rs ev v l->x∈l\/x=v:=by
 induction rs with
 |nil=>intro l x h;simp[GI] at h
 |cons r t ih=>
  intro l x h
  cases l with
  |nil=>simp[GI] at h
  |cons y z=>
   simp only[GI,List.zipWith_cons_cons,List.mem_cons] at h;rcases h with h|h
   ·
    split at h
    . exact .inr h
    . exact .inl (by rw[h];simp)
   ·
    rcases ih (l:=z) (x:=x) h with h|h
    . exact .inl (List.mem_cons_of_mem _ h)
    . exact .inr h
theorem RB.see {AA:List (List Dd)}{b:Bd}{N:Nat->Nat}{m:Nat}(h:RB AA b N m)(ev v f:Int)(hv:-1<=v/\v<=9)(hf:-1<=f/\f<=((AB AA).length:Int)-1):RB AA (Ew (AX Ae (AB AA)) b ev v f) N m:=
 ⟨h.work,h.AM,h.AO,h.rws,h.AJ,h.AK,Jq h.sn,Jq h.fr,h.vp,h.vl,fun x hx=>(Tv hx).elim (h.vs x) (fun e=>e ▸ hv),fun x hx=>(Tv hx).elim (h.vf x) (fun e=>e ▸ hf),h.rl,h.nl,h.nx⟩
theorem RB.YK {AA:List (List Dd)}{b:Bd}{N:Nat->Nat}{m:Nat}(h:RB AA b N m)(p:Nat)(v ev:Int)(hv:0<=v/\v<=9)(he:0<=ev/\ev<=((AB AA).length:Int)-1):RB AA (Db b p v ev) N (m+1):=by
 refine⟨h.work,by rw[<-h.AM];exact List.length_set,by rw[<-h.AO];exact List.length_set,by rw[<-h.rws];exact List.length_set,h.AJ,h.AK,h.sn,h.fr,fun x hx=>(MK hx).elim (h.vp x) (fun e=>e ▸ hv),fun x hx=>(MK hx).elim (h.vl x) (fun e=>e ▸ he),h.vs,h.vf,fun q=>?_,h.nl,h.nx⟩;show ((b.rws.set p (b.rws.getD p []++[ev])).getD q []).length<=m+1/\∀x∈(b.rws.set p (b.rws.getD p []++[ev])).getD q [],_;by_cases hp:p<b.rws.length
 ·
  rw[Cn _ _ _ _ _ hp];by_cases e:p=q
  ·
   rw[if_pos e];refine⟨by have:=(h.rl p).1;rw[List.length_append,List.length_singleton];omega,fun x hx=>?_⟩;rcases List.mem_append.1 hx with hx|hx
   . exact (h.rl p).2 x hx
   . rw[List.mem_singleton.1 hx];exact he
  ·
   rw[if_neg e];exact⟨by have:=(h.rl q).1;omega,(h.rl q).2⟩
 ·
  rw[List.set_eq_of_length_le (by omega)];exact⟨by have:=(h.rl q).1;omega,(h.rl q).2⟩
theorem RB.note {AA:List (List Dd)}{b:Bd}{N N':Nat->Nat}{m:Nat}(h:RB AA b N m)(c:Nat)(l:List Nt)(hl:∀x∈l,(0<=x.1/\x.1<=2)/\(0<=x.2.1/\x.2.1<=9)/\0<=x.2.2/\x.2.2<=((AB AA).length:Int)-1)(hn:l.length<=N' c)(hN:∀i,i≠c->N i<=N' i)(hc:c<AA.length):RB AA { b with AJ:=b.AJ.set c l } N' m:=by
 refine⟨h.work,h.AM,h.AO,h.rws,by rw[<-h.AJ];exact List.length_set,h.AK,h.sn,h.fr,h.vp,h.vl,h.vs,h.vf,h.rl,fun i=>?_,h.nx⟩;show ((b.AJ.set c l).getD i []).length<=N' i/\∀x∈(b.AJ.set c l).getD i [],_;rw[Cn _ _ _ _ _ (by rw[h.AJ];exact hc)];by_cases e:c=i
 ·
  rw[if_pos e,<-e];exact⟨hn,hl⟩
 ·
  rw[if_neg e];exact⟨Nat.le_trans (h.nl i).1 (hN i (Ne.symm e)),(h.nl i).2⟩
theorem RB.next {AA:List (List Dd)}{b:Bd}{N:Nat->Nat}{m:Nat}(h:RB AA b N m)(c:Nat)(x:Int)(hx:0<=x/\x<=((AA.getD c []).length:Int)):RB AA { b with AK:=b.AK.set c x } N m:=by
 refine⟨h.work,h.AM,h.AO,h.rws,h.AJ,by rw[<-h.AK];exact List.length_set,h.sn,h.fr,h.vp,h.vl,h.vs,h.vf,h.rl,h.nl,fun i hi=>?_⟩;show 0<=(b.AK.set c x).getD i 0/\(b.AK.set c x).getD i 0<=_;by_cases hc:c<b.AK.length
 ·
  rw[Cn _ _ _ _ _ hc];by_cases e:c=i
  . rw[if_pos e,<-e];exact hx
  . rw[if_neg e];exact h.nx i hi
 . rw[List.set_eq_of_length_le (by omega)];exact h.nx i hi
theorem RB.more {AA:List (List Dd)}{b:Bd}{N N':Nat->Nat}{m m':Nat}(h:RB AA b N m)(hN:∀c,N c<=N' c)(hm:m<=m'):RB AA b N' m':=
 ⟨h.work,h.AM,h.AO,h.rws,h.AJ,h.AK,h.sn,h.fr,h.vp,h.vl,h.vs,h.vf,fun p=>⟨Nat.le_trans (h.rl p).1 hm,(h.rl p).2⟩,fun c=>⟨Nat.le_trans (h.nl c).1 (hN c),(h.nl c).2⟩,h.nx⟩
theorem RB.rdg {AA:List (List Dd)}{b:Bd}{N:Nat->Nat}{m:Nat}(h:RB AA b N m)(c:Nat){p:Nat}(hp:p<3):(0<=(Ck b c p).1/\(Ck b c p).1<=9)/\0<=(Ck b c p).2/\(Ck b c p).2<=((AB AA).length:Int)-1:=by
 unfold Ck
 cases e:(b.AJ.getD c []).reverse.find? (fun x=>x.1==(p:Int)) with
 |some x=>
  have hx:=List.mem_reverse.1 (List.mem_of_find?_eq_some e);exact ((h.nl c).2 x hx).2
 |none=>exact⟨h.vp _ (Gs (by rw[h.AM];exact hp)),h.vl _ (Gs (by rw[h.AO];exact hp))⟩
theorem Q7 {d:Dd}(h:Eu d=true):(0<=d.2.2.1/\d.2.2.1<=9)/\0<=d.2.2.2:=by
 obtain⟨k,p,v,g⟩:=d;simp only[Eu,Dn,decide_eq_true_eq] at h;show (0<=v/\v<=9)/\0<=g;by_cases e:k=2\/k=3
 . have:=h.2.2.2.2.2.1 e;omega
 . have:=h.2.2.2.2.2.2 e;omega
theorem Th {AA:List (List Dd)}(hb:AL AA=true){c k:Nat}(hc:c<AA.length)(hk:k<(AA.getD c []).length):
  (∃p:Nat,p<3/\(Ai AA c k).2.1=(p:Int))/\(0<=(Ai AA c k).2.2.1/\(Ai AA c k).2.2.1<=9)/\((Ai AA c k).1=1\/(Ai AA c k).1=2\/(Ai AA c k).1=3\/(Ai AA c k).1=4)/\0<=BE AA c k /\
  ((Ai AA c k).1≠4->0<=Jv (AB AA) c k/\Jv (AB AA) c k<=((AB AA).length:Int)-1)/\((Ai AA c k).1=3->Jv (AB AA) c k+1<=((AB AA).length:Int)-1):=by
 have ho:=Bu hb hc k hk;have hd:=Bz ho;have hev:(Ai AA c k).1≠4->∀i,i<El (Ai AA c k)->3<=AZ AA c k+i/\AZ AA c k+i<(AB AA).length:=fun h4 i hi=>Dm.lt hb ⟨hc,hk,hi,rfl⟩
 refine⟨Hz hb hc hk,?_,hd,?_,fun h4=>?_,fun h3=>?_⟩
 . exact (Q7 ho).1
 . exact (Q7 ho).2
 ·
  rw[Ij hb hc hk h4];have:=hev h4 0 (by unfold El;rw[if_neg h4];split<;>omega);omega
 ·
  have h4:(Ai AA c k).1≠4:=by omega
  rw[Ij hb hc hk h4];have:=hev h4 1 (by unfold El;rw[if_neg h4,if_pos h3];omega);omega
theorem BH {AA:List (List Dd)}(h:AL AA=true):AA.length<=3/\∀i,i<AA.length->FP (AA.getD i [])=true:=by
 simp only[AL,Bool.and_eq_true,decide_eq_true_eq] at h;obtain⟨⟨⟨⟨h1,h2⟩,_⟩,_⟩,_⟩:=h;exact⟨h1.2,fun i hi=>Be [] h2 i hi⟩
theorem jB {AA:List (List Dd)}(h:AL AA=true):(Ax AA AA.length).length<=9:=by
 simp only[AL,Bool.and_eq_true,decide_eq_true_eq] at h;obtain⟨⟨⟨⟨_,h2⟩,_⟩,h4⟩,_⟩:=h;have:=Gr (fun i hi=>Be [] h2 i hi) AA.length (Nat.le_refl _);omega
theorem RB.deed {AA:List (List Dd)}{b:Bd}{N:Nat->Nat}{m:Nat}(h:RB AA b N m){c k:Nat}(hc:c<AA.length)(hk:k<(AA.getD c []).length):
  RB AA (BA AA (AB AA) b c k) (fun i=>if i=c/\BE AA c k=0 then N i+1 else N i) (m+1):=by
 obtain⟨⟨p,hp,ep⟩,hv,hd,hg,he,he3⟩:=Th h.work hc hk
 have hN:∀i,N i<=(fun i=>if i=c/\BE AA c k=0 then N i+1 else N i) i:=fun i=>by
  show N i<=if _ then _ else _
  split
  . exact Nat.le_succ _
  . exact Nat.le_refl _
 have hP:(Ai AA c k).2.1.toNat=p:=by omega
 have hr:=h.rdg c hp;unfold BA;rw[hP];split
 . exact (h.see _ _ _ ⟨by omega,by omega⟩ ⟨by omega,by omega⟩).more hN (Nat.le_succ m)
 ·
  rename_i h1;split
  ·
   rename_i h3;have e1:=he (by omega);have e2:=he3 h3;have q1:=h.vp _ (Gs (z:=0) (show p<b.AM.length by rw[h.AM];exact hp));have q2:=h.vl _ (Gs (z:=0) (show p<b.AO.length by rw[h.AO];exact hp));exact ((h.see _ _ _ ⟨by omega,by omega⟩ ⟨by omega,by omega⟩).YK p _ _ hv ⟨by omega,by omega⟩).more hN (Nat.le_refl _)
  ·
   rename_i h3;split
   ·
    rename_i h2;exact (h.YK p _ _ hv (he (by omega))).more hN (Nat.le_refl _)
   ·
    rename_i h2;split
    ·
     rename_i h2'
     have g0:BE AA c k=0:=by
      by_cases e:BE AA c k=0
      . exact e
      . exact absurd ⟨h2',by omega⟩ h2
     have e1:=he (by omega);refine (h.note (N':=fun i=>if i=c/\BE AA c k=0 then N i+1 else N i) c _ (fun x hx=>?_) ?_ (fun i _=>hN i) hc).more (fun _=>Nat.le_refl _) (Nat.le_succ m)
     ·
      rcases List.mem_append.1 hx with hx|hx
      . exact (h.nl c).2 x hx
      ·
       rw[List.mem_singleton.1 hx];exact⟨⟨by show 0<=(Ai AA c k).2.1;omega,by show (Ai AA c k).2.1<=2;omega⟩,hv,e1⟩
     ·
      show _<=if c=c/\BE AA c k=0 then N c+1 else N c
      rw[if_pos ⟨rfl,g0⟩,List.length_append,List.length_singleton];have:=(h.nl c).1;omega
    . exact h.more hN (Nat.le_succ m)
theorem RB.one {AA:List (List Dd)}{b:Bd}{N:Nat->Nat}{m:Nat}(h:RB AA b N m){c:Nat}(hc:c<AA.length)(hk:Aj b c<(AA.getD c []).length):
  RB AA (Ag AA (AB AA) b c) (fun i=>if i=c/\BE AA c (Aj b c)=0 then N i+1 else N i) (m+1):=by
 have h0:=h.nx c hc;have hn:(Aj b c:Int)=b.AK.getD c 0:=by unfold Aj;omega
 have:=(h.deed hc hk).next c (b.AK.getD c 0+1) ⟨by omega,by omega⟩;rw[Lm] at this;exact this
theorem RB.go {AA:List (List Dd)}{c:Nat}(hc:c<AA.length){g:Int}(hg:g≠0){N:Nat->Nat}:∀(k m:Nat) (b:Bd),RB AA b N m->Aj b c<(AA.getD c []).length->BE AA c (Aj b c)=g->RB AA (EE AA (AB AA) g c k b) N (m+k)
 | 0,m,b,h,_,_=>by rw[EE];exact h
 |k+1,m,b,h,hk,e=>by
  have h1:=h.one hc hk
  have hs:(fun i=>if i=c/\BE AA c (Aj b c)=0 then N i+1 else N i)=N:=by
   funext i;rw[if_neg (fun hh=>hg (by rw[<-e];exact hh.2))]
  rw[hs] at h1;rw[EE];split
  . exact h1.more (fun _=>Nat.le_refl _) (by omega)
  ·
   rename_i hn;have hx:=h1.nx c hc;have hz:((Aj (Ag AA (AB AA) b c) c:Nat):Int)=(Ag AA (AB AA) b c).AK.getD c 0:=by unfold Aj;omega
   have:=RB.go hc hg k (m+1) _ h1 (by omega) (by
    by_cases e':BE AA c (Aj (Ag AA (AB AA) b c) c)=g
    . exact e'
    . exact absurd (.inr (.inr e')) hn)
   exact this.more (fun _=>Nat.le_refl _) (by omega)
theorem VL {AA:List (List Dd)}{es:List Ev}{c k:Nat}(hk:0<k)(b:Bd):EE AA es 0 c k b=Ag AA es b c:=by
 cases k with
 |zero=>omega
 |succ k=>rw[EE,if_pos (.inl rfl)]
theorem TW {AA:List (List Dd)}{b:Bd}{c:Nat}(h:Bx AA b c=true):Aj b c<(AA.getD c []).length/\(((Ai AA c (Aj b c)).1<=2/\BE AA c (Aj b c)=0)\/b.AJ.getD c []=[]):=by
 simp only[Bx,Bool.and_eq_true,Bool.or_eq_true,decide_eq_true_eq,List.isEmpty_iff] at h;exact h
theorem DS {AA:List (List Dd)}(h:AL AA=true){c:Nat}(hc:c<AA.length):(AA.getD c []).length<=5:=by
 simp only[AL,Bool.and_eq_true,List.all_eq_true] at h;have:=h.1.1.1.2 _ (Gs (z:=[]) hc);simp only[FP,Bool.and_eq_true,decide_eq_true_eq] at this;exact this.2
theorem RB.stepped {AA:List (List Dd)}{b:Bd}{n m:Nat}(h:RB AA b (fun _=>n) m){c:Nat}(hc:c<AA.length)(hcan:Bx AA b c=true)(c10:c<10):RB AA (Ao AA (AB AA) b (c:Int)) (fun _=>n+1) (m+5):=by
 obtain⟨hk,-⟩:=TW hcan;have h5:=DS h.work hc;unfold Ao;rw[if_neg (by omega),Int.toNat_natCast];by_cases g0:BE AA c (Aj b c)=0
 ·
  rw[g0,VL (by omega)];refine (h.one hc hk).more (fun i=>?_) (by omega);show (if _ then n+1 else n)<=n+1;split
  . exact Nat.le_refl _
  . exact Nat.le_succ _
 . exact (RB.go hc g0 _ _ _ h hk rfl).more (fun _=>Nat.le_succ _) (by omega)
def DE (w:World)(g:Nat)(zs:List Int):Prop:=
 ∃(cur:Array Value) (e:TypeId),w.heap[g]? = some (.cells cur e (0,0))/\cur.toList.take zs.length=zs.map (Value.int .i64)
theorem DE.lt {w:World}{g:Nat}{zs:List Int}(h:DE w g zs):g<w.heap.size:=by
 obtain⟨cur,e,hh,_⟩:=h;exact (Array.getElem?_eq_some_iff.1 hh).1
theorem DE.cell {w:World}{g:Nat}{zs:List Int}(h:DE w g zs){j:Nat}(hj:j<zs.length):w.cell? ⟨g,j,none⟩=some (.int .i64 (zs.getD j 0)):=by
 obtain⟨cur,e,hh,ht⟩:=h;rw[cell_of_row w g j cur e (0,0) hh];have h1:(cur.toList.take zs.length)[j]? = (zs.map (Value.int .i64))[j]?:=by rw[ht]
 rw[List.getElem?_take,if_pos hj,List.getElem?_map,List.getElem?_eq_getElem hj] at h1;rw[List.getD_eq_getElem?_getD,List.getElem?_eq_getElem hj]
 simpa using h1
theorem DE.free {w:World}{g:Nat}{zs:List Int}(h:DE w g zs)(j:Nat):w.frozen? ⟨g,j,none⟩=false:=by
 obtain⟨cur,e,hh,_⟩:=h;exact frozen_of_row w g j _ _ hh
theorem DE.kept {w w':World}{g:Nat}{zs:List Int}{row:Option Nat}(h:DE w g zs)(hg:w.grownBy w' row)(hne:row≠some g):DE w' g zs:=by
 have hlt:=h.lt;obtain⟨cur,e,hh,ht⟩:=h;exact⟨cur,e,by rw[hg.block g hlt (fun e=>hne e.symm)];exact hh,ht⟩
theorem DE.keep {w w':World}{g:Nat}{zs:List Int}(h:DE w g zs)(k:AC w w'):DE w' g zs:=h.kept k.grownBy (by simp)
theorem Ac (w:World)(g j:Nat)(v:Value):w.grownBy (w.setCell ⟨g,j,none⟩ v) (some g):=
 ⟨rfl,rfl,rfl,by simp,fun k _ hk=>heap_setCell_other w ⟨g,j,none⟩ k v (fun e=>hk (by simp[e]))⟩
theorem SV (w:World)(n:Nat)(row:Option Nat):w.grownBy (w.drewN n) row:=⟨rfl,rfl,rfl,Nat.le_refl _,fun _ _ _=>rfl⟩
theorem Pu (l:List Value)(zs:List Int)(j:Nat)(x:Int)(h:l.take zs.length=zs.map (Value.int .i64)):
  (l.set j (.int .i64 x)).take (zs.set j x).length=(zs.set j x).map (Value.int .i64):=by
 rw[List.length_set,List.take_set,h,List.map_set]
theorem DE.set {w:World}{g:Nat}{zs:List Int}(h:DE w g zs)(j:Nat)(x:Int):DE (w.setCell ⟨g,j,none⟩ (.int .i64 x)) g (zs.set j x):=by
 obtain⟨cur,e,hh,ht⟩:=h;refine⟨cur.setIfInBounds j (.int .i64 x),e,?_,?_⟩
 . rw[heap_setCell_same w g j _ _ _ hh]
 ·
  rw[Array.toList_setIfInBounds];exact Pu _ zs j x ht
def TM (w:World)(base:Nat)(v:Value)(zs:List Int):Prop:=
 (v = .slice none 0 0/\zs=[])\/∃g cap,v = .slice (some ⟨g,0,none⟩) zs.length cap/\base<=g/\DE w g zs
theorem A7.row {w:World}{base:Nat}{v:Value}{zs:List Int}(h:A7 w base v zs):TM w base v zs:=by
 rcases h.2 with ⟨rfl,hn⟩|⟨g,cap,cur,rfl,hb,hg,_,_,_,ht⟩
 . exact .inl ⟨rfl,List.eq_nil_of_length_eq_zero hn⟩
 . exact .inr ⟨g,cap,rfl,hb,cur,_,hg,by rw[Nat.mul_one] at ht;exact ht⟩
theorem TM.lt {w:World}{base:Nat}{v:Value}{zs:List Int}(h:TM w base v zs):∀k,v.ownBlock=some k->base<=k/\k<w.heap.size:=by
 intro k hk;rcases h with ⟨rfl,_⟩|⟨g,cap,rfl,hb,hr⟩
 . simp[Value.ownBlock] at hk
 . simp[Value.ownBlock] at hk;subst hk;exact⟨hb,hr.lt⟩
theorem TM.kept {w w':World}{base:Nat}{v:Value}{zs:List Int}{row:Option Nat}(h:TM w base v zs)(hg:w.grownBy w' row)(hne:v.ownBlock=none\/v.ownBlock≠row):TM w' base v zs:=by
 rcases h with h|⟨g,cap,rfl,hb,hr⟩
 . exact .inl h
 ·
  refine .inr ⟨g,cap,rfl,hb,hr.kept hg ?_⟩;simp[Value.ownBlock] at hne;exact fun e=>hne e.symm
theorem TM.keep {w w':World}{base:Nat}{v:Value}{zs:List Int}(h:TM w base v zs)(k:AC w w'):TM w' base v zs:=
 h.kept k.grownBy (by cases v.ownBlock<;>simp)
theorem TM.rd {w:World}{base:Nat}{v:Value}{zs:List Int}(h:TM w base v zs):Rd w v zs:=by
 rcases h with ⟨rfl,rfl⟩|⟨g,cap,rfl,hb,hr⟩
 . exact⟨none,0,rfl,.inl rfl⟩
 . exact⟨some ⟨g,0,none⟩,cap,rfl,.inr ⟨g,0,rfl,hr.lt,fun i hi=>by rw[Nat.zero_add];exact hr.cell hi⟩⟩
end Go.Proofs.YtflehmepjhikcaaGreatDoor
