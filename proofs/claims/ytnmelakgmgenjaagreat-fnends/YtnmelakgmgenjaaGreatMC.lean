/- Gathered texts. -/
import Derived.Test.YtnmelakgmgenjaaGreatMB
set_option maxRecDepth 100000
set_option maxHeartbeats 8000000
namespace Go.Proofs.YtnmelakgmgenjaaGreat
open Go.RowKit
def Hj (f:Nat->Nat):Nat->Nat
 | 0=>0
 |m+1=>Hj f m+f m
theorem Sr {f g:Nat->Nat}:∀m:Nat,(∀c,c<m->f c=g c)->Hj f m=Hj g m
 | 0,_=>rfl
 |m+1,h=>by rw[Hj,Hj,Sr m (fun c hc=>h c (by omega)),h m (by omega)]
theorem Nm {f g:Nat->Nat}{c:Nat}(h1:f c+1<=g c)(h2:∀c',c'≠c->f c'=g c'):∀m:Nat,c<m->Hj f m+1<=Hj g m
 | 0,h=>by omega
 |m+1,h=>by
  rw[Hj,Hj];by_cases e:c=m
  ·
   subst e;rw[Sr c (fun c' hc=>h2 c' (by omega))];omega
  ·
   have:=Nm h1 h2 m (by omega);rw[h2 m (fun h=>e h.symm)];omega
def PD (AA:List (List Dd))(b:Bd)(c:Nat):Nat:=2*((AA.getD c []).length-Ao b c)+(b.AG.getD c []).length
def DR (AA:List (List Dd))(b:Bd):Nat:=Hj (PD AA b) AA.length
def LN (AA:List (List Dd))(b:Bd):Prop:=b.AL.length=AA.length/\b.AG.length=AA.length
theorem Cy {α:Type}(l:List α)(z x:α)(i j:Nat)(hi:i<l.length):(l.set i x).getD j z=if i=j then x else l.getD j z:=by
 rw[List.getD_eq_getElem?_getD,List.getElem?_set];by_cases e:i=j
 . subst e;rw[if_pos rfl,if_pos hi,if_pos rfl];rfl
 . rw[if_neg e,if_neg e,List.getD_eq_getElem?_getD]
theorem Yi (AA:List (List Dd))(es:List Ev)(b:Bd)(c k:Nat):(BL AA es b c k).AL=b.AL/\((BL AA es b c k).AG=b.AG\/∃x,(BL AA es b c k).AG=b.AG.set c (b.AG.getD c []++[x])):=by
 unfold BL;split
 . exact⟨rfl,.inl rfl⟩
 ·
  split
  . exact⟨rfl,.inl rfl⟩
  ·
   split
   . exact⟨rfl,.inl rfl⟩
   ·
    split
    . exact⟨rfl,.inr ⟨_,rfl⟩⟩
    . exact⟨rfl,.inl rfl⟩
theorem Tx {AA:List (List Dd)}{es:List Ev}{b:Bd}(hL:LN AA b)(h0:∀c,0<=b.AL.getD c 0){c:Nat}(hc:c<AA.length):(∀c',Ao (Aj AA es b c) c'=if c=c' then Ao b c+1 else Ao b c')/\∀c',0<=(Aj AA es b c).AL.getD c' 0:=by
 have e:∀c',(Aj AA es b c).AL.getD c' 0=if c=c' then b.AL.getD c 0+1 else b.AL.getD c' 0:=fun c'=>by
  show (b.AL.set c (b.AL.getD c 0+1)).getD c' 0=_;rw[Cy _ _ _ _ _ (by rw[hL.1];exact hc)]
 constructor
 ·
  intro c';unfold Ao;rw[e];split
  . have:=h0 c;omega
  . rfl
 ·
  intro c';rw[e];split
  . have:=h0 c;omega
  . exact h0 c'
theorem U0 {AA:List (List Dd)}{es:List Ev}{b:Bd}(hL:LN AA b)(h0:∀c,0<=b.AL.getD c 0){c:Nat}(hc:c<AA.length)(hk:Ao b c<(AA.getD c []).length):DR AA (Aj AA es b c)+1<=DR AA b/\LN AA (Aj AA es b c)/\∀c',0<=(Aj AA es b c).AL.getD c' 0:=by
 obtain⟨hn,h0'⟩:=Tx (es:=es) hL h0 hc;obtain⟨_,hd⟩:=Yi AA es b c (Ao b c)
 have ZA:(∀c',c'≠c->(Aj AA es b c).AG.getD c' []=b.AG.getD c' [])/\((Aj AA es b c).AG.getD c []).length<=(b.AG.getD c []).length+1/\(Aj AA es b c).AG.length=b.AG.length:=by
  have e:(Aj AA es b c).AG=(BL AA es b c (Ao b c)).AG:=rfl;rw[e];rcases hd with hd|⟨x,hd⟩
  . rw[hd];exact⟨fun _ _=>rfl,by omega,rfl⟩
  ·
   rw[hd];refine⟨fun c' h=>?_,?_,by rw[List.length_set]⟩
   . rw[Cy _ _ _ _ _ (by rw[hL.2];exact hc),if_neg (fun h2=>h h2.symm)]
   . rw[Cy _ _ _ _ _ (by rw[hL.2];exact hc),if_pos rfl,List.length_append];simp
 refine⟨Nm (c:=c) ?_ (fun c' h=>?_) _ hc,⟨?_,?_⟩,h0'⟩
 ·
  unfold PD;rw[hn,if_pos rfl];have:=ZA.2.1;omega
 ·
  unfold PD;rw[hn,if_neg (fun h2=>h h2.symm),ZA.1 c' h]
 ·
  show (b.AL.set c _).length=_;rw[List.length_set];exact hL.1
 . rw[ZA.2.2];exact hL.2
theorem ZU {AA:List (List Dd)}{es:List Ev}(g:Int){c:Nat}(hc:c<AA.length):∀(m:Nat) (b:Bd),LN AA b->(∀c,0<=b.AL.getD c 0)->1<=m->Ao b c<(AA.getD c []).length->(AA.getD c []).length<=Ao b c+m ->
  DR AA (Ef AA es g c m b)+1<=DR AA b/\LN AA (Ef AA es g c m b)/\∀c',0<=(Ef AA es g c m b).AL.getD c' 0
 | 0,_,_,_,h,_,_=>by omega
 |m+1,b,hL,h0,_,hk,hm=>by
  have h1:=U0 (es:=es) hL h0 hc hk;have hn:=(Tx (es:=es) hL h0 hc).1 c;rw[if_pos rfl] at hn;rw[Ef];split
  . exact h1
  ·
   rename_i hs;have hs1:¬Ao (Aj AA es b c) c=(AA.getD c []).length:=fun h=>hs (.inr (.inl h))
   have h2:=ZU (es:=es) g hc m (Aj AA es b c) h1.2.1 h1.2.2 (by omega) (by omega) (by omega);exact⟨by omega,h2.2⟩
theorem WV {AA:List (List Dd)}{b:Bd}(hL:LN AA b)(h0:∀c,0<=b.AL.getD c 0){c:Nat}(hc:c<AA.length)(hne:b.AG.getD c []≠[]):DR AA (BT b c)+1<=DR AA b/\LN AA (BT b c)/\∀c',0<=(BT b c).AL.getD c' 0:=by
 unfold BT
 cases hq:b.AG.getD c [] with
 |nil=>exact absurd hq hne
 |cons x r=>
  have e:∀c',(b.AG.set c r).getD c' []=if c=c' then r else b.AG.getD c' []:=fun c'=>Cy _ _ _ _ _ (by rw[hL.2];exact hc)
  refine⟨Nm (c:=c) ?_ (fun c' h=>?_) _ hc,⟨hL.1,?_⟩,h0⟩
  ·
   show 2*((AA.getD c []).length-Ao b c)+((b.AG.set c r).getD c []).length+1<=2*((AA.getD c []).length-Ao b c)+(b.AG.getD c []).length;rw[e,if_pos rfl,hq];simp only[List.length_cons];omega
  ·
   show 2*((AA.getD c' []).length-Ao b c')+((b.AG.set c r).getD c' []).length=2*((AA.getD c' []).length-Ao b c')+(b.AG.getD c' []).length;rw[e,if_neg (fun h2=>h h2.symm)]
  ·
   show (b.AG.set c r).length=_;rw[List.length_set];exact hL.2
theorem IJ {AA:List (List Dd)}(hb:AQ AA=true){es:List Ev}{b:Bd}(hL:LN AA b)(h0:∀c,0<=b.AL.getD c 0){s:Int}(hs:Gv (Ad AA b) s=true):DR AA (Am AA es b s)+1<=DR AA b/\LN AA (Am AA es b s)/\∀c',0<=(Am AA es b s).AL.getD c' 0:=by
 have hl3:AA.length<=3:=by
  simp only[AQ,Bool.and_eq_true,decide_eq_true_eq] at hb;exact hb.1.1.1.1.2
 have hm:=Ih hs;unfold Ad at hm;rw[List.mem_append,List.mem_map,List.mem_map] at hm;rcases hm with ⟨c,hc,e⟩|⟨c,hc,e⟩
 ·
  rw[List.mem_filter,List.mem_range] at hc;obtain⟨hc,hcan⟩:=hc;unfold Bh at hcan;simp only[Bool.and_eq_true,decide_eq_true_eq] at hcan;unfold Am;rw[if_neg (by omega),show s.toNat=c by omega];exact ZU _ hc _ b hL h0 (by omega) hcan.1 (by omega)
 ·
  rw[List.mem_filter,List.mem_range] at hc;obtain⟨hc,hne⟩:=hc;unfold Am;rw[if_pos (by omega),show (s-10).toNat=c by omega];refine WV hL h0 hc (fun h=>?_);rw[h] at hne;simp at hne
theorem jD (AA:List (List Dd)):Hj (fun c=>(AA.getD c []).length) AA.length=C8 AA:=by
 have h:∀(l:List (List Dd)) (m:Nat),m<=l.length->Hj (fun c=>(l.getD c []).length) m=C8 (l.take m):=by
  intro l m
  induction m with
  |zero=>intro _;simp[Hj,C8]
  |succ m ih=>
   intro hm;rw[Hj,ih (by omega),List.take_add_one,List.getElem?_eq_getElem (by omega),List.getD_eq_getElem?_getD,List.getElem?_eq_getElem (by omega)];simp only[Option.toList_some,Option.getD_some]
   have:∀(x:List (List Dd)) (d:List Dd),C8 (x++[d])=C8 x+d.length:=by
    intro x d
    induction x with
    |nil=>simp[C8]
    |cons y x ih=>rw[List.cons_append,C8,ih,C8];omega
   rw[this]
 have:=h AA AA.length (Nat.le_refl _);rw[List.take_length] at this;exact this
theorem KV {AA:List (List Dd)}(hb:AQ AA=true):DR AA (Cd AA)<=24/\LN AA (Cd AA)/\∀c',0<=(Cd AA).AL.getD c' 0:=by
 have h12:C8 AA<=12:=by
  simp only[AQ,Bool.and_eq_true,decide_eq_true_eq] at hb;exact hb.1.1.2
 have h0:∀c',(Cd AA).AL.getD c' 0=0:=fun c'=>by
  show (List.replicate AA.length (0:Int)).getD c' 0=0;rw[List.getD_eq_getElem?_getD,List.getElem?_replicate];split<;>rfl
 refine⟨?_,⟨by show (List.replicate _ _).length=_;simp,by show (List.replicate _ _).length=_;simp⟩,fun c'=>by rw[h0];omega⟩
 have e:∀m:Nat,Hj (PD AA (Cd AA)) m=2*Hj (fun c=>(AA.getD c []).length) m:=by
  intro m
  induction m with
  |zero=>rfl
  |succ m ih=>
   rw[Hj,Hj,ih]
   have:PD AA (Cd AA) m=2*(AA.getD m []).length:=by
    unfold PD Ao;rw[h0]
    have:(Cd AA).AG.getD m []=[]:=by
     show (List.replicate AA.length ([]:List Nt)).getD m []=[];rw[List.getD_eq_getElem?_getD,List.getElem?_replicate];split<;>rfl
    rw[this];simp
   rw[this];omega
 unfold DR;rw[e,jD];omega
theorem Kg {AA:List (List Dd)}{b:Bd}{c:Nat}(hc:c<AA.length)(h:Bh AA b c=true):Gv (Ad AA b) (c:Int)=true:=by
 refine Ij ?_;unfold Ad;exact List.mem_append_left _ (List.mem_map.2 ⟨c,List.mem_filter.2 ⟨List.mem_range.2 hc,h⟩,rfl⟩)
theorem NX {AA:List (List Dd)}{b:Bd}{c:Nat}(hc:c<AA.length)(h:b.AG.getD c []≠[]):Gv (Ad AA b) (10+(c:Int))=true:=by
 refine Ij ?_;unfold Ad;refine List.mem_append_right _ (List.mem_map.2 ⟨c,List.mem_filter.2 ⟨List.mem_range.2 hc,?_⟩,rfl⟩)
 cases hq:b.AG.getD c [] with
 |nil=>exact absurd hq h
 |cons _ _=>rfl
theorem fK {AA:List (List Dd)}{b:Bd}{a:Ab}(R:YB AA b a){c:Nat}(hc:c<AA.length):Bh AA b c=(decide (a.nx c<(AA.getD c []).length)&&((decide ((Al AA c (a.nx c)).1<=2)&&decide (BP AA c (a.nx c)=0))||(a.N c).isEmpty)):=by
 unfold Bh;rw[(D9 R hc).2,El R hc]
 congr 2
 cases a.N c<;>rfl
theorem Ci {AA:List (List Dd)}(hb:AQ AA=true):AA.length<=3:=by
 simp only[AQ,Bool.and_eq_true,decide_eq_true_eq] at hb;exact hb.1.1.1.1.2
theorem PW {AA:List (List Dd)}(hb:AQ AA=true){b:Bd}{c:Nat}(hc:c<AA.length)(hk:Ao b c<(AA.getD c []).length)(hg:BP AA c (Ao b c)=0):Am AA (AB AA) b (c:Int)=Aj AA (AB AA) b c:=by
 have:=Ci hb;unfold Am;rw[if_neg (by omega),Int.toNat_natCast,hg]
 cases hq:(AA.getD c []).length with
 |zero=>omega
 |succ m=>rw[Ef,if_pos (.inl rfl)]
def Bf (AA:List (List Dd))(es:List Ev)(b:Bd)(c:Nat):Bd:=
 if ((Am AA es b (c:Int)).AG.getD c []).isEmpty=true then Am AA es b (c:Int) else Am AA es (Am AA es b (c:Int)) (10+(c:Int))
def dQ (AA:List (List Dd))(a:Ab)(τ:Nat->Nat):Prop:=∀i j,(C3 AA a τ).D (Bk AA) i->(C3 AA a τ).D (Bk AA) j->3<=i->i<j->(Bk AA).ck i=(Bk AA).ck j->(Bk AA).cs i≠(Bk AA).cs j->τ i<τ j
structure QI (AA:List (List Dd))(b:Bd)(a:Ab)(τ:Nat->Nat)(T:Nat)(z:Int):Prop where
 mi:MI AA b a τ T z
 bd:BD AA a
 no:∀c,a.N c=[]
 mono:dQ AA a τ
theorem SK {AA:List (List Dd)}{a a':Ab}{τ τ':Nat->Nat}{T:Nat}{z0 z:Int}(I:Fx (Bk AA) (C3 AA a τ) T z0)(hm:dQ AA a τ)(hD:∀j,3<=j->(C3 AA a' τ').D (Bk AA) j->(C3 AA a τ).D (Bk AA) j\/((Bk AA).cs j=z/\¬(C3 AA a τ).X j/\T<τ' j))
  (hτ:∀i,(C3 AA a τ).D (Bk AA) i->τ' i=τ i):dQ AA a' τ':=by
 intro i j hi hj h3 hij hck hcs;rcases hD i h3 hi with oi|⟨ci,ni,ti⟩
 ·
  rcases hD j (by omega) hj with oj|⟨cj,nj,tj⟩
  ·
   rw[hτ i oi,hτ j oj];exact hm i j oi oj h3 hij hck hcs
  ·
   have:=I.OS i oi;rw[hτ i oi];change τ i<=T at this;omega
 ·
  rcases hD j (by omega) hj with oj|⟨cj,nj,tj⟩
  . exact absurd (I.down i j oj.1 h3 hij hck) ni
  . exact absurd (ci.trans cj.symm) hcs
theorem Wj {AA:List (List Dd)}(hb:AQ AA=true){b:Bd}{a:Ab}{τ:Nat->Nat}{T:Nat}{z:Int}(M:MI AA b a τ T z)(hT:1<=T){c:Nat}(hc:c<AA.length)(hk:a.nx c<(AA.getD c []).length)
  (hz:Cz AA c (a.nx c)=z) (h4:(Al AA c (a.nx c)).1≠4) (h2:(Al AA c (a.nx c)).1=2->BP AA c (a.nx c)≠0) (hN:a.N c=[]):
  ∃a' τ',MI AA (Aj AA (AB AA) b c) a' τ' T z/\a'.nx=(BN a c).nx/\a'.N=a.N/\(∀i,(C3 AA a τ).X i->τ' i=τ i)/\∀j,(C3 AA a' τ').X j->(C3 AA a τ).X j\/(Bk AA).cs j=z:=by
 have E:=Cl hc hk h4;have hnew:=(FH hb a τ hc hk h4).new;have s4:=(DK hb E).2.2.2;rcases CM (CG hb hc _ hk) with h|h|h|h
 ·
  obtain⟨f,_,M'⟩:=Lw hb M hT hc hk h hz (.inr hN);refine⟨_,_,M',rfl,rfl,fun i hi=>?_,fun j hj=>?_⟩
  ·
   show (if i=Ac AA c (a.nx c) then T else τ i)=τ i;rw[if_neg (fun e=>hnew (by rw[<-e];exact hi))]
  ·
   rcases (kS hb a τ _ hc hk h f j).1 hj with hj|hj
   . exact .inl hj
   . exact .inr (by rw[hj,s4,hz])
 ·
  have M':=NU hb M hT hc hk h (h2 h) hz hN;refine⟨_,_,M',rfl,rfl,fun i hi=>?_,fun j hj=>?_⟩
  ·
   show (if i=Ac AA c (a.nx c) then T else τ i)=τ i;rw[if_neg (fun e=>hnew (by rw[<-e];exact hi))]
  ·
   rcases (qK hb a τ _ hc hk h _ j).1 hj with hj|hj
   . exact .inl hj
   . exact .inr (by rw[hj,s4,hz])
 ·
  have M':=Lx hb M hT hc hk h hz hN;have E2:=Ic hc hk h;have r4:=(DK hb E2).2.2.2;refine⟨_,_,M',rfl,rfl,fun i hi=>?_,fun j hj=>?_⟩
  ·
   show (if i=Ac AA c (a.nx c)+1 then T else if i=Ac AA c (a.nx c) then T else τ i)=τ i;rw[if_neg (fun e=>?_),if_neg (fun e=>hnew (by rw[<-e];exact hi))];have:=hi.2;rw[e,J8 hb E2,decide_eq_true_eq] at this;omega
  ·
   rcases (kT hb a τ _ hc hk h _ j).1 hj with (hj|hj)|hj
   . exact .inl hj
   . exact .inr (by rw[hj,s4,hz])
   . exact .inr (by rw[hj,r4,hz])
 . exact absurd h h4
theorem Ru {AA:List (List Dd)}(hb:AQ AA=true){c:Nat}(hc:c<AA.length)(g:Int){T:Nat}(hT:1<=T){z:Int}:∀(m:Nat) (b:Bd) (a:Ab) (τ:Nat->Nat),MI AA b a τ T z->a.nx c<(AA.getD c []).length->(AA.getD c []).length<=a.nx c+m->BP AA c (a.nx c)=g ->
  Cz AA c (a.nx c)=z->(Al AA c (a.nx c)).1≠4->((Al AA c (a.nx c)).1=2->BP AA c (a.nx c)≠0)->a.N c=[] ->
  ∃a' τ',MI AA (Ef AA (AB AA) g c m b) a' τ' T z/\a.nx c<a'.nx c/\(∀c',c'≠c->a'.nx c'=a.nx c')/\a'.N=a.N/\(∀i,(C3 AA a τ).X i->τ' i=τ i)/\(∀j,(C3 AA a' τ').X j->(C3 AA a τ).X j\/(Bk AA).cs j=z)/\(a'.nx c<(AA.getD c []).length->BP AA c (a'.nx c)≠0->BP AA c (a'.nx c-1)≠BP AA c (a'.nx c))
 | 0,b,a,τ,M,hk,hm,_,_,_,_,_=>by omega
 |m+1,b,a,τ,M,hk,hm,hg,hz,h4,h2,hN=>by
  obtain⟨a1,τ1,M1,e1,e2,e3,e4⟩:=Wj hb M hT hc hk hz h4 h2 hN;have hn1:a1.nx c=a.nx c+1:=by rw[e1,C2,if_pos rfl]
  have ho1:∀c',c'≠c->a1.nx c'=a.nx c':=fun c' h=>by rw[e1,C2,if_neg h]
  have hX1:∀j,(C3 AA a τ).X j->(C3 AA a1 τ1).X j:=by
   intro j hj;refine⟨hj.1,?_⟩;have:=hj.2;unfold ET at this ⊢;rw[e1];simp only[Bool.or_eq_true,decide_eq_true_eq] at this ⊢;rcases this with h|h
   . exact .inl h
   ·
    refine .inr ?_;rw[C2];split
    . rename_i e;rw[e] at h;omega
    . exact h
  rw[Ef,(D9 M1.Bz hc).2,hn1];by_cases hs:g=0\/a.nx c+1=(AA.getD c []).length\/BP AA c (a.nx c+1)≠g
  ·
   rw[if_pos hs];refine⟨a1,τ1,M1,by omega,ho1,e2,e3,e4,?_⟩;rw[hn1];intro hl hg0;rw[show a.nx c+1-1=a.nx c by omega,hg];rcases hs with hs|hs|hs
   . rw[hs];exact fun e=>hg0 e.symm
   . omega
   . exact fun e=>hs e.symm
  ·
   rw[if_neg hs];have hs0:¬g=0:=fun h=>hs (.inl h)
   have hs1:¬a.nx c+1=(AA.getD c []).length:=fun h=>hs (.inr (.inl h))
   have hs2:BP AA c (a.nx c+1)=g:=Classical.byContradiction (fun h=>hs (.inr (.inr h)));have hl:=M1.VB c hc;have hk1:a.nx c+1<(AA.getD c []).length:=by omega
   have hok:=CG hb hc;have n2:=FB hok hk1 (by rw[hs2];exact hs0);have hcl:Cz AA c (a.nx c+1)=Cz AA c (a.nx c):=(Ib hok hok hk1 hk n2.1 h4).2 ⟨rfl,.inr ⟨by rw[hs2];exact hs0,by rw[hs2,hg]⟩⟩;obtain⟨a',τ',M',q1,q2,q3,q4,q5,q6⟩:=Ru hb hc g hT m (Aj AA (AB AA) b c) a1 τ1 M1 (by omega) (by omega) (by rw[hn1];exact hs2) (by rw[hn1,hcl];exact hz) (by rw[hn1];exact n2.1) (by rw[hn1,hs2];exact fun _=>hs0) (by rw[e2];exact hN);refine⟨a',τ',M',by omega,fun c' h=>by rw[q2 c' h,ho1 c' h],by rw[q3,e2],fun i hi=>by rw[q4 i (hX1 i hi),e3 i hi],fun j hj=>?_,q6⟩;rcases q5 j hj with h|h
   . exact e4 j h
   . exact .inr h
theorem pE {AA:List (List Dd)}{a:Ab}(τ:Nat->Nat)(h:∀c,a.N c=[])(j:Nat):(C3 AA a τ).D (Bk AA) j↔(C3 AA a τ).X j:=by
 have:∀c,(C3 AA a τ).N c=[]:=fun c=>by
  show (if 0<=c then a.N c.toNat else [])=[];split
  . exact h _
  . rfl
 unfold BE.D;rw[this];simp
theorem Wn {AA:List (List Dd)}(hb:AQ AA=true){b:Bd}{a:Ab}{τ:Nat->Nat}{T:Nat}{z:Int}(Q:QI AA b a τ T z){c:Nat}(hc:c<AA.length)(hcan:Bh AA b c=true):
  ∃a' τ' T' z',QI AA (Bf AA (AB AA) b c) a' τ' T' z':=by
 have M:=Q.mi;have hl3:=Ci hb;have hn:=(D9 M.Bz hc).2
 have hk:a.nx c<(AA.getD c []).length:=by
  rw[fK M.Bz hc] at hcan;simp only[Bool.and_eq_true,decide_eq_true_eq] at hcan;exact hcan.1
 have hok:=CG hb hc;by_cases h4:(Al AA c (a.nx c)).1=4
 ·
  have hg0:BP AA c (a.nx c)=0:=by
   apply Classical.byContradiction;intro hg;exact (FB hok hk hg).1 h4
  have hst:=PW hb hc (b:=b) (by rw[hn];exact hk) (by rw[hn];exact hg0);have M':=PO hb M hc hk h4 (Q.no c)
  have hq:Bf AA (AB AA) b c=Aj AA (AB AA) b c:=by
   unfold Bf;rw[hst,if_pos];rw[El M'.Bz hc];show ((a.N c).map _).isEmpty=true;rw[Q.no c];rfl
  rw[hq];refine⟨_,τ,T,z,M',fun c' hc' h0 hl hg=>?_,Q.no,?_⟩
  ·
   by_cases e:c'=c
   ·
    subst e;rw[C2,if_pos rfl] at hl hg ⊢;rw[show a.nx c'+1-1=a.nx c' by omega,hg0];exact fun h=>hg h.symm
   ·
    rw[C2,if_neg e] at h0 hl hg ⊢;exact Q.bd c' hc' h0 hl hg
  ·
   unfold dQ;rw[VS hb a τ hc hk h4];exact Q.mono
 ·
  have E:=Cl hc hk h4;have s:=DK hb E;by_cases hpl:(Al AA c (a.nx c)).1=2/\BP AA c (a.nx c)=0
  ·
   have hst:=PW hb hc (b:=b) (by rw[hn];exact hk) (by rw[hn];exact hpl.2);have M':=PM hb M hc hk hpl.1 hpl.2
   have hN':(SR AA a c).N c=Ac AA c (a.nx c)::[]:=by
    show (if c=c then a.N c++[Ac AA c (a.nx c)] else a.N c)=_;rw[if_pos rfl,Q.no c];rfl
   have M2:=Lp hb M' hc hN'
   have hq:Bf AA (AB AA) b c=BT (Aj AA (AB AA) b c) c:=by
    unfold Bf;rw[hst,if_neg]
    ·
     unfold Am;rw[if_pos (by omega),show (10+(c:Int)-10).toNat=c by omega]
    ·
     rw[El M'.Bz hc,hN'];simp
   rw[hq]
   have hno:∀c',(Py (SR AA a c) c ((Bk AA).pl (Ac AA c (a.nx c))) (Ac AA c (a.nx c)) []).N c'=[]:=by
    intro c';show (if c'=c then [] else (if c'=c then a.N c'++[Ac AA c (a.nx c)] else a.N c'))=[];split
    . rfl
    . exact Q.no c'
   have hX:∀j,(C3 AA (Py (SR AA a c) c ((Bk AA).pl (Ac AA c (a.nx c))) (Ac AA c (a.nx c)) []) (fun i=>if i=Ac AA c (a.nx c) then T+1 else τ i)).X j↔(C3 AA a τ).X j\/j=Ac AA c (a.nx c):=fun j=>kR hb a τ τ hc hk hpl.1 j
   have hnew:=(FH hb a τ hc hk h4).new;refine⟨_,_,_,_,M2,fun c' hc' h0 hl hg=>?_,hno,?_⟩
   ·
    change 0<(BN a c).nx c' at h0;change (BN a c).nx c'<_ at hl;change BP AA c' ((BN a c).nx c')≠0 at hg;show BP AA c' ((BN a c).nx c'-1)≠BP AA c' ((BN a c).nx c');by_cases e:c'=c
    ·
     subst e;rw[C2,if_pos rfl] at hl hg ⊢;rw[show a.nx c'+1-1=a.nx c' by omega,hpl.2];exact fun h=>hg h.symm
    ·
     rw[C2,if_neg e] at h0 hl hg ⊢;exact Q.bd c' hc' h0 hl hg
   ·
    refine SK M.inv Q.mono (z:=Cz AA c (a.nx c)) (fun j h3 hj=>?_) (fun i hi=>?_)
    ·
     rcases (hX j).1 hj.1 with h|h
     . exact .inl ((pE τ Q.no j).2 h)
     ·
      refine .inr ⟨by rw[h];exact s.2.2.2,by rw[h];exact hnew,?_⟩;show T<if j=Ac AA c (a.nx c) then T+1 else τ j
      rw[if_pos h];omega
    ·
     show (if i=Ac AA c (a.nx c) then T+1 else τ i)=τ i;rw[if_neg (fun e=>hnew (by rw[<-e];exact hi.1))]
  ·
   have h2:(Al AA c (a.nx c)).1=2->BP AA c (a.nx c)≠0:=fun h h'=>hpl ⟨h,h'⟩
   have M1:MI AA b a τ (T+1) (Cz AA c (a.nx c)):=by
    refine⟨M.Bz,M.inv.tick _ (fun i hi h3 e=>?_),M.VB,M.nt⟩;obtain⟨c',k',i',E',hX,e1,e2⟩:=Yh hb hi h3;rw[e1] at e;obtain⟨rfl,hq⟩:=(Ib (CG hb E'.hc) hok E'.hk hk E'.kind h4).1 e;rcases hq with hq|⟨g1,g2⟩
    . omega
    ·
     have h0:BP AA c' (a.nx c')≠0:=by rw[<-g2];exact g1
     refine Q.bd c' hc (by omega) hk h0 ?_;exact Lq hb hc (j:=k') (k:=a.nx c'-1) (l:=a.nx c') (by omega) (by omega) hk h0 g2
   have hst:Am AA (AB AA) b (c:Int)=Ef AA (AB AA) (BP AA c (a.nx c)) c (AA.getD c []).length b:=by
    unfold Am;rw[if_neg (by omega),Int.toNat_natCast,hn]
   obtain⟨a',τ',M',q1,q2,q3,q4,q5,q6⟩:=Ru hb hc (BP AA c (a.nx c)) (T:=T+1) (by omega) (AA.getD c []).length b a τ M1 hk (by omega) rfl rfl h4 h2 (Q.no c);have hno:∀c',a'.N c'=[]:=fun c'=>by rw[q3];exact Q.no c'
   have hq:Bf AA (AB AA) b c=Ef AA (AB AA) (BP AA c (a.nx c)) c (AA.getD c []).length b:=by
    unfold Bf;rw[hst,if_pos];rw[El M'.Bz hc,hno c];rfl
   rw[hq];refine⟨a',τ',T+1,_,M',fun c' hc' h0 hl hg=>?_,hno,?_⟩
   ·
    by_cases e:c'=c
    . subst e;exact q6 hl hg
    ·
     rw[q2 c' e] at h0 hl hg ⊢;exact Q.bd c' hc' h0 hl hg
   ·
    refine SK M.inv Q.mono (z:=Cz AA c (a.nx c)) (fun j h3 hj=>?_) (fun i hi=>q4 i hi.1);by_cases y8:(C3 AA a τ).X j
    . exact .inl ((pE τ Q.no j).2 y8)
    ·
     have hcs:=(q5 j hj.1).resolve_left y8;refine .inr ⟨hcs,y8,?_⟩;have:=(M'.inv.now j hj h3).2 hcs;change τ' j=T+1 at this;omega
def Bu:List Int->List Int->Bool
 |x::a,y::b=>if x≠y then decide (x<y) else Bu a b
 |a,b=>decide (a.length<b.length)
theorem EH (x y:Int)(a b:List Int):Bu (x::a) (y::b)=if x≠y then decide (x<y) else Bu a b:=by rw[Bu]
theorem KU (b:List Int):Bu [] b=decide (0<b.length):=by
 unfold Bu;rfl
theorem Ft (a:List Int):Bu a []=false:=by
 cases a with
 |nil=>rfl
 |cons x a=>unfold Bu;simp
theorem EY:∀a:List Int,Bu a a=false
 | []=>rfl
 |x::a=>by rw[EH,if_neg (by simp)];exact EY a
theorem FV:∀a b c:List Int,Bu a b=true->Bu b c=true->Bu a c=true
 | [],b,[],_,h2=>by rw[Ft] at h2;cases h2
 | [],b,y::c,_,_=>by rw[KU];simp
 |x::a,[],c,h1,_=>by rw[Ft] at h1;cases h1
 |x::a,y::b,[],_,h2=>by rw[Ft] at h2;cases h2
 |x::a,y::b,z::c,h1,h2=>by
  rw[EH] at h1 h2 ⊢;by_cases e1:x=y
  ·
   subst e1;rw[if_neg (by simp)] at h1;by_cases e2:x=z
   ·
    subst e2;rw[if_neg (by simp)] at h2 ⊢;exact FV a b c h1 h2
   . rw[if_pos e2] at h2 ⊢;exact h2
  ·
   rw[if_pos e1,decide_eq_true_eq] at h1;by_cases e2:y=z
   ·
    subst e2;rw[if_pos e1,decide_eq_true_eq];exact h1
   ·
    rw[if_pos e2,decide_eq_true_eq] at h2;rw[if_pos (by omega),decide_eq_true_eq];omega
theorem Gy:∀a b:List Int,a=b\/Bu a b=true\/Bu b a=true
 | [],[] => .inl rfl
 | [],y::b => .inr (.inl (by rw[KU];simp))
 |x::a,[] => .inr (.inr (by rw[KU];simp))
 |x::a,y::b=>by
  rw[EH,EH];by_cases e:x=y
  ·
   subst e;rw[if_neg (by simp),if_neg (by simp)];rcases Gy a b with h|h
   . exact .inl (by rw[h])
   . exact .inr h
  ·
   rw[if_pos e,if_pos (fun h=>e h.symm),decide_eq_true_eq,decide_eq_true_eq];right;omega
theorem WU {a b:List Int}(h1:Bu a b=true)(h2:Bu b a=true):False:=by
 have:=FV a b a h1 h2;rw[EY] at this;cases this
abbrev OW (l:List (List Int)):Prop:=l.Pairwise (fun a b=>Bu a b=true)
theorem Iv {l:List (List Int)}(h:OW l):l.Nodup:=h.imp (fun {a b} hab e=>by rw[e,EY] at hab;cases hab)
theorem iP {a b:List (List Int)}(ha:OW a)(hb:OW b)(h:∀x,x∈a↔x∈b):a=b:=by
 refine List.Perm.eq_of_pairwise (le:=fun a b=>Bu a b=true) (fun x y _ _ h1 h2=>(WU h1 h2).elim) ha hb ?_;exact (List.perm_ext_iff_of_nodup (Iv ha) (Iv hb)).2 h
def DD (l:List (List Int))(x:List Int):Nat:=l.countP (fun a=>Bu a x)
theorem Qj (l:List (List Int))(x:List Int):DD l x<=l.length:=List.countP_le_length
theorem Fe:∀ {l:List (List Int)},OW l->∀(x:List Int) (i:Nat) (hi:i<l.length),Bu l[i] x=decide (i<DD l x)
 | [],_,x,i,hi=>by simp at hi
 |y::l,h,x,i,hi=>by
  rw[OW,List.pairwise_cons] at h;unfold DD;rw[List.countP_cons];by_cases hy:Bu y x=true
  ·
   rw[if_pos hy]
   cases i with
   |zero=>simp[hy]
   |succ i=>
    have:=Fe h.2 x i (by simp at hi;omega);unfold DD at this;simp only[List.getElem_cons_succ];rw[this];simp
  ·
   rw[if_neg hy]
   have h0:l.countP (fun a=>Bu a x)=0:=by
    rw[List.countP_eq_zero];intro a ha hax;exact hy (FV _ _ _ (h.1 a ha) hax)
   rw[h0]
   cases i with
   |zero=>simp[hy]
   |succ i=>
    have:=Fe h.2 x i (by simp at hi;omega);unfold DD at this;rw[h0] at this;simp only[List.getElem_cons_succ];rw[this];simp
theorem Zs {l:List (List Int)}(h:OW l)(x:List Int):x∈l↔DD l x<l.length/\l.getD (DD l x) []=x:=by
 constructor
 ·
  intro hx;obtain⟨i,hi,e⟩:=List.getElem_of_mem hx;have h1:=Fe h x i hi;rw[e,EY] at h1;have h2:¬i<DD l x:=of_decide_eq_false h1.symm;have hr:DD l x<l.length:=by omega
  refine⟨hr,?_⟩;have h3:=Fe h x _ hr;rw[decide_eq_false (by omega)] at h3;rw[List.getD_eq_getElem?_getD,List.getElem?_eq_getElem hr,Option.getD_some];by_cases e2:DD l x=i
  . simp only[e2];exact e
  ·
   exfalso;have:=List.pairwise_iff_getElem.1 h _ _ hr hi (by omega);rw[e] at this;rw[this] at h3;cases h3
 ·
  rintro⟨h1,h2⟩;rw[List.getD_eq_getElem?_getD,List.getElem?_eq_getElem h1,Option.getD_some] at h2;rw[<-h2];exact List.getElem_mem h1
def QG (l:List (List Int))(x:List Int):Bool:=decide (DD l x<l.length)&&(l.getD (DD l x) []==x)
def EL (l:List (List Int))(x:List Int):List (List Int):=if QG l x=true then l else l.take (DD l x)++x::l.drop (DD l x)
theorem QH {l:List (List Int)}(h:OW l)(x:List Int):QG l x=true↔x∈l:=by
 rw[Zs h];unfold QG;simp only[Bool.and_eq_true,decide_eq_true_eq,beq_iff_eq]
theorem VL (l:List (List Int))(h:OW l)(x y:List Int):y∈EL l x↔y∈l\/y=x:=by
 unfold EL;split
 ·
  rename_i hx;constructor
  . exact fun h => .inl h
  ·
   rintro (h|rfl)
   . exact h
   . exact (QH h _).1 hx
 ·
  rw[List.mem_append,List.mem_cons]
  have:y∈l↔y∈l.take (DD l x)\/y∈l.drop (DD l x):=by
   rw[<-List.mem_append,List.take_append_drop]
  rw[this];constructor
  ·
   rintro (h|h|h)
   . exact .inl (.inl h)
   . exact .inr h
   . exact .inl (.inr h)
  ·
   rintro ((h|h)|h)
   . exact .inl h
   . exact .inr (.inr h)
   . exact .inr (.inl h)
theorem Qg {l:List (List Int)}(h:OW l)(x:List Int):OW (EL l x):=by
 unfold EL;split
 . exact h
 ·
  rename_i hx;have hnot:x∉l:=fun hm=>hx ((QH h x).2 hm)
  have h':=h;rw[<-List.take_append_drop (DD l x) l,OW,List.pairwise_append] at h'
  have ht:∀a,a∈l.take (DD l x)->Bu a x=true:=by
   intro a ha;obtain⟨i,hi,e⟩:=List.getElem_of_mem ha;rw[List.length_take] at hi;rw[List.getElem_take] at e;rw[<-e,Fe h x i (by omega)];simp;omega
  have hd:∀a,a∈l.drop (DD l x)->Bu x a=true:=by
   intro a ha;have hal:a∈l:=List.mem_of_mem_drop ha;obtain⟨i,hi,e⟩:=List.getElem_of_mem ha;rw[List.length_drop] at hi;rw[List.getElem_drop] at e;have:=Fe h x (DD l x+i) (by omega);rw[e,decide_eq_false (by omega)] at this;rcases Gy x a with g|g|g
   . exact absurd (by rw[g];exact hal) hnot
   . exact g
   . rw[g] at this;cases this
  rw[OW,List.pairwise_append,List.pairwise_cons];refine⟨h'.1,⟨hd,h'.2.1⟩,fun a ha b hb=>?_⟩;rcases List.mem_cons.1 hb with rfl|hb
  . exact ht a ha
  . exact h'.2.2 a ha b hb
def GQ (AG:List (List Nt)):List Int:=AG.flatMap (fun n=>-2::n.map (fun x=>x.2.2))
def Cm (b:Bd):List Int:=b.AL++b.AO++b.sn++GQ b.AG
def An (b:Bd):List Int:=b.sn++b.AM
def GM (b:Bd):Bd:={ b with fr:=[],rws:=[] }
theorem Vs (AA:List (List Dd))(es:List Ev)(b:Bd)(c k:Nat):GM (BL AA es (GM b) c k)=GM (BL AA es b c k):=by
 unfold BL;split
 . rfl
 ·
  split
  . rfl
  ·
   split
   . rfl
   . split<;>rfl
theorem RV (AA:List (List Dd))(es:List Ev)(b:Bd)(c:Nat):GM (Aj AA es (GM b) c)=GM (Aj AA es b c):=by
 have h:=Vs AA es b c (Ao b c);have e:Ao (GM b) c=Ao b c:=rfl;unfold Aj;rw[e];simp only[GM] at h ⊢;injection h with h1 h2 h3 h4 h5;rw[h1,h2,h3,h5]
def De (b b':Bd):Prop:=GM b=GM b'
theorem Vo {AA:List (List Dd)}{es:List Ev}{b b':Bd}(h:De b b')(c:Nat):De (Aj AA es b c) (Aj AA es b' c):=by
 unfold De at h ⊢;rw[<-RV,h,RV]
theorem GL {b b':Bd}(h:De b b'):b.AL=b'.AL/\b.AG=b'.AG/\b.sn=b'.sn/\b.AM=b'.AM/\b.AO=b'.AO:=by
 unfold De GM at h;injection h with h1 h2 h3 h4 h5;exact⟨h4,h3,h5,h1,h2⟩
theorem RP {AA:List (List Dd)}{es:List Ev}(g:Int)(c:Nat):∀(m:Nat) (b b':Bd),De b b'->De (Ef AA es g c m b) (Ef AA es g c m b')
 | 0,_,_,h=>h
 |m+1,b,b',h=>by
  have h1:=Vo (AA:=AA) (es:=es) h c;have e:Ao (Aj AA es b c) c=Ao (Aj AA es b' c) c:=by unfold Ao;rw[(GL h1).1]
  rw[Ef,Ef,e];split
  . exact h1
  . exact RP g c m _ _ h1
theorem RO {b b':Bd}(h:De b b')(c:Nat):De (BT b c) (BT b' c):=by
 obtain⟨h1,h2,h3,h4,h5⟩:=GL h;unfold BT;rw[h2];split
 . exact h
 ·
  unfold De GM Dn;simp only;rw[h1,h3,h4,h5]
theorem JS {AA:List (List Dd)}{es:List Ev}{b b':Bd}(h:De b b')(s:Int):De (Am AA es b s) (Am AA es b' s):=by
 unfold Am;have e:Ao b s.toNat=Ao b' s.toNat:=by unfold Ao;rw[(GL h).1]
 split
 . exact RO h _
 . rw[e];exact RP _ _ _ _ _ h
theorem RR {AA:List (List Dd)}{es:List Ev}{b b':Bd}(h:De b b')(c:Nat):De (Bf AA es b c) (Bf AA es b' c):=by
 have h1:=JS (AA:=AA) (es:=es) h (c:Int);unfold Bf;rw[(GL h1).2.1];split
 . exact h1
 . exact JS h1 _
theorem JR {AA:List (List Dd)}{b b':Bd}(h:De b b'):Ad AA b=Ad AA b'/\Co AA b=Co AA b'/\Cm b=Cm b'/\An b=An b':=by
 obtain⟨h1,h2,h3,h4,h5⟩:=GL h;have hn:∀c,Ao b c=Ao b' c:=fun c=>by unfold Ao;rw[h1]
 refine⟨?_,?_,?_,?_⟩
 ·
  unfold Ad;have:Bh AA b=Bh AA b':=by funext c;unfold Bh;rw[hn,h2]
  rw[this,h2]
 ·
  unfold Co;rw[h2]
  congr 1
  funext c;rw[hn]
 . unfold Cm;rw[h1,h2,h3,h5]
 . unfold An;rw[h3,h4]
theorem WI:∀L:List (List Int),(L.flatMap (fun l=>(-2:Int)::l)).takeWhile (fun x=>decide (0<=x))=[]
 | []=>rfl
 |l::L=>by rw[List.flatMap_cons,List.cons_append,List.takeWhile_cons];simp
theorem Rp:∀(L L':List (List Int)),(∀l∈L,∀x∈l,0<=x)->(∀l∈L',∀x∈l,0<=x)->L.flatMap (fun l=>(-2:Int)::l)=L'.flatMap (fun l=>(-2:Int)::l)->L=L'
 | [],[],_,_,_=>rfl
 | [],_::_,_,_,h=>by simp at h
 |_::_,[],_,_,h=>by simp at h
 |l::L,l'::L',h1,h2,h=>by
  rw[List.flatMap_cons,List.flatMap_cons,List.cons_append,List.cons_append,List.cons.injEq] at h
  have t:∀(l:List Int) (L:List (List Int)),(∀x∈l,0<=x)->(l++L.flatMap (fun l=>(-2:Int)::l)).takeWhile (fun x=>decide (0<=x))=l:=by
   intro l L hl;rw[List.takeWhile_append_of_pos (fun x hx=>by simpa using hl x hx),WI,List.append_nil]
  have e1:=t l L (h1 l (by simp));have e2:=t l' L' (h2 l' (by simp));rw[h.2] at e1;have e:l=l':=e1.symm.trans e2;subst e;rw[Rp L L' (fun l hl=>h1 l (List.mem_cons_of_mem _ hl)) (fun l hl=>h2 l (List.mem_cons_of_mem _ hl)) (List.append_cancel_left h.2)]
theorem Rs {AA:List (List Dd)}{b:Bd}{a:Ab}(R:YB AA b a):GQ b.AG=((List.range AA.length).map (fun c=>(a.N c).map Int.ofNat)).flatMap (fun l=>(-2:Int)::l):=by
 unfold GQ;rw[R.AG,List.flatMap_map,List.flatMap_map]
 congr 1
 funext c;rw[List.map_map];rfl
theorem LG {AA:List (List Dd)}{b b':Bd}{a a':Ab}(R:YB AA b a)(R':YB AA b' a')(h:Cm b=Cm b'):De b b':=by
 unfold Cm at h;have l1:b.AL.length=b'.AL.length:=by rw[R.AL,R'.AL];simp
 have l2:b.AO.length=b'.AO.length:=by rw[R.AO,R'.AO];simp
 have l3:b.sn.length=b'.sn.length:=by rw[R.sn,R'.sn];simp
 obtain⟨h1,h4⟩:=List.append_inj h (by simp[l1,l2,l3]);obtain⟨h1,h3⟩:=List.append_inj h1 (by simp[l1,l2]);obtain⟨h1,h2⟩:=List.append_inj h1 l1;rw[Rs R,Rs R'] at h4
 have hp:∀(a:Ab),∀l∈(List.range AA.length).map (fun c=>(a.N c).map Int.ofNat),∀x∈l,0<=x:=by
  intro a l hl x hx;obtain⟨c,_,rfl⟩:=List.mem_map.1 hl;obtain⟨y,_,rfl⟩:=List.mem_map.1 hx;exact Int.natCast_nonneg y
 have h5:=Rp _ _ (hp a) (hp a') h4
 have hN:∀c,c<AA.length->a.N c=a'.N c:=by
  intro c hc;have:=congrArg (fun l=>l.getD c []) h5;rw[Cr _ _ hc,Cr _ _ hc] at this;exact List.map_inj_right (fun x y e=>Int.ofNat.inj e) |>.1 this
 have hl:∀p,p<3->BW a p=BW a' p:=by
  intro p hp;have e1:=(LO R hp).1;have e2:=(LO R' hp).1;rw[h2] at e1;omega
 unfold De GM
 have ZA:b.AG=b'.AG:=by
  rw[R.AG,R'.AG];refine List.map_congr_left (fun c hc=>?_);rw[hN c (List.mem_range.1 hc)]
 have zH:b.AM=b'.AM:=by
  rw[R.AM,R'.AM];refine List.map_congr_left (fun p hp=>?_);rw[hl p (List.mem_range.1 hp)]
 rw[h1,h2,h3,ZA,zH]
theorem NO {AA:List (List Dd)}{b:Bd}(h:Ad AA b=[]):Co AA b=true:=by
 unfold Ad at h;rw[List.append_eq_nil_iff,List.map_eq_nil_iff,List.map_eq_nil_iff,List.filter_eq_nil_iff,List.filter_eq_nil_iff] at h;unfold Co;rw[List.all_eq_true];intro c hc;have h1:=h.1 c hc;have h2:=h.2 c hc
 have h3:(b.AG.getD c []).isEmpty=true:=by
  cases hq:(b.AG.getD c []).isEmpty with
  |true=>rfl
  |false=>rw[hq] at h2;simp at h2
 unfold Bh at h1;rw[h3] at h1 ⊢;simp only[Bool.or_true,Bool.and_true,decide_eq_true_eq,Nat.not_lt] at h1;rw[decide_eq_true h1];rfl
theorem TV {AA:List (List Dd)}{b:Bd}(h:Co AA b=true):Ad AA b=[]:=by
 unfold Co at h;rw[List.all_eq_true] at h;unfold Ad;rw[List.append_eq_nil_iff,List.map_eq_nil_iff,List.map_eq_nil_iff,List.filter_eq_nil_iff,List.filter_eq_nil_iff];constructor
 ·
  intro c hc;have:=h c hc;simp only[Bool.and_eq_true,decide_eq_true_eq] at this;unfold Bh;simp only[Bool.and_eq_true,decide_eq_true_eq,not_and];intro h2;omega
 ·
  intro c hc;have:=h c hc;simp only[Bool.and_eq_true] at this;rw[this.2];simp
theorem WY {AA:List (List Dd)}(hb:AQ AA=true):QI AA (Cd AA) Jd (fun _=>0) 0 (-1):=by
 have hX:∀j,(C3 AA Jd (fun _=>0)).X j->j<3:=by
  intro j hj;have:=hj.2;unfold ET Jd at this;simp at this;omega
 refine⟨(KY hb).1,(KY hb).2,fun _=>rfl,fun i j hi _ h3=>?_⟩;have:=hX i hi.1;omega
def BK (AA:List (List Dd))(es:List Ev)(quick:Bool)(b:Bd):List Bd:=
 ((Ad AA b).filter (fun s=>!(quick&&decide (10<=s)))).map (fun s=>if quick=true then Bf AA es b s.toNat else Am AA es b s)
inductive A6 (AA:List (List Dd)) (quick:Bool):Bd->Prop
 |new:A6 AA quick (Cd AA)
 |step {b x:Bd}:A6 AA quick b->x∈BK AA (AB AA) quick b->A6 AA quick x
structure SS where
 ends:List (List Int)
 seen:List (List Int)
 opn:List Bd
def Jh (AA:List (List Dd))(es:List Ev)(quick:Bool)(S:SS):SS:=
 match S.opn.getLast? with
 |none=>S
 |some b=>
  if QG S.seen (Cm b)=true then { S with opn:=S.opn.dropLast }
  else if Co AA b=true then { ends:=EL S.ends (An b),seen:=EL S.seen (Cm b),opn:=S.opn.dropLast }
  else { ends:=S.ends,seen:=EL S.seen (Cm b),opn:=S.opn.dropLast++BK AA es quick b }
theorem Iy {AA:List (List Dd)}{b:Bd}{s:Int}(h:s∈Ad AA b)(hl3:AA.length<=3):(∃c:Nat,s=(c:Int)/\c<AA.length/\Bh AA b c=true/\s<10)\/(∃c:Nat,s=10+(c:Int)/\c<AA.length/\b.AG.getD c []≠[]/\10<=s):=by
 unfold Ad at h;rw[List.mem_append,List.mem_map,List.mem_map] at h;rcases h with ⟨c,hc,e⟩|⟨c,hc,e⟩
 ·
  rw[List.mem_filter,List.mem_range] at hc;exact .inl ⟨c,e.symm,hc.1,hc.2,by omega⟩
 ·
  rw[List.mem_filter,List.mem_range] at hc;refine .inr ⟨c,e.symm,hc.1,fun h=>?_,by omega⟩;rw[h] at hc;simp at hc
theorem Fu {AA:List (List Dd)}{es:List Ev}(hb:AQ AA=true){quick:Bool}{b x:Bd}(h:x∈BK AA es quick b):
  (quick=true/\∃c,c<AA.length/\Bh AA b c=true/\x=Bf AA es b c)\/(quick=false/\∃s,Gv (Ad AA b) s=true/\x=Am AA es b s):=by
 unfold BK at h;rw[List.mem_map] at h;obtain⟨s,hs,e⟩:=h;rw[List.mem_filter] at hs
 cases quick with
 |true=>
  rw[if_pos rfl] at e;rcases Iy hs.1 (Ci hb) with ⟨c,ec,h1,h2,_⟩|⟨c,ec,h1,h2,h3⟩
  ·
   refine .inl ⟨rfl,c,h1,h2,?_⟩;rw[<-e,ec,Int.toNat_natCast]
  ·
   have:=hs.2;rw[decide_eq_true h3] at this;simp at this
 |false=>
  rw[if_neg (by simp)] at e;exact .inr ⟨rfl,s,Ij hs.1,e.symm⟩
theorem SP {AA:List (List Dd)}{es:List Ev}(hb:AQ AA=true){b:Bd}{c:Nat}(hc:c<AA.length)(h:Bh AA b c=true):Bf AA es b c∈BK AA es true b:=by
 have:=Ci hb;unfold BK;rw[List.mem_map];refine⟨(c:Int),List.mem_filter.2 ⟨Ih (Kg hc h),?_⟩,by rw[if_pos rfl,Int.toNat_natCast]⟩;rw[decide_eq_false (by omega)];rfl
theorem FW {AA:List (List Dd)}{es:List Ev}{b:Bd}{s:Int}(h:Gv (Ad AA b) s=true):Am AA es b s∈BK AA es false b:=by
 unfold BK;rw[List.mem_map];exact⟨s,List.mem_filter.2 ⟨Ih h,rfl⟩,by rw[if_neg (by simp)]⟩
theorem A8 {AA:List (List Dd)}(hb:AQ AA=true){quick:Bool}{b:Bd}(h:A6 AA quick b):∃a τ T z,MI AA b a τ T z/\BD AA a/\(quick=true->QI AA b a τ T z):=by
 induction h with
 |new=>exact⟨_,_,_,_,(KY hb).1,(KY hb).2,fun _=>WY hb⟩
 |step hr hx ih=>
  obtain⟨a,τ,T,z,M,B,Q⟩:=ih;rcases Fu hb hx with ⟨hq,c,hc,hcan,rfl⟩|⟨hq,s,hs,rfl⟩
  ·
   obtain⟨a',τ',T',z',Q'⟩:=Wn hb (Q hq) hc hcan;exact⟨a',τ',T',z',Q'.mi,Q'.bd,fun _=>Q'⟩
  ·
   obtain⟨a',τ',z',M',B'⟩:=Sp hb M B hs;exact⟨a',τ',T+1,z',M',B',fun h=>by rw[hq] at h;cases h⟩
theorem RQ {AA:List (List Dd)}{es:List Ev}{quick:Bool}{b b':Bd}(h:De b b'){x:Bd}(hx:x∈BK AA es quick b):∃x',x'∈BK AA es quick b'/\De x x':=by
 unfold BK at hx ⊢;rw[List.mem_map] at hx;obtain⟨s,hs,e⟩:=hx;rw[(JR (AA:=AA) h).1] at hs;refine⟨_,List.mem_map.2 ⟨s,hs,rfl⟩,?_⟩;rw[<-e];split
 . exact RR h _
 . exact JS h _
structure SI (AA:List (List Dd))(quick:Bool)(S:SS):Prop where
 oe:OW S.ends
 os:OW S.seen
 opn:∀b,b∈S.opn->A6 AA quick b
 ends:∀e,e∈S.ends->∃b,A6 AA quick b/\Co AA b=true/\e=An b
 seen:∀k,k∈S.seen->∃b,A6 AA quick b/\Cm b=k/\(Co AA b=true->An b∈S.ends)/\(Co AA b=false->∀x,x∈BK AA (AB AA) quick b->Cm x∈S.seen\/x∈S.opn)
 FC:Cm (Cd AA)∈S.seen\/Cd AA∈S.opn
theorem nO (AA:List (List Dd))(quick:Bool):SI AA quick { ends:=[],seen:=[],opn:=[Cd AA] }:=
 ⟨List.Pairwise.nil,List.Pairwise.nil,fun b hb=>by rw[List.mem_singleton] at hb;rw[hb];exact .new,fun e he=>(by cases he),fun k hk=>(by cases hk),.inr (List.mem_singleton.2 rfl)⟩
theorem To {α:Type}{l:List α}{b:α}(h:l.getLast? = some b)(x:α):x∈l↔x∈l.dropLast\/x=b:=by
 obtain⟨l',rfl⟩:=List.getLast?_eq_some_iff.1 h;rw[List.dropLast_concat,List.mem_append,List.mem_singleton]
theorem UJ {AA:List (List Dd)}{quick:Bool}{S:SS}(h:SI AA quick S):SI AA quick (Jh AA (AB AA) quick S):=by
 unfold Jh
 cases hl:S.opn.getLast? with
 |none=>exact h
 |some b=>
  have hm:=To hl;have hbr:A6 AA quick b:=h.opn b ((hm b).2 (.inr rfl));show SI AA quick (if QG S.seen (Cm b)=true then _ else _);by_cases hs:QG S.seen (Cm b)=true
  ·
   rw[if_pos hs];have hk:=(QH h.os _).1 hs;refine⟨h.oe,h.os,fun x hx=>h.opn x ((hm x).2 (.inl hx)),h.ends,fun k hk'=>?_,?_⟩
   ·
    obtain⟨y,y1,y2,y3,y4⟩:=h.seen k hk';refine⟨y,y1,y2,y3,fun he x hx=>?_⟩;rcases y4 he x hx with g|g
    . exact .inl g
    ·
     rcases (hm x).1 g with g|g
     . exact .inr g
     . exact .inl (by rw[g];exact hk)
   ·
    rcases h.FC with g|g
    . exact .inl g
    ·
     rcases (hm _).1 g with g|g
     . exact .inr g
     . exact .inl (by rw[g];exact hk)
  ·
   rw[if_neg hs];have hp:=VL S.seen h.os (Cm b);by_cases he:Co AA b=true
   ·
    rw[if_pos he];have hpe:=VL S.ends h.oe (An b);refine⟨Qg h.oe _,Qg h.os _,fun x hx=>h.opn x ((hm x).2 (.inl hx)),fun e hx=>?_,fun k hk'=>?_,?_⟩
    ·
     rcases (hpe e).1 hx with g|g
     . exact h.ends e g
     . exact⟨b,hbr,he,g⟩
    ·
     rcases (hp k).1 hk' with g|g
     ·
      obtain⟨y,y1,y2,y3,y4⟩:=h.seen k g;refine⟨y,y1,y2,fun he=>(hpe _).2 (.inl (y3 he)),fun he x hx=>?_⟩;rcases y4 he x hx with g|g
      . exact .inl ((hp _).2 (.inl g))
      ·
       rcases (hm x).1 g with g|g
       . exact .inr g
       . exact .inl ((hp _).2 (.inr (by rw[g])))
     . exact⟨b,hbr,g.symm,fun _=>(hpe _).2 (.inr rfl),fun h'=>by rw[he] at h';cases h'⟩
    ·
     rcases h.FC with g|g
     . exact .inl ((hp _).2 (.inl g))
     ·
      rcases (hm _).1 g with g|g
      . exact .inr g
      . exact .inl ((hp _).2 (.inr (by rw[g])))
   ·
    rw[if_neg he];refine⟨h.oe,Qg h.os _,fun x hx=>?_,h.ends,fun k hk'=>?_,?_⟩
    ·
     rcases List.mem_append.1 hx with g|g
     . exact h.opn x ((hm x).2 (.inl g))
     . exact .step hbr g
    ·
     rcases (hp k).1 hk' with g|g
     ·
      obtain⟨y,y1,y2,y3,y4⟩:=h.seen k g;refine⟨y,y1,y2,y3,fun he x hx=>?_⟩;rcases y4 he x hx with g|g
      . exact .inl ((hp _).2 (.inl g))
      ·
       rcases (hm x).1 g with g|g
       . exact .inr (List.mem_append_left _ g)
       . exact .inl ((hp _).2 (.inr (by rw[g])))
     . exact⟨b,hbr,g.symm,fun h'=>absurd h' he,fun _ x hx => .inr (List.mem_append_right _ hx)⟩
    ·
     rcases h.FC with g|g
     . exact .inl ((hp _).2 (.inl g))
     ·
      rcases (hm _).1 g with g|g
      . exact .inr (List.mem_append_left _ g)
      . exact .inl ((hp _).2 (.inr (by rw[g])))
def Dg (AA:List (List Dd))(quick:Bool)(l:List (List Int)):Prop:=OW l/\∀x,x∈l↔∃b,A6 AA quick b/\Co AA b=true/\x=An b
theorem Ym {AA:List (List Dd)}{quick:Bool}{l l':List (List Int)}(h:Dg AA quick l)(h':Dg AA quick l'):l=l':=iP h.1 h'.1 (fun x=>by rw[h.2,h'.2])
theorem TU {AA:List (List Dd)}{es:List Ev}{quick:Bool}{b x:Bd}(hx:x∈BK AA es quick b):Co AA b=false:=by
 cases he:Co AA b with
 |false=>rfl
 |true=>
  unfold BK at hx;rw[TV he] at hx;cases hx
theorem Sg {AA:List (List Dd)}(hb:AQ AA=true){quick:Bool}{S:SS}(h:SI AA quick S)(h0:S.opn=[]):Dg AA quick S.ends:=by
 have all:∀b,A6 AA quick b->Cm b∈S.seen:=by
  intro b hr
  induction hr with
  |new=>
   rcases h.FC with g|g
   . exact g
   . rw[h0] at g;cases g
  | @step b x hr hx ih=>
   obtain⟨y,y1,y2,y3,y4⟩:=h.seen _ ih;obtain⟨a,_,_,_,M,_⟩:=A8 hb hr;obtain⟨a',_,_,_,M',_⟩:=A8 hb y1;have al:=LG M.Bz M'.Bz y2.symm;obtain⟨x',hx',ax⟩:=RQ al hx;have:=y4 (TU hx') x' hx';rw[h0] at this;rw[(JR (AA:=AA) ax).2.2.1];exact this.resolve_right (by simp)
 refine⟨h.oe,fun x=>⟨h.ends x,?_⟩⟩;rintro⟨b,hr,he,rfl⟩;obtain⟨y,y1,y2,y3,y4⟩:=h.seen _ (all b hr);obtain⟨a,_,_,_,M,_⟩:=A8 hb hr;obtain⟨a',_,_,_,M',_⟩:=A8 hb y1;have al:=JR (AA:=AA) (LG M.Bz M'.Bz y2.symm);rw[al.2.2.2];exact y3 (by rw[<-al.2.1];exact he)
theorem Zv {AA:List (List Dd)}{b:Bd}{a:Ab}(R:YB AA b a):LN AA b/\∀c,0<=b.AL.getD c 0:=by
 refine⟨⟨by rw[R.AL];simp,by rw[R.AG];simp⟩,fun c=>?_⟩;by_cases hc:c<AA.length
 . rw[(D9 R hc).1];exact Int.natCast_nonneg _
 ·
  rw[List.getD_eq_getElem?_getD,List.getElem?_eq_none (by rw[R.AL];simp;omega)];exact Int.le_refl _
theorem WW {AA:List (List Dd)}(hb:AQ AA=true){es:List Ev}{b:Bd}(hL:LN AA b)(h0:∀c,0<=b.AL.getD c 0){c:Nat}(hc:c<AA.length)(hcan:Bh AA b c=true):DR AA (Bf AA es b c)+1<=DR AA b:=by
 obtain⟨m1,m2,m3⟩:=IJ hb (es:=es) hL h0 (Kg hc hcan);unfold Bf;split
 . exact m1
 ·
  rename_i hne;have:=IJ hb (es:=es) m2 m3 (NX hc (fun h=>hne (by rw[h];rfl)));omega
theorem FF {AA:List (List Dd)}(hb:AQ AA=true){quick:Bool}{b x:Bd}(hr:A6 AA quick b)(hx:x∈BK AA (AB AA) quick b):DR AA x+1<=DR AA b:=by
 obtain⟨a,_,_,_,M,_⟩:=A8 hb hr;obtain⟨hL,h0⟩:=Zv M.Bz;rcases Fu hb hx with ⟨_,c,hc,hcan,rfl⟩|⟨_,s,hs,rfl⟩
 . exact WW hb hL h0 hc hcan
 . exact (IJ hb hL h0 hs).1
theorem Il {AA:List (List Dd)}(hb:AQ AA=true){es:List Ev}{quick:Bool}{b:Bd}:(BK AA es quick b).length<=6:=by
 have hl3:=Ci hb;unfold BK;rw[List.length_map];refine Nat.le_trans (List.length_filter_le _ _) ?_;unfold Ad;rw[List.length_append,List.length_map,List.length_map];have h1:=List.length_filter_le (Bh AA b) (List.range AA.length);have h2:=List.length_filter_le (fun c=>!(b.AG.getD c []).isEmpty) (List.range AA.length);rw[List.length_range] at h1 h2;omega
def Jp (AA:List (List Dd))(l:List Bd):Nat:=(l.map (fun b=>7 ^ DR AA b)).sum
theorem Pg (AA:List (List Dd))(a b:List Bd):Jp AA (a++b)=Jp AA a+Jp AA b:=by
 unfold Jp;rw[List.map_append,List.sum_append]
theorem Sx {AA:List (List Dd)}{w:Nat}:∀l:List Bd,(∀x,x∈l->7 ^ DR AA x<=w)->Jp AA l<=l.length*w
 | [],_=>by unfold Jp;simp
 |x::l,h=>by
  have h1:=Sx l (fun y hy=>h y (List.mem_cons_of_mem _ hy));have h2:=h x (by simp);have:Jp AA (x::l)=7 ^ DR AA x+Jp AA l:=by unfold Jp;rw[List.map_cons,List.sum_cons]
  rw[this,List.length_cons,Nat.add_mul];omega
theorem Za {AA:List (List Dd)}(hb:AQ AA=true){quick:Bool}{b:Bd}(hr:A6 AA quick b):Jp AA (BK AA (AB AA) quick b)<7 ^ DR AA b:=by
 by_cases hn:BK AA (AB AA) quick b=[]
 ·
  rw[hn];exact Nat.pow_pos (by omega)
 ·
  obtain⟨x,hx⟩:=List.exists_mem_of_ne_nil _ hn;have h1:=FF hb hr hx
  have h2:=Sx (AA:=AA) (w:=7 ^ (DR AA b-1)) (BK AA (AB AA) quick b) (fun y hy=>by
   have:=FF hb hr hy
   exact Nat.pow_le_pow_right (by omega) (by omega))
  have h3:=Il hb (es:=AB AA) (quick:=quick) (b:=b)
  have h4:7 ^ DR AA b=7*7 ^ (DR AA b-1):=by
   rw[<-Nat.pow_succ',show (DR AA b-1).succ=DR AA b by omega]
  have h5:0<7 ^ (DR AA b-1):=Nat.pow_pos (by omega);have h6:=Nat.mul_le_mul_right (7 ^ (DR AA b-1)) h3;omega
theorem UR {AA:List (List Dd)}(hb:AQ AA=true){quick:Bool}{S:SS}(h:SI AA quick S)(hne:S.opn≠[]):Jp AA (Jh AA (AB AA) quick S).opn<Jp AA S.opn:=by
 unfold Jh
 cases hl:S.opn.getLast? with
 |none=>exact absurd (List.getLast?_eq_none_iff.1 hl) hne
 |some b=>
  obtain⟨l',e⟩:=List.getLast?_eq_some_iff.1 hl;have hbr:A6 AA quick b:=h.opn b (by rw[e];simp);have e1:Jp AA S.opn=Jp AA l'+7 ^ DR AA b:=by rw[e,Pg];unfold Jp;simp
  have e2:S.opn.dropLast=l':=by rw[e,List.dropLast_concat]
  have hp:0<7 ^ DR AA b:=Nat.pow_pos (by omega);show Jp AA (if QG S.seen (Cm b)=true then _ else _:SS).opn<_;split
  ·
   show Jp AA S.opn.dropLast<_;rw[e2,e1];omega
  ·
   split
   ·
    show Jp AA S.opn.dropLast<_;rw[e2,e1];omega
   ·
    show Jp AA (S.opn.dropLast++_)<_;rw[Pg,e2,e1];have:=Za hb hbr;omega
theorem PI {AA:List (List Dd)}(hb:AQ AA=true){quick:Bool}{b:Bd}(hr:A6 AA quick b)(he:¬Co AA b=true):∃x,x∈BK AA (AB AA) quick b:=by
 have hp:Ad AA b≠[]:=fun h=>he (NO h)
 obtain⟨s,hs⟩:=List.exists_mem_of_ne_nil _ hp
 cases quick with
 |false=>exact⟨_,FW (Ij hs)⟩
 |true=>
  obtain⟨a,τ,T,z,M,_,hQ⟩:=A8 hb hr;have Q:=hQ rfl;rcases Iy hs (Ci hb) with ⟨c,_,hc,hcan,_⟩|⟨c,_,hc,hne,_⟩
  . exact⟨_,SP hb hc hcan⟩
  ·
   rw[El M.Bz hc,Q.no c] at hne;exact absurd rfl hne
theorem Ty {AA:List (List Dd)}(hb:AQ AA=true){b:Bd}(h:A6 AA true b):A6 AA false b:=by
 induction h with
 |new=>exact .new
 |step hr hx ih=>
  rcases Fu hb hx with ⟨_,c,hc,hcan,rfl⟩|⟨hq,_⟩
  ·
   have h1:A6 AA false _:= .step ih (FW (es:=AB AA) (Kg hc hcan));unfold Bf;split
   . exact h1
   ·
    rename_i hne;exact .step h1 (FW (NX hc (fun h=>hne (by rw[h];rfl))))
  . cases hq
theorem Wr {AA:List (List Dd)}(hb:AQ AA=true){quick:Bool}:∀(m:Nat) (b:Bd),DR AA b<=m->A6 AA quick b->∃b',A6 AA quick b'/\Co AA b'=true:=by
 intro m
 induction m with
 |zero=>
  intro b hm hr;by_cases he:Co AA b=true
  . exact⟨b,hr,he⟩
  ·
   exfalso;obtain⟨x,hx⟩:=PI hb hr he;have:=FF hb hr hx;omega
 |succ m ih=>
  intro b hm hr;by_cases he:Co AA b=true
  . exact⟨b,hr,he⟩
  ·
   obtain⟨x,hx⟩:=PI hb hr he;have:=FF hb hr hx;exact ih x (by omega) (.step hr hx)
def FK (b:Bd):Bd:={ b with AO:=[],fr:=[],rws:=[] }
def Ce (b b':Bd):Prop:=FK b=FK b'
theorem Zt (b:Bd)(c p:Nat):(Ct (FK b) c p).1=(Ct b c p).1:=by
 unfold Ct;show (match (b.AG.getD c []).reverse.find? (fun x:Nt=>x.1==(p:Int)) with|some x=>x.2|none=>(b.AM.getD p 0,(([]:List Int).getD p 0:Int))).1=_;cases (b.AG.getD c []).reverse.find? (fun x:Nt=>x.1==(p:Int))<;>rfl
theorem TI (AA:List (List Dd))(es:List Ev)(b:Bd)(c k:Nat):FK (BL AA es (FK b) c k)=FK (BL AA es b c k):=by
 unfold BL;split
 ·
  have h:=Zt b c (Al AA c k).2.1.toNat;unfold Fo;show ({ AM:=b.AM,AO:=[],AG:=b.AG,AL:=b.AL,sn:=G3 _ _ (Ct (FK b) c _).1 b.sn,fr:=[],rws:=[] }:Bd)=_;rw[h];rfl
 ·
  split
  . rfl
  ·
   split
   . rfl
   . split<;>rfl
theorem Oe (AA:List (List Dd))(es:List Ev)(b:Bd)(c:Nat):FK (Aj AA es (FK b) c)=FK (Aj AA es b c):=by
 have h:=TI AA es b c (Ao b c);have e:Ao (FK b) c=Ao b c:=rfl;unfold Aj;rw[e];simp only[FK] at h ⊢;injection h with h1 h2 h3 h4 h5;rw[h1,h3,h5]
theorem TG {AA:List (List Dd)}{es:List Ev}{b b':Bd}(h:Ce b b')(c:Nat):Ce (Aj AA es b c) (Aj AA es b' c):=by
 unfold Ce at h ⊢;rw[<-Oe,h,Oe]
theorem EB {b b':Bd}(h:Ce b b'):b.AL=b'.AL/\b.AG=b'.AG/\b.sn=b'.sn/\b.AM=b'.AM:=by
 unfold Ce FK at h;injection h with h1 h2 h3 h4 h5;exact⟨h4,h3,h5,h1⟩
theorem Vm {b b':Bd}(h1:b.AL=b'.AL)(h2:b.AG=b'.AG)(h3:b.sn=b'.sn)(h4:b.AM=b'.AM):Ce b b':=by
 unfold Ce FK;rw[h1,h2,h3,h4]
theorem Od {AA:List (List Dd)}{es:List Ev}(g:Int)(c:Nat):∀(m:Nat) (b b':Bd),Ce b b'->Ce (Ef AA es g c m b) (Ef AA es g c m b')
 | 0,_,_,h=>h
 |m+1,b,b',h=>by
  have h1:=TG (AA:=AA) (es:=es) h c;have e:Ao (Aj AA es b c) c=Ao (Aj AA es b' c) c:=by unfold Ao;rw[(EB h1).1]
  rw[Ef,Ef,e];split
  . exact h1
  . exact Od g c m _ _ h1
theorem Pj {b b':Bd}(h:Ce b b')(c:Nat):Ce (BT b c) (BT b' c):=by
 obtain⟨h1,h2,h3,h4⟩:=EB h;unfold BT;rw[h2];split
 . exact h
 ·
  unfold Ce FK Dn;simp only;rw[h1,h3,h4]
theorem Ho {AA:List (List Dd)}{es:List Ev}{b b':Bd}(h:Ce b b')(s:Int):Ce (Am AA es b s) (Am AA es b' s):=by
 unfold Am;have e:Ao b s.toNat=Ao b' s.toNat:=by unfold Ao;rw[(EB h).1]
 split
 . exact Pj h _
 . rw[e];exact Od _ _ _ _ _ h
theorem Pk {AA:List (List Dd)}{es:List Ev}{b b':Bd}(h:Ce b b')(c:Nat):Ce (Bf AA es b c) (Bf AA es b' c):=by
 have h1:=Ho (AA:=AA) (es:=es) h (c:Int);unfold Bf;rw[(EB h1).2.1];split
 . exact h1
 . exact Ho h1 _
theorem Hm {AA:List (List Dd)}{b b':Bd}(h:Ce b b'):Ad AA b=Ad AA b'/\Bh AA b=Bh AA b'/\Co AA b=Co AA b'/\An b=An b':=by
 obtain⟨h1,h2,h3,h4⟩:=EB h;have hn:∀c,Ao b c=Ao b' c:=fun c=>by unfold Ao;rw[h1]
 have hc:Bh AA b=Bh AA b':=by funext c;unfold Bh;rw[hn,h2]
 refine⟨?_,hc,?_,?_⟩
 ·
  unfold Ad;rw[hc,h2]
 ·
  unfold Co;rw[h2]
  congr 1
  funext c;rw[hn]
 . unfold An;rw[h3,h4]
theorem G4:∀ {l' l:List Nat},l'.Pairwise (·<·)->l.Pairwise (·<·)->(∀x∈l',x∈l)->l'.Sublist l
 | [],_,_,_,_=>List.nil_sublist _
 |y::r',[],_,_,h=>by cases h y (by simp)
 |y::r',x::r,h',h,hs=>by
  obtain⟨a1,a2⟩:=List.pairwise_cons.1 h';obtain⟨b1,b2⟩:=List.pairwise_cons.1 h;by_cases e:y=x
  ·
   subst e;refine (G4 a2 b2 (fun z hz=>?_)).cons_cons y;rcases List.mem_cons.1 (hs z (List.mem_cons_of_mem _ hz)) with q|q
   . have:=a1 z hz;omega
   . exact q
  ·
   have hy:y∈r:=by
    rcases List.mem_cons.1 (hs y (by simp)) with q|q
    . exact absurd q e
    . exact q
   have hxy:=b1 y hy;refine (G4 h' b2 (fun z hz=>?_)).cons x;rcases List.mem_cons.1 (hs z hz) with q|q
   ·
    rcases List.mem_cons.1 hz with q2|q2
    . exact q2 ▸ hy
    . have:=a1 z q2;omega
   . exact q
theorem SU {AA:List (List Dd)}{b b':Bd}{a a':Ab}{τ τ':Nat->Nat}{T T':Nat}{z z':Int}(M:MI AA b a τ T z)(M':MI AA b' a' τ' T' z'){c:Nat}(hn:a.nx c=a'.nx c){x y:Nat}(hx:x∈a.N c)(hy:y∈a'.N c)(hxy:x<=y):y∈a.N c:=by
 rcases Nat.lt_or_ge x y with h|h
 ·
  have hy':=M'.inv.note (c:Int) y (by rw[Hh];exact hy);obtain⟨⟨q1,q2⟩,q3,q4,q5⟩:=hy';have hck:((AB AA).getD y zE).1=(c:Int):=q4
  have hX:(C3 AA a τ).X y:=by
   refine⟨q1,?_⟩;unfold ET at q2 ⊢;rw[hck,Int.toNat_natCast] at q2 ⊢;rw[hn];exact q2
  have hx':x∈(C3 AA a τ).N (c:Int):=by rw[Hh];exact hx
  rcases M.inv.pend (c:Int) x y hx' hX h q4 with q|q
  . rw[q5] at q;cases q.1
  . rwa [Hh] at q
 ·
  have:x=y:=by omega
  exact this ▸ hx
theorem WZ {AA:List (List Dd)}{b b':Bd}{a a':Ab}{τ τ':Nat->Nat}{T T':Nat}{z z':Int}(M:MI AA b a τ T z)(M':MI AA b' a' τ' T' z'){c:Nat}(hn:a.nx c=a'.nx c)(hl:(a.N c).length=(a'.N c).length):a.N c=a'.N c:=by
 have s:=M.inv.LQ (c:Int);have s':=M'.inv.LQ (c:Int);rw[Hh] at s s';have up:=fun {x y}=>@SU AA b b' a a' τ τ' T T' z z' M M' c hn x y
 have up':=fun {x y}=>@SU AA b' b a' a τ' τ T' T z' z M' M c hn.symm x y
 generalize a.N c=l at *;generalize a'.N c=l' at *
 cases l with
 |nil=>exact (List.eq_nil_of_length_eq_zero hl.symm).symm
 |cons x r=>
  cases l' with
  |nil=>cases hl
  |cons y r'=>
   obtain⟨a1,a2⟩:=List.pairwise_cons.1 s;obtain⟨b1,b2⟩:=List.pairwise_cons.1 s';rcases Nat.le_total x y with h|h
   ·
    refine ((G4 s' s (fun v hv=>up (List.mem_cons_self) hv ?_)).eq_of_length hl.symm).symm;rcases List.mem_cons.1 hv with q|q
    . omega
    . have:=b1 v q;omega
   ·
    refine (G4 s s' (fun v hv=>up' (List.mem_cons_self) hv ?_)).eq_of_length hl;rcases List.mem_cons.1 hv with q|q
    . omega
    . have:=a1 v q;omega
def Bm (b b':Bd):Prop:=b.AM=b'.AM/\b.AL=b'.AL/\b.AG.map List.length=b'.AG.map List.length/\b.sn=b'.sn
theorem Ce.stand {b b':Bd}(h:Ce b b'):Bm b b':=by
 obtain⟨h1,h2,h3,h4⟩:=EB h;exact⟨h4,h1,by rw[h2],h3⟩
theorem Sm {AA:List (List Dd)}(hb:AQ AA=true){quick quick':Bool}{b b':Bd}(h:A6 AA quick b)(h':A6 AA quick' b')(hs:Bm b b'):Ce b b':=by
 obtain⟨a,τ,T,z,M,-⟩:=A8 hb h;obtain⟨a',τ',T',z',M',-⟩:=A8 hb h';obtain⟨s1,s2,s3,s4⟩:=hs;refine Vm s2 ?_ s4 s1
 have hn:∀c,c<AA.length->a.nx c=a'.nx c:=fun c hc=>by
  have e:b.AL.getD c 0=b'.AL.getD c 0:=by rw[s2]
  rw[(D9 M.Bz hc).1,(D9 M'.Bz hc).1] at e;omega
 rw[M.Bz.AG,M'.Bz.AG] at s3 ⊢;refine List.map_congr_left (fun c hc=>?_);have hc':=List.mem_range.1 hc;rw[List.map_map,List.map_map] at s3;have e:=congrArg (fun l:List Nat=>l.getD c 0) s3;have e1:=Cr (List.length ∘ fun c=>(a.N c).map (Wa AA)) 0 hc';have e2:=Cr (List.length ∘ fun c=>(a'.N c).map (Wa AA)) 0 hc';have e:=e1.symm.trans (e.trans e2);simp only[Function.comp_apply,List.length_map] at e;rw[WZ M M' (hn c hc') e]
def Vt (AA:List (List Dd))(c:Nat):Nat->Bool
 | 0=>true
 |k+1=>decide (BP AA c (k+1)=0) || !decide (BP AA c k=BP AA c (k+1))
theorem Oh (AA:List (List Dd))(c k:Nat):Vt AA c (k+1)=(decide (BP AA c (k+1)=0) || !decide (BP AA c k=BP AA c (k+1))):=rfl
def Rb (AA:List (List Dd))(c:Nat):Nat->Nat
 | 0=>0
 |k+1=>Rb AA c k+if Vt AA c k=true then 1 else 0
def jF (AA:List (List Dd))(c:Nat):Nat->Nat
 | 0=>0
 |k+1=>jF AA c k+if (Al AA c k).1=2/\¬ 0<BP AA c k then 1 else 0
def He (b:Bd)(c:Nat):Nat:=(b.AG.getD c []).length
def aJ (AA:List (List Dd))(quick:Bool)(b:Bd)(c:Nat):Int:=(Rb AA c (Ao b c):Int)+if quick=true then 0 else (jF AA c (Ao b c):Int)-(He b c:Int)
def Ko (f:Nat->Int):Nat->Int
 | 0=>0
 |m+1=>Ko f m+f m
theorem JA {f g:Nat->Int}:∀m:Nat,(∀c,c<m->f c=g c)->Ko f m=Ko g m
 | 0,_=>rfl
 |m+1,h=>by rw[Ko,Ko,JA m (fun c hc=>h c (by omega)),h m (by omega)]
theorem LY {f g:Nat->Int}{c:Nat}(h1:f c=g c+1)(h2:∀c',c'≠c->f c'=g c'):∀m:Nat,c<m->Ko f m=Ko g m+1
 | 0,h=>by omega
 |m+1,h=>by
  rw[Ko,Ko];by_cases e:c=m
  ·
   subst e;rw[JA c (fun c' hc=>h2 c' (by omega)),h1];omega
  ·
   have:=LY h1 h2 m (by omega);rw[h2 m (fun h=>e h.symm),this];omega
def bQ (AA:List (List Dd))(quick:Bool)(b:Bd):Int:=Ko (aJ AA quick b) AA.length
def Q6 (AA:List (List Dd))(b:Bd):Prop:=∀c,c<AA.length->Ao b c<(AA.getD c []).length->Vt AA c (Ao b c)=true
theorem Ze {AA:List (List Dd)}{es:List Ev}{b:Bd}(hL:LN AA b){c:Nat}(hc:c<AA.length):(∀c',c'≠c->(Aj AA es b c).AG.getD c' []=b.AG.getD c' [])/\He (Aj AA es b c) c=He b c+if (Al AA c (Ao b c)).1=2/\¬ 0<BP AA c (Ao b c) then 1 else 0:=by
 have e:(Aj AA es b c).AG=(BL AA es b c (Ao b c)).AG:=rfl;unfold He;rw[e];unfold BL;by_cases h1:(Al AA c (Ao b c)).1=1
 . rw[if_pos h1,if_neg (by omega)];exact⟨fun _ _=>rfl,rfl⟩
 ·
  rw[if_neg h1];by_cases h3:(Al AA c (Ao b c)).1=3
  . rw[if_pos h3,if_neg (by omega)];exact⟨fun _ _=>rfl,rfl⟩
  ·
   rw[if_neg h3];by_cases h2:(Al AA c (Ao b c)).1=2/\0<BP AA c (Ao b c)
   . rw[if_pos h2,if_neg (fun h=>h.2 h2.2)];exact⟨fun _ _=>rfl,rfl⟩
   ·
    rw[if_neg h2];by_cases h4:(Al AA c (Ao b c)).1=2
    ·
     rw[if_pos h4,if_pos ⟨h4,fun h=>h2 ⟨h4,h⟩⟩];refine⟨fun c' h=>?_,?_⟩
     . rw[show ({ b with AG:=b.AG.set c _ }:Bd).AG=b.AG.set c _ from rfl,Cy _ _ _ _ _ (by rw[hL.2];exact hc),if_neg (fun h2=>h h2.symm)]
     . rw[show ({ b with AG:=b.AG.set c _ }:Bd).AG=b.AG.set c _ from rfl,Cy _ _ _ _ _ (by rw[hL.2];exact hc),if_pos rfl,List.length_append];rfl
    . rw[if_neg h4,if_neg (fun h=>h4 h.1)];exact⟨fun _ _=>rfl,rfl⟩
structure Vf (AA:List (List Dd))(c:Nat)(b b':Bd):Prop where
 sQ:∀c',c'≠c->Ao b' c'=Ao b c'/\b'.AG.getD c' []=b.AG.getD c' []
 wr:(jF AA c (Ao b' c):Int)-(He b' c:Int)=(jF AA c (Ao b c):Int)-(He b c:Int)
 bl:Rb AA c (Ao b' c)=Rb AA c (Ao b c+1)
 lt:Ao b c<Ao b' c
 FC:Ao b' c<(AA.getD c []).length->Vt AA c (Ao b' c)=true
theorem VT {AA:List (List Dd)}{es:List Ev}(g:Int){c:Nat}(hc:c<AA.length):∀(m:Nat) (b:Bd),LN AA b->(∀c,0<=b.AL.getD c 0)->1<=m->Ao b c<(AA.getD c []).length->(AA.getD c []).length<=Ao b c+m->BP AA c (Ao b c)=g ->
  Vf AA c b (Ef AA es g c m b)
 | 0,_,_,_,h,_,_,_=>by omega
 |m+1,b,hL,h0,_,hk,hm,hg=>by
  obtain⟨-,q1,q2⟩:=U0 (es:=es) hL h0 hc hk;have hn:=(Tx (es:=es) hL h0 hc).1;have hnc:=hn c;rw[if_pos rfl] at hnc;obtain⟨n1,n2⟩:=Ze (es:=es) hL hc
  have wr1:(jF AA c (Ao (Aj AA es b c) c):Int)-(He (Aj AA es b c) c:Int)=(jF AA c (Ao b c):Int)-(He b c:Int):=by
   rw[hnc,jF,n2];split<;>omega
  have mo:∀c',c'≠c->Ao (Aj AA es b c) c'=Ao b c'/\(Aj AA es b c).AG.getD c' []=b.AG.getD c' []:=fun c' h=>⟨by rw[hn,if_neg (fun e=>h e.symm)],n1 c' h⟩
  rw[Ef];split
  ·
   rename_i hs;refine⟨mo,wr1,by rw[hnc],by omega,fun hlt=>?_⟩;rw[hnc] at hlt hs ⊢;rw[Oh];rcases hs with hs|hs|hs
   ·
    by_cases e:BP AA c (Ao b c+1)=0
    . simp[e]
    ·
     rw[hg,hs];have:¬(0:Int)=BP AA c (Ao b c+1):=fun h=>e h.symm
     simp[this]
   . omega
   ·
    rw[hg];have:¬g=BP AA c (Ao b c+1):=fun h=>hs h.symm
    simp[this]
  ·
   rename_i hs;have hs0:¬g=0:=fun h=>hs (.inl h)
   have hs1:¬Ao (Aj AA es b c) c=(AA.getD c []).length:=fun h=>hs (.inr (.inl h))
   have hs2:BP AA c (Ao (Aj AA es b c) c)=g:=by
    by_cases e:BP AA c (Ao (Aj AA es b c) c)=g
    . exact e
    . exact absurd (.inr (.inr e)) hs
   have S:=VT (es:=es) g hc m (Aj AA es b c) q1 q2 (by omega) (by omega) (by omega) hs2;refine⟨fun c' h=>⟨(S.sQ c' h).1.trans (mo c' h).1,(S.sQ c' h).2.trans (mo c' h).2⟩,S.wr.trans wr1,?_,by have:=S.lt;omega,S.FC⟩;rw[S.bl,hnc,Rb]
   have hnb:Vt AA c (Ao b c+1)=false:=by
    rw[Oh];rw[hnc] at hs2;rw[hg,hs2];simp[hs0]
   rw[hnb];simp
theorem Sq {AA:List (List Dd)}{es:List Ev}{b:Bd}(hL:LN AA b)(h0:∀c,0<=b.AL.getD c 0){c:Nat}(hl3:AA.length<=3)(hc:c<AA.length)(hk:Ao b c<(AA.getD c []).length):Vf AA c b (Am AA es b (c:Int)):=by
 unfold Am;rw[if_neg (by omega),show (c:Int).toNat=c from Int.toNat_natCast c];exact VT _ hc _ b hL h0 (by omega) hk (by omega) rfl
theorem Ou {AA:List (List Dd)}{b:Bd}(hL:LN AA b){c:Nat}(hc:c<AA.length):(BT b c).AL=b.AL/\(∀c',c'≠c->(BT b c).AG.getD c' []=b.AG.getD c' [])/\(b.AG.getD c []≠[]->He b c=He (BT b c) c+1):=by
 unfold BT He
 cases hq:b.AG.getD c [] with
 |nil=>exact⟨rfl,fun _ _=>rfl,fun h=>absurd rfl h⟩
 |cons x r=>
  have e:∀c',(b.AG.set c r).getD c' []=if c=c' then r else b.AG.getD c' []:=fun c'=>Cy _ _ _ _ _ (by rw[hL.2];exact hc)
  refine⟨rfl,fun c' h=>?_,fun _=>?_⟩
  ·
   show (b.AG.set c r).getD c' []=_;rw[e,if_neg (fun h2=>h h2.symm)]
  ·
   show (x::r).length=((b.AG.set c r).getD c []).length+1;rw[e,if_pos rfl];rfl
theorem SV {b b':Bd}(h:b'.AL=b.AL)(c:Nat):Ao b' c=Ao b c:=by unfold Ao;rw[h]
theorem Vf.tm {AA:List (List Dd)}{quick:Bool}{c:Nat}{b b':Bd}(S:Vf AA c b b')(hc:c<AA.length)(hb:Vt AA c (Ao b c)=true):bQ AA quick b'=bQ AA quick b+1:=by
 refine LY (c:=c) ?_ (fun c' h=>?_) _ hc
 ·
  unfold aJ;rw[S.bl,Rb,hb,if_pos rfl];have:=S.wr;cases quick
  . simp only[Bool.false_eq_true,if_false];omega
  . simp only[if_true];omega
 ·
  unfold aJ He;rw[(S.sQ c' h).1,(S.sQ c' h).2]
theorem Vf.atb {AA:List (List Dd)}{c:Nat}{b b':Bd}(S:Vf AA c b b')(h:Q6 AA b):Q6 AA b':=by
 intro c' hc' hk;by_cases e:c'=c
 . subst e;exact S.FC hk
 . rw[(S.sQ c' e).1] at hk ⊢;exact h c' hc' hk
theorem U8 {AA:List (List Dd)}(hb:AQ AA=true){quick:Bool}{b x:Bd}(hr:A6 AA quick b)(ha:Q6 AA b)(hx:x∈BK AA (AB AA) quick b):bQ AA quick x=bQ AA quick b+1/\Q6 AA x:=by
 obtain⟨a,_,_,_,M,_⟩:=A8 hb hr;obtain⟨hL,h0⟩:=Zv M.Bz;have hl3:=Ci hb
 have can:∀c,c<AA.length->Bh AA b c=true->Ao b c<(AA.getD c []).length:=fun c _ h=>by
  unfold Bh at h;simp only[Bool.and_eq_true,decide_eq_true_eq] at h;exact h.1
 rcases Fu hb hx with ⟨hq,c,hc,hcan,rfl⟩|⟨hq,s,hs,rfl⟩
 ·
  have hk:=can c hc hcan;have S:=Sq (es:=AB AA) hL h0 hl3 hc hk;obtain⟨-,m2,-⟩:=IJ hb (es:=AB AA) hL h0 (Kg hc hcan);subst hq;have t1:=S.tm (quick:=true) hc (ha c hc hk);have t2:=S.atb ha;unfold Bf;split
  . exact⟨t1,t2⟩
  ·
   have e10:Am AA (AB AA) (Am AA (AB AA) b (c:Int)) (10+(c:Int))=BT (Am AA (AB AA) b (c:Int)) c:=by
    rw[Am,if_pos (by omega),show (10+(c:Int)-10).toNat=c by omega]
   rw[e10];generalize Am AA (AB AA) b (c:Int)=y at *;obtain⟨f1,-,-⟩:=Ou m2 hc;refine⟨?_,fun c' hc' hk'=>?_⟩
   ·
    rw[<-t1];refine JA _ (fun c' _=>?_);unfold aJ;rw[SV f1];rfl
   . rw[SV f1] at hk' ⊢;exact t2 c' hc' hk'
 ·
  subst hq;rcases Iy (Ih hs) hl3 with ⟨c,rfl,hc,hcan,_⟩|⟨c,rfl,hc,hne,_⟩
  ·
   have hk:=can c hc hcan;have S:=Sq (es:=AB AA) hL h0 hl3 hc hk;exact⟨S.tm hc (ha c hc hk),S.atb ha⟩
  ·
   have e10:Am AA (AB AA) b (10+(c:Int))=BT b c:=by
    rw[Am,if_pos (by omega),show (10+(c:Int)-10).toNat=c by omega]
   rw[e10];obtain⟨f1,f2,f3⟩:=Ou hL hc;refine⟨LY (c:=c) ?_ (fun c' h=>?_) _ hc,fun c' hc' hk'=>?_⟩
   ·
    unfold aJ;rw[SV f1];have:=f3 hne;simp only[Bool.false_eq_true,if_false];omega
   ·
    unfold aJ He;rw[SV f1,f2 c' h]
   . rw[SV f1] at hk' ⊢;exact ha c' hc' hk'
theorem Sc {AA:List (List Dd)}(hb:AQ AA=true){quick:Bool}{b:Bd}(h:A6 AA quick b):Q6 AA b/\∃n:Nat,bQ AA quick b=(n:Int)/\n+DR AA b<=24:=by
 induction h with
 |new=>
  have h0:∀c',Ao (Cd AA) c'=0:=fun c'=>by
   have:(Cd AA).AL.getD c' 0=0:=by
    show (List.replicate AA.length (0:Int)).getD c' 0=0;rw[List.getD_eq_getElem?_getD,List.getElem?_replicate];split<;>rfl
   unfold Ao;rw[this];rfl
  have h1:∀c',He (Cd AA) c'=0:=fun c'=>by
   unfold He;show ((List.replicate AA.length ([]:List Nt)).getD c' []).length=0;rw[List.getD_eq_getElem?_getD,List.getElem?_replicate];split<;>rfl
  refine⟨fun c _ _=>by rw[h0];rfl,0,?_,by have:=(KV hb).1;omega⟩
  have:∀m,Ko (aJ AA quick (Cd AA)) m=0:=by
   intro m
   induction m with
   |zero=>rfl
   |succ m ih=>
    rw[Ko,ih];unfold aJ;rw[h0,h1,Rb,jF];simp
  exact this _
 |step hr hx ih=>
  obtain⟨ha,n,hn,hm⟩:=ih;obtain⟨q1,q2⟩:=U8 hb hr ha hx;have:=FF hb hr hx;exact⟨q2,n+1,by rw[q1,hn];omega,by omega⟩
theorem Z8 {AA:List (List Dd)}{quick:Bool}{b b':Bd}(h:Ce b b'):bQ AA quick b=bQ AA quick b':=by
 obtain⟨h1,h2,_,_⟩:=EB h;refine JA _ (fun c _=>?_);unfold aJ He Ao;rw[h1,h2]
def DW (l:List Int)(lo hi:Int)(most:Nat):Bool:=l.all (fun x=>decide (lo<=x)&&decide (x<=hi))&&decide (l.length<=most)
def Tv (n:Int)(x:Nt):Bool:=(decide (0<=x.1)&&decide (x.1<=2))&&((decide (0<=x.2.1)&&decide (x.2.1<=9))&&(decide (0<=x.2.2)&&decide (x.2.2<=n-1)))
def MH (n:Int)(l:List Nt):Bool:=l.all (Tv n)
def Ln (AA:List (List Dd))(n:Int)(b:Bd)(i:Nat):Bool:=
 (decide (0<=b.AL.getD i 0)&&decide (b.AL.getD i 0<=((AA.getD i []).length:Int)))&&(decide ((b.AG.getD i []).length<=8)&&MH n (b.AG.getD i []))
def C1 (AA:List (List Dd))(b:Bd):Bool:=
 AQ AA&&(decide (b.AM.length=3)&&(decide (b.AO.length=3)&&(decide (b.rws.length=3)&&(decide (b.AG.length=AA.length)&&decide (b.AL.length=AA.length)))))
def EU (n:Int)(r:Nat)(b:Bd):Bool:=
 decide (b.sn.length=r)&&(decide (b.fr.length=r)&&(DW b.AM 0 9 3&&(DW b.AO 0 (n-1) 3&&(DW b.sn (-1) 9 12&&DW b.fr (-1) (n-1) 12))))
def EN (n:Int)(b:Bd):Bool:=(List.range 3).all (fun i=>DW (b.rws.getD i []) 0 (n-1) 20)
def AW (AA:List (List Dd))(b:Bd):Bool:=
 C1 AA b&&(EU ((AB AA).length:Int) (AX Ah (AB AA)).length b&&(EN ((AB AA).length:Int) b&&(List.range AA.length).all (fun i=>Ln AA ((AB AA).length:Int) b i)))
theorem YI {l:List Int}{lo hi:Int}{most k:Nat}(hk:k<l.length)(h:(decide (lo<=l.getD k 0)&&decide (l.getD k 0<=hi))=false):DW l lo hi most=false:=by
 have:l.all (fun x=>decide (lo<=x)&&decide (x<=hi))=false:=by
  rw[List.all_eq_false];refine⟨l.getD k 0,?_,by rw[h];simp⟩;rw[List.getD_eq_getElem?_getD,List.getElem?_eq_getElem hk];exact List.getElem_mem hk
 unfold DW;rw[this];rfl
theorem Vp {l:List Int}{lo hi:Int}{most:Nat}(h:∀k,k<l.length->(decide (lo<=l.getD k 0)&&decide (l.getD k 0<=hi))=true):DW l lo hi most=decide (l.length<=most):=by
 have:l.all (fun x=>decide (lo<=x)&&decide (x<=hi))=true:=by
  rw[List.all_eq_true];intro x hx;obtain⟨i,hi,e⟩:=List.getElem_of_mem hx;have:=h i hi;rw[List.getD_eq_getElem?_getD,List.getElem?_eq_getElem hi] at this;simp only[Option.getD_some] at this;rw[e] at this;exact this
 unfold DW;rw[this];rfl
theorem Cv {n k:Nat}{f:Nat->Bool}(hk:k<n)(h:f k=false):(List.range n).all f=false:=by
 rw[List.all_eq_false];exact⟨k,List.mem_range.2 hk,by rw[h];simp⟩
theorem C5 {n:Nat}{f:Nat->Bool}(h:∀k,k<n->f k=true):(List.range n).all f=true:=by
 rw[List.all_eq_true];exact fun k hk=>h k (List.mem_range.1 hk)
theorem Tw {n:Int}{l:List Nt}{k:Nat}(hk:k<l.length)(h:Tv n (l.getD k (0,0,0))=false):MH n l=false:=by
 unfold MH;rw[List.all_eq_false];refine⟨l.getD k (0,0,0),?_,by rw[h];simp⟩;rw[List.getD_eq_getElem?_getD,List.getElem?_eq_getElem hk];exact List.getElem_mem hk
theorem We {n:Int}{l:List Nt}(h:∀k,k<l.length->Tv n (l.getD k (0,0,0))=true):MH n l=true:=by
 unfold MH;rw[List.all_eq_true];intro x hx;obtain⟨i,hi,e⟩:=List.getElem_of_mem hx;have:=h i hi;rw[List.getD_eq_getElem?_getD,List.getElem?_eq_getElem hi] at this;simp only[Option.getD_some] at this;rw[e] at this;exact this
theorem Vv {AA:List (List Dd)}{b:Bd}(h:AW AA b=true):b.AM.length=3/\b.AO.length=3/\b.AG.length=AA.length:=by
 unfold AW C1 at h;simp only[Bool.and_eq_true,decide_eq_true_eq] at h;exact⟨h.1.2.1,h.1.2.2.1,h.1.2.2.2.2.1⟩
theorem TN {AA:List (List Dd)}{b:Bd}(h:AW AA b=true):b.AG.length=AA.length/\b.AL.length=AA.length:=by
 unfold AW C1 at h;simp only[Bool.and_eq_true,decide_eq_true_eq] at h;exact⟨h.1.2.2.2.2.1,h.1.2.2.2.2.2⟩
theorem J7 {AA:List (List Dd)}(hb:AQ AA=true){j:Nat}(hj:j<(AB AA).length):(0<=JG AA j/\JG AA j<=9)/\0<=bO AA j/\bO AA j<=2:=by
 by_cases h3:j<3
 ·
  have e:=(Mr (AA:=AA) (by simp only[AQ,Bool.and_eq_true,decide_eq_true_eq] at hb;intro i hi;have:=List.all_eq_true.1 hb.1.1.1.2 _ (List.getElem_mem hi);rw[List.getD_eq_getElem?_getD,List.getElem?_eq_getElem hi];exact this) AA.length (Nat.le_refl _)).1;obtain⟨t,ht⟩:=e;have e1:AB AA=CZ++t:=by rw[AB,if_pos hb,ht]
  unfold JG bO;rw[e1,List.getD_eq_getElem?_getD,List.getElem?_append_left (by simp[CZ];omega)];have:j=0\/j=1\/j=2:=by omega
  rcases this with rfl|rfl|rfl<;>simp[CZ]
 ·
  obtain⟨c,k,i,E⟩:=Gn hb (by omega) hj;have hd:=CG hb E.hc k E.hk;unfold JG bO;rw[E.at hb];simp only;unfold XI;have hd':=hd;unfold Al at hd' ⊢;simp only[Fm,D8,decide_eq_true_eq] at hd';split<;>omega
theorem Px (AA:List (List Dd)):(AB AA).length<=9:=by
 unfold AB;split
 ·
  rename_i h;simp only[AQ,Bool.and_eq_true,decide_eq_true_eq] at h;obtain⟨⟨⟨⟨_,h2⟩,_⟩,h4⟩,_⟩:=h;have:=Hz (fun i hi=>Bo [] h2 i hi) AA.length (Nat.le_refl _);omega
 . simp
theorem Im {lo n:Nat}:∀ {l:List Nat},l.Nodup->(∀x∈l,lo<=x/\x<n)->l.length<=n-lo:=fun {l} hn h=>by
 have hs:∀x∈l,x∈List.range' lo (n-lo):=fun x hx=>by
  have:=h x hx;rw[List.mem_range'_1];omega
 have:l.length<=(List.range' lo (n-lo)).length:=by
  clear h;generalize List.range' lo (n-lo)=r at hs
  induction l generalizing r with
  |nil=>simp
  |cons x t ih=>
   rw[List.nodup_cons] at hn;have hx:=hs x (by simp);have:=ih hn.2 (r.erase x) (fun y hy=>(List.mem_erase_of_ne (fun e=>hn.1 (by rw[<-e];exact hy))).2 (hs y (by simp[hy])));rw[List.length_erase_of_mem hx] at this;have:0<r.length:=List.length_pos_of_mem hx;simp only[List.length_cons];omega
 simpa using this
theorem Hp {α:Type}(l:List α)(f:α->Int){lo hi:Int}{most:Nat}(h:∀x∈l,lo<=f x/\f x<=hi)(hm:l.length<=most):DW (l.map f) lo hi most=true:=by
 unfold DW;rw[Bool.and_eq_true,List.all_eq_true,decide_eq_true_eq,List.length_map];refine⟨fun y hy=>?_,hm⟩;obtain⟨x,hx,rfl⟩:=List.mem_map.1 hy;have:=h x hx;simp[this]
theorem IK {AA:List (List Dd)}(hb:AQ AA=true){b:Bd}{a:Ab}{τ:Nat->Nat}{T:Nat}{z:Int}(M:MI AA b a τ T z):AW AA b=true:=by
 have h9:=Px AA;have R:=M.Bz;have I:=M.inv
 have hlen3:3<=(AB AA).length:=by
  have:=I.lt 2 (I.FC 2 (by omega)).1;exact this
 have Zy:∀p x,x∈a.R p->x<(AB AA).length:=fun p x hx=>I.lt x ((I.rows p x).1 hx).1.1
 have Zb:∀c x,x∈a.N c->3<=x/\x<(AB AA).length:=fun c x hx=>by
  have hx':x∈(C3 AA a τ).N (c:Int):=by rw[Hh];exact hx
  have:=I.note (c:Int) x hx';exact⟨this.2.1,I.lt x this.1⟩
 have hlast:∀p,p<3->BW a p<(AB AA).length:=fun p hp=>by
  unfold BW
  cases hl:(a.R p).getLast? with
  |none=>show p<_;omega
  |some x=>exact Zy p x (List.mem_of_getLast? hl)
 have hF:∀r,r<(AB AA).length->((AB AA).getD r zE).2.2.1=true->ET AA a r=true->a.F r<(AB AA).length:=fun r h1 h2 h3=>I.lt _ (I.src r ⟨h1,h3⟩ h2).1
 have hx12:(AB AA).length<=12:=by omega
 have rl:(AX Ah (AB AA)).length<=12:=by
  unfold AX;rw[if_pos hx12];have:=DP Ah (AB AA) (AB AA).length;omega
 have tH:∀r∈AX Ah (AB AA),(0<=r/\r<((AB AA).length:Int))/\((AB AA).getD r.toNat zE).2.2.1=true:=fun r hr=>by
  unfold AX at hr;rw[if_pos hx12] at hr;exact⟨Ig _ _ _ _ hr,KI _ _ _ _ hr⟩
 unfold AW;rw[Bool.and_eq_true,Bool.and_eq_true,Bool.and_eq_true];refine⟨?_,?_,?_,?_⟩
 ·
  unfold C1;rw[hb,R.AM,R.AO,R.rws,R.AG,R.AL];simp
 ·
  unfold EU;rw[R.sn,R.fr,R.AM,R.AO,List.length_map,List.length_map];simp only[decide_true,Bool.true_and,Bool.and_eq_true];refine⟨Hp _ _ (fun p hp=>(J7 hb (hlast p (List.mem_range.1 hp))).1) (by simp),Hp _ _ (fun p hp=>by have:=hlast p (List.mem_range.1 hp);omega) (by simp),Hp _ _ (fun r hr=>?_) rl,Hp _ _ (fun r hr=>?_) rl⟩
  ·
   obtain⟨h1,h2⟩:=tH r hr;by_cases hE:ET AA a r.toNat=true
   ·
    rw[if_pos hE];have:=(J7 hb (hF r.toNat (by omega) h2 hE)).1;omega
   . rw[if_neg hE];omega
  ·
   obtain⟨h1,h2⟩:=tH r hr;by_cases hE:ET AA a r.toNat=true
   ·
    rw[if_pos hE];have:=hF r.toNat (by omega) h2 hE;omega
   . rw[if_neg hE];omega
 ·
  unfold EN;rw[List.all_eq_true];intro p hp;rw[R.rws,Cr _ _ (List.mem_range.1 hp)];refine Hp _ _ (fun x hx=>by have:=Zy p x hx;exact⟨Int.natCast_nonneg _,by show (x:Int)<=_;omega⟩) ?_;have:=Im (lo:=0) (I.OQ p) (fun x hx=>⟨Nat.zero_le _,Zy p x hx⟩);have e:(C3 AA a τ).R p=a.R p:=rfl;rw[e] at this;omega
 ·
  rw[List.all_eq_true];intro c hc;have hc:=List.mem_range.1 hc;unfold Ln;rw[(D9 R hc).1,R.AG,Cr _ _ hc,List.length_map];have h1:=M.VB c hc
  have hnd:(a.N c).Nodup:=by
   have:=I.LQ (c:Int);rw[Hh] at this;exact this.imp (fun h=>Nat.ne_of_lt h)
  have h2:=Im hnd (Zb c);simp only[Bool.and_eq_true,decide_eq_true_eq];refine⟨⟨by omega,by omega⟩,by omega,?_⟩;unfold MH;rw[List.all_eq_true];intro y hy;obtain⟨x,hx,rfl⟩:=List.mem_map.1 hy;have hn:=Zb c x hx;have:=J7 hb hn.2;unfold Tv Wa;simp only[Bool.and_eq_true,decide_eq_true_eq];omega
def Xl (es:List Ev)(c k i:Nat):Bool:=((es.getD i zE).1==(c:Int))&&((es.getD i zE).2.1==(k:Int))
theorem fu {es:List Ev}{c k i:Nat}(h3:3<=i)(hi:i<es.length)(hn:∀j,3<=j->j<i->Xl es c k j=false)(h:Xl es c k i=true):Kq es c k=(i:Int):=by
 unfold Kq
 have e:(List.range es.length).find? (fun i=>decide (3<=i)&&((es.getD i zE).1==(c:Int))&&((es.getD i zE).2.1==(k:Int)))=some i:=by
  rw[List.find?_eq_some_iff_getElem];refine⟨?_,i,by simpa using hi,by simp,fun j hj=>?_⟩
  ·
   unfold Xl at h;rw[Bool.and_assoc,h];simp[h3]
  ·
   simp only[List.getElem_range];by_cases h3:3<=j
   ·
    have:=hn j h3 hj;unfold Xl at this;rw[Bool.and_assoc,this];simp
   . simp[h3]
 rw[e]
theorem Yq {es:List Ev}{c k:Nat}(hn:∀j,3<=j->j<es.length->Xl es c k j=false):Kq es c k=-1:=by
 unfold Kq
 have e:(List.range es.length).find? (fun i=>decide (3<=i)&&((es.getD i zE).1==(c:Int))&&((es.getD i zE).2.1==(k:Int)))=none:=by
  rw[List.find?_eq_none];intro j hj;by_cases h3:3<=j
  ·
   have:=hn j h3 (List.mem_range.1 hj);unfold Xl at this;rw[Bool.and_assoc,this];simp
  . simp[h3]
 rw[e]
theorem lK (es:List Ev)(c k:Nat)(h:es.length<=12):-1<=Kq es c k/\Kq es c k<=12:=by
 unfold Kq;split
 ·
  rename_i i e;have:=List.mem_range.1 (List.mem_of_find?_eq_some e);omega
 . omega
def Dc (rs:List Int)(ev v:Int)(l:List Int):Nat->List Int
 | 0=>l
 |k+1=>if decide (rs.getD k 0=ev)=true then (Dc rs ev v l k).set k v else Dc rs ev v l k
theorem IW (rs:List Int)(ev v:Int)(l:List Int):∀k:Nat,(Dc rs ev v l k).length=l.length
 | 0=>rfl
 |k+1=>by rw[Dc];split<;>simp[IW rs ev v l k]
theorem Sh {rs:List Int}{ev v:Int}{l:List Int}:∀(k j:Nat),j<l.length->(Dc rs ev v l k)[j]? = if j<k/\rs.getD j 0=ev then some v else l[j]?
 | 0,j,h=>by simp[Dc]
 |k+1,j,h=>by
  have ih:=Sh (rs:=rs) (ev:=ev) (v:=v) k j h;rw[Dc];by_cases e:rs.getD k 0=ev
  ·
   rw[if_pos (decide_eq_true e),List.getElem?_set,IW];by_cases ej:k=j
   ·
    subst ej;rw[if_pos rfl,if_pos h,if_pos ⟨by omega,e⟩]
   ·
    rw[if_neg ej,ih];by_cases h1:j<k/\rs.getD j 0=ev
    . rw[if_pos h1,if_pos ⟨by omega,h1.2⟩]
    . rw[if_neg h1,if_neg (fun h2=>h1 ⟨by omega,h2.2⟩)]
  ·
   rw[if_neg (by simpa using e),ih];by_cases h1:j<k/\rs.getD j 0=ev
   . rw[if_pos h1,if_pos ⟨by omega,h1.2⟩]
   ·
    rw[if_neg h1,if_neg (fun h2=>?_)];by_cases ej:j=k
    . subst ej;exact e h2.2
    . exact h1 ⟨by omega,h2.2⟩
theorem PV {rs:List Int}{ev v:Int}{l:List Int}(h:l.length=rs.length):Dc rs ev v l rs.length=G3 rs ev v l:=by
 apply List.ext_getElem?;intro j;unfold G3;by_cases hj:j<l.length
 ·
  rw[Sh _ _ hj,List.getElem?_zipWith];rw[List.getElem?_eq_getElem hj,List.getElem?_eq_getElem (show j<rs.length by omega)];have e:rs.getD j 0=rs[j]'(by omega):=by rw[List.getD_eq_getElem?_getD,List.getElem?_eq_getElem (show j<rs.length by omega)];rfl
  simp only[e];by_cases h1:rs[j]'(by omega)=ev
  . rw[if_pos ⟨by omega,h1⟩];simp[h1]
  . rw[if_neg (fun h2=>h1 h2.2)];simp[h1]
 . rw[List.getElem?_eq_none (by rw[IW];omega),List.getElem?_eq_none (by rw[List.length_zipWith];omega)]
def Gj (AA:List (List Dd))(b:Bd)(k:Nat):List Int:=((List.range k).filter (Bh AA b)).map (fun c:Nat=>(c:Int))
theorem Yb {AA:List (List Dd)}{b:Bd}{k:Nat}(h:Bh AA b k=true):Gj AA b (k+1)=Gj AA b k++[(k:Int)]:=by
 unfold Gj;rw[List.range_succ,List.filter_append,List.map_append];simp[h]
theorem Vz {AA:List (List Dd)}{b:Bd}{k:Nat}(h:Bh AA b k=false):Gj AA b (k+1)=Gj AA b k:=by
 unfold Gj;rw[List.range_succ,List.filter_append,List.map_append];simp[h]
def Nu (b:Bd)(k:Nat):List Int:=((List.range k).filter (fun c=>!(b.AG.getD c []).isEmpty)).map (fun c:Nat=>10+(c:Int))
theorem iE {b:Bd}{k:Nat}(h:0<(b.AG.getD k []).length):Nu b (k+1)=Nu b k++[10+(k:Int)]:=by
 have:(b.AG.getD k []).isEmpty=false:=by
  cases e:b.AG.getD k [] with
  |nil=>rw[e] at h;simp at h
  |cons x l=>rfl
 unfold Nu;rw[List.range_succ,List.filter_append,List.map_append];simp only[List.filter_cons,this,Bool.not_false,if_true,List.filter_nil,List.map_cons,List.map_nil]
theorem Zc {b:Bd}{k:Nat}(h:¬ 0<(b.AG.getD k []).length):Nu b (k+1)=Nu b k:=by
 have:(b.AG.getD k []).isEmpty=true:=by
  cases e:b.AG.getD k [] with
  |nil=>rfl
  |cons x l=>rw[e] at h;simp at h
 unfold Nu;rw[List.range_succ,List.filter_append,List.map_append];simp only[List.filter_cons,this,Bool.not_true,Bool.false_eq_true,if_false,List.filter_nil,List.map_nil,List.append_nil]
theorem LS (AA:List (List Dd))(b:Bd):Gj AA b AA.length++Nu b AA.length=Ad AA b:=rfl
theorem Jz (AA:List (List Dd))(b:Bd)(k:Nat):(Gj AA b k).length<=k:=by
 unfold Gj;rw[List.length_map];exact Nat.le_trans (List.length_filter_le _ _) (by simp)
theorem QZ (b:Bd)(k:Nat):(Nu b k).length<=k:=by
 unfold Nu;rw[List.length_map];exact Nat.le_trans (List.length_filter_le _ _) (by simp)
end Go.Proofs.YtnmelakgmgenjaaGreat
