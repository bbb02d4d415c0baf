/- Gathered texts. -/
import Derived.Test.YtflehmepjhikcaaGreatDoorMB
set_option maxRecDepth 100000
set_option maxHeartbeats 8000000
namespace Go.Proofs.YtflehmepjhikcaaGreatDoor
open Go.ChangeShapes Go.WideShapes Go.ChangeAt Go.RowKit
open Go.RowKit
abbrev KAB:=@List.getElem_cons_succ
abbrev KAK:=@Int.natCast_nonneg
abbrev KAi:=@decide_eq_false
abbrev KAl:=@decide_eq_true
abbrev KAm:=@Array.getElem?_eq_some_iff
abbrev KAt:=@heap_setCell_same
abbrev KA1:=@frozen_of_row
abbrev KA5:=@List.length_singleton
abbrev KBK:=@List.take_length
abbrev KBM:=@heap_setCell_other
abbrev KBQ:=@List.take_add_one
abbrev KBR:=@Option.getD_some
abbrev KBj:=@List.length_filter_le
abbrev KBx:=@List.range_succ
abbrev KB0:=@List.append_inj
abbrev KB3:=@List.mem_append_left
abbrev KCL:=@Array.toList_setIfInBounds
abbrev KCW:=@List.map_map
abbrev KCX:=@Nat.pow_le_pow_right
abbrev KCY:=@List.map_nil
abbrev KCi:=@Nat.le_succ
abbrev KCj:=@Nat.mul_one
abbrev KCm:=@List.take_append_drop
abbrev KCq:=@List.dropLast_concat
abbrev KCv:=@List.pairwise_iff_getElem
abbrev KDA:=@List.mem_append_right
abbrev KDE:=@List.filter_cons
def Ht (f:Nat->Nat):Nat->Nat
 | 0=>0
 |m+1=>Ht f m+f m
theorem TY {f g:Nat->Nat}:∀m:Nat,(∀c,c<m->f c=g c)->Ht f m=Ht g m
 | 0,_=>rfl
 |m+1,h=>by rw[Ht,Ht,TY m (fun c hc=>h c (by omega)),h m (by omega)]
theorem OI {f g:Nat->Nat}{c:Nat}(h1:f c+1<=g c)(h2:∀c',c'≠c->f c'=g c'):∀m:Nat,c<m->Ht f m+1<=Ht g m
 | 0,h=>by omega
 |m+1,h=>by
  rw[Ht,Ht];by_cases e:c=m
  ·
   subst e;rw[TY c (fun c' hc=>h2 c' (by omega))];omega
  ·
   have:=OI h1 h2 m (by omega);rw[h2 m (fun h=>e h.symm)];omega
def Pm (AA:List (List Dd))(b:Bd)(c:Nat):Nat:=2*((AA.getD c []).length-Am b c)+(b.AJ.getD c []).length
def ER (AA:List (List Dd))(b:Bd):Nat:=Ht (Pm AA b) AA.length
def LN (AA:List (List Dd))(b:Bd):Prop:=b.AK.length=AA.length/\b.AJ.length=AA.length
theorem DC {α:Type}(l:List α)(z x:α)(i j:Nat)(hi:i<l.length):(l.set i x).getD j z=if i=j then x else l.getD j z:=by
 rw[IT,KBt];by_cases e:i=j
 . subst e;rw[KAP rfl,KAP hi,KAP rfl];rfl
 . rw[KAQ e,KAQ e,IT]
theorem ZV (AA:List (List Dd))(es:List Ev)(b:Bd)(c k:Nat):(BL AA es b c k).AK=b.AK/\((BL AA es b c k).AJ=b.AJ\/∃x,(BL AA es b c k).AJ=b.AJ.set c (b.AJ.getD c []++[x])):=by
 unfold BL;split
 . exact⟨rfl,.inl rfl⟩
 ·
  split
  . exact⟨rfl,.inl rfl⟩
  ·
   split
   . exact⟨rfl,.inl rfl⟩
   ·
    split
    . exact⟨rfl,.inr ⟨_,rfl⟩⟩
    . exact⟨rfl,.inl rfl⟩
theorem Uf {AA:List (List Dd)}{es:List Ev}{b:Bd}(hL:LN AA b)(h0:∀c,0<=b.AK.getD c 0){c:Nat}(hc:c<AA.length):(∀c',Am (Ah AA es b c) c'=if c=c' then Am b c+1 else Am b c')/\∀c',0<=(Ah AA es b c).AK.getD c' 0:=by
 have e:∀c',(Ah AA es b c).AK.getD c' 0=if c=c' then b.AK.getD c 0+1 else b.AK.getD c' 0:=fun c'=>by
  show (b.AK.set c (b.AK.getD c 0+1)).getD c' 0=_;rw[DC _ _ _ _ _ (by rw[hL.1];exact hc)]
 constructor
 ·
  intro c';unfold Am;rw[e];split
  . have:=h0 c;omega
  . rfl
 ·
  intro c';rw[e];split
  . have:=h0 c;omega
  . exact h0 c'
theorem Vh {AA:List (List Dd)}{es:List Ev}{b:Bd}(hL:LN AA b)(h0:∀c,0<=b.AK.getD c 0){c:Nat}(hc:c<AA.length)(hk:Am b c<(AA.getD c []).length):ER AA (Ah AA es b c)+1<=ER AA b/\LN AA (Ah AA es b c)/\∀c',0<=(Ah AA es b c).AK.getD c' 0:=by
 obtain⟨hn,h0'⟩:=Uf (es:=es) hL h0 hc;obtain⟨_,hd⟩:=ZV AA es b c (Am b c)
 have Z0:(∀c',c'≠c->(Ah AA es b c).AJ.getD c' []=b.AJ.getD c' [])/\((Ah AA es b c).AJ.getD c []).length<=(b.AJ.getD c []).length+1/\(Ah AA es b c).AJ.length=b.AJ.length:=by
  have e:(Ah AA es b c).AJ=(BL AA es b c (Am b c)).AJ:=rfl;rw[e];rcases hd with hd|⟨x,hd⟩
  . rw[hd];exact⟨fun _ _=>rfl,by omega,rfl⟩
  ·
   rw[hd];refine⟨fun c' h=>?_,?_,by rw[KA4]⟩
   . rw[DC _ _ _ _ _ (by rw[hL.2];exact hc),KAQ (fun h2=>h h2.symm)]
   . rw[DC _ _ _ _ _ (by rw[hL.2];exact hc),KAP rfl,KAJ];simp
 refine⟨OI (c:=c) ?_ (fun c' h=>?_) _ hc,⟨?_,?_⟩,h0'⟩
 ·
  unfold Pm;rw[hn,KAP rfl];have:=Z0.2.1;omega
 ·
  unfold Pm;rw[hn,KAQ (fun h2=>h h2.symm),Z0.1 c' h]
 ·
  show (b.AK.set c _).length=_;rw[KA4];exact hL.1
 . rw[Z0.2.2];exact hL.2
theorem ah {AA:List (List Dd)}{es:List Ev}(g:Int){c:Nat}(hc:c<AA.length):∀(m:Nat) (b:Bd),LN AA b->(∀c,0<=b.AK.getD c 0)->1<=m->Am b c<(AA.getD c []).length->(AA.getD c []).length<=Am b c+m ->
  ER AA (FF AA es g c m b)+1<=ER AA b/\LN AA (FF AA es g c m b)/\∀c',0<=(FF AA es g c m b).AK.getD c' 0
 | 0,_,_,_,h,_,_=>by omega
 |m+1,b,hL,h0,_,hk,hm=>by
  have h1:=Vh (es:=es) hL h0 hc hk;have hn:=(Uf (es:=es) hL h0 hc).1 c;rw[KAP rfl] at hn;rw[FF];split
  . exact h1
  ·
   rename_i hs;have hs1:¬Am (Ah AA es b c) c=(AA.getD c []).length:=fun h=>hs (.inr (.inl h))
   have h2:=ah (es:=es) g hc m (Ah AA es b c) h1.2.1 h1.2.2 (by omega) (by omega) (by omega);exact⟨by omega,h2.2⟩
theorem Xn {AA:List (List Dd)}{b:Bd}(hL:LN AA b)(h0:∀c,0<=b.AK.getD c 0){c:Nat}(hc:c<AA.length)(hne:b.AJ.getD c []≠[]):ER AA (BS b c)+1<=ER AA b/\LN AA (BS b c)/\∀c',0<=(BS b c).AK.getD c' 0:=by
 unfold BS
 cases hq:b.AJ.getD c [] with
 |nil=>exact absurd hq hne
 |cons x r=>
  have e:∀c',(b.AJ.set c r).getD c' []=if c=c' then r else b.AJ.getD c' []:=fun c'=>DC _ _ _ _ _ (by rw[hL.2];exact hc)
  refine⟨OI (c:=c) ?_ (fun c' h=>?_) _ hc,⟨hL.1,?_⟩,h0⟩
  ·
   show 2*((AA.getD c []).length-Am b c)+((b.AJ.set c r).getD c []).length+1<=2*((AA.getD c []).length-Am b c)+(b.AJ.getD c []).length;rw[e,KAP rfl,hq];simp only[KBJ];omega
  ·
   show 2*((AA.getD c' []).length-Am b c')+((b.AJ.set c r).getD c' []).length=2*((AA.getD c' []).length-Am b c')+(b.AJ.getD c' []).length;rw[e,KAQ (fun h2=>h h2.symm)]
  ·
   show (b.AJ.set c r).length=_;rw[KA4];exact hL.2
theorem Ku {AA:List (List Dd)}(hb:AL AA=true){es:List Ev}{b:Bd}(hL:LN AA b)(h0:∀c,0<=b.AK.getD c 0){s:Int}(hs:Op (Aq AA b) s=true):ER AA (Ar AA es b s)+1<=ER AA b/\LN AA (Ar AA es b s)/\∀c',0<=(Ar AA es b s).AK.getD c' 0:=by
 have hl3:AA.length<=3:=by
  simp only[AL,KAO,KAN] at hb;exact hb.1.1.1.1.2
 have hm:=Mj hs;unfold Aq at hm;rw[KA0,KAv,KAv] at hm;rcases hm with ⟨c,hc,e⟩|⟨c,hc,e⟩
 ·
  rw[KBF,KAd] at hc;obtain⟨hc,hcan⟩:=hc;unfold Ce at hcan;simp only[KAO,KAN] at hcan;unfold Ar;rw[KAQ (by omega),show s.toNat=c by omega];exact ah _ hc _ b hL h0 (by omega) hcan.1 (by omega)
 ·
  rw[KBF,KAd] at hc;obtain⟨hc,hne⟩:=hc;unfold Ar;rw[KAP (by omega),show (s-10).toNat=c by omega];refine Xn hL h0 hc (fun h=>?_);rw[h] at hne;simp at hne
theorem kU (AA:List (List Dd)):Ht (fun c=>(AA.getD c []).length) AA.length=CQ AA:=by
 have h:∀(l:List (List Dd)) (m:Nat),m<=l.length->Ht (fun c=>(l.getD c []).length) m=CQ (l.take m):=by
  intro l m
  induction m with
  |zero=>intro _;simp[Ht,CQ]
  |succ m ih=>
   intro hm;rw[Ht,ih (by omega),KBQ,KAH (by omega),IT,KAH (by omega)];simp only[Option.toList_some,KBR]
   have:∀(x:List (List Dd)) (d:List Dd),CQ (x++[d])=CQ x+d.length:=by
    intro x d
    induction x with
    |nil=>simp[CQ]
    |cons y x ih=>rw[KBr,CQ,ih,CQ];omega
   rw[this]
 have:=h AA AA.length (KAM _);rw[KBK] at this;exact this
theorem Vg {AA:List (List Dd)}(hb:AL AA=true):ER AA (C5 AA)<=24/\LN AA (C5 AA)/\∀c',0<=(C5 AA).AK.getD c' 0:=by
 have h12:CQ AA<=12:=by
  simp only[AL,KAO,KAN] at hb;exact hb.1.1.2
 have h0:∀c',(C5 AA).AK.getD c' 0=0:=fun c'=>by
  show (List.replicate AA.length (0:Int)).getD c' 0=0;rw[IT,KBG];split<;>rfl
 refine⟨?_,⟨by show (List.replicate _ _).length=_;simp,by show (List.replicate _ _).length=_;simp⟩,fun c'=>by rw[h0];omega⟩
 have e:∀m:Nat,Ht (Pm AA (C5 AA)) m=2*Ht (fun c=>(AA.getD c []).length) m:=by
  intro m
  induction m with
  |zero=>rfl
  |succ m ih=>
   rw[Ht,Ht,ih]
   have:Pm AA (C5 AA) m=2*(AA.getD m []).length:=by
    unfold Pm Am;rw[h0]
    have:(C5 AA).AJ.getD m []=[]:=by
     show (List.replicate AA.length ([]:List Nt)).getD m []=[];rw[IT,KBG];split<;>rfl
    rw[this];simp
   rw[this];omega
 unfold ER;rw[e,kU];omega
theorem TB {AA:List (List Dd)}{b:Bd}{c:Nat}(hc:c<AA.length)(h:Ce AA b c=true):Op (Aq AA b) (c:Int)=true:=by
 refine Kt ?_;unfold Aq;exact KB3 _ (KAv.2 ⟨c,KBF.2 ⟨KAd.2 hc,h⟩,rfl⟩)
theorem Uh {AA:List (List Dd)}{b:Bd}{c:Nat}(hc:c<AA.length)(h:b.AJ.getD c []≠[]):Op (Aq AA b) (10+(c:Int))=true:=by
 refine Kt ?_;unfold Aq;refine KDA _ (KAv.2 ⟨c,KBF.2 ⟨KAd.2 hc,?_⟩,rfl⟩)
 cases hq:b.AJ.getD c [] with
 |nil=>exact absurd hq h
 |cons _ _=>rfl
theorem iP {AA:List (List Dd)}{b:Bd}{a:Ab}(R:Yw AA b a){c:Nat}(hc:c<AA.length):Ce AA b c=(decide (a.nx c<(AA.getD c []).length)&&((decide ((Aj AA c (a.nx c)).1<=2)&&decide (BP AA c (a.nx c)=0))||(a.N c).isEmpty)):=by
 unfold Ce;rw[(Ed R hc).2,Fo R hc]
 congr 2
 cases a.N c<;>rfl
theorem Da {AA:List (List Dd)}(hb:AL AA=true):AA.length<=3:=by
 simp only[AL,KAO,KAN] at hb;exact hb.1.1.1.1.2
theorem QE {AA:List (List Dd)}(hb:AL AA=true){b:Bd}{c:Nat}(hc:c<AA.length)(hk:Am b c<(AA.getD c []).length)(hg:BP AA c (Am b c)=0):Ar AA (AB AA) b (c:Int)=Ah AA (AB AA) b c:=by
 have:=Da hb;unfold Ar;rw[KAQ (by omega),KAV,hg]
 cases hq:(AA.getD c []).length with
 |zero=>omega
 |succ m=>rw[FF,KAP (.inl rfl)]
def CZ (AA:List (List Dd))(es:List Ev)(b:Bd)(c:Nat):Bd:=
 if ((Ar AA es b (c:Int)).AJ.getD c []).isEmpty=true then Ar AA es b (c:Int) else Ar AA es (Ar AA es b (c:Int)) (10+(c:Int))
def gy (AA:List (List Dd))(a:Ab)(τ:Nat->Nat):Prop:=∀i j,(DI AA a τ).D (Bj AA) i->(DI AA a τ).D (Bj AA) j->3<=i->i<j->(Bj AA).ck i=(Bj AA).ck j->(Bj AA).cs i≠(Bj AA).cs j->τ i<τ j
structure QI (AA:List (List Dd))(b:Bd)(a:Ab)(τ:Nat->Nat)(T:Nat)(z:Int):Prop where
 mi:MI AA b a τ T z
 bd:BD AA a
 no:∀c,a.N c=[]
 mono:gy AA a τ
theorem Sr {AA:List (List Dd)}{a a':Ab}{τ τ':Nat->Nat}{T:Nat}{z0 z:Int}(I:GG (Bj AA) (DI AA a τ) T z0)(hm:gy AA a τ)(hD:∀j,3<=j->(DI AA a' τ').D (Bj AA) j->(DI AA a τ).D (Bj AA) j\/((Bj AA).cs j=z/\¬(DI AA a τ).X j/\T<τ' j))
  (hτ:∀i,(DI AA a τ).D (Bj AA) i->τ' i=τ i):gy AA a' τ':=by
 intro i j hi hj h3 hij hck hcs;rcases hD i h3 hi with oi|⟨ci,ni,ti⟩
 ·
  rcases hD j (by omega) hj with oj|⟨cj,nj,tj⟩
  ·
   rw[hτ i oi,hτ j oj];exact hm i j oi oj h3 hij hck hcs
  ·
   have:=I.PE i oi;rw[hτ i oi];change τ i<=T at this;omega
 ·
  rcases hD j (by omega) hj with oj|⟨cj,nj,tj⟩
  . exact absurd (I.down i j oj.1 h3 hij hck) ni
  . exact absurd (ci.trans cj.symm) hcs
theorem Xy {AA:List (List Dd)}(hb:AL AA=true){b:Bd}{a:Ab}{τ:Nat->Nat}{T:Nat}{z:Int}(M:MI AA b a τ T z)(hT:1<=T){c:Nat}(hc:c<AA.length)(hk:a.nx c<(AA.getD c []).length)
  (hz:DE AA c (a.nx c)=z) (h4:(Aj AA c (a.nx c)).1≠4) (h2:(Aj AA c (a.nx c)).1=2->BP AA c (a.nx c)≠0) (hN:a.N c=[]):
  ∃a' τ',MI AA (Ah AA (AB AA) b c) a' τ' T z/\a'.nx=(BN a c).nx/\a'.N=a.N/\(∀i,(DI AA a τ).X i->τ' i=τ i)/\∀j,(DI AA a' τ').X j->(DI AA a τ).X j\/(Bj AA).cs j=z:=by
 have E:=Cr hc hk h4;have hnew:=(FW hb a τ hc hk h4).new;have s4:=(Dj hb E).2.2.2;rcases Cf (CV hb hc _ hk) with h|h|h|h
 ·
  obtain⟨f,_,M'⟩:=MJ hb M hT hc hk h hz (.inr hN);refine⟨_,_,M',rfl,rfl,fun i hi=>?_,fun j hj=>?_⟩
  ·
   show (if i=AZ AA c (a.nx c) then T else τ i)=τ i;rw[KAQ (fun e=>hnew (by rw[<-e];exact hi))]
  ·
   rcases (oG hb a τ _ hc hk h f j).1 hj with hj|hj
   . exact .inl hj
   . exact .inr (by rw[hj,s4,hz])
 ·
  have M':=Nx hb M hT hc hk h (h2 h) hz hN;refine⟨_,_,M',rfl,rfl,fun i hi=>?_,fun j hj=>?_⟩
  ·
   show (if i=AZ AA c (a.nx c) then T else τ i)=τ i;rw[KAQ (fun e=>hnew (by rw[<-e];exact hi))]
  ·
   rcases (tC hb a τ _ hc hk h _ j).1 hj with hj|hj
   . exact .inl hj
   . exact .inr (by rw[hj,s4,hz])
 ·
  have M':=MK hb M hT hc hk h hz hN;have E2:=I3 hc hk h;have r4:=(Dj hb E2).2.2.2;refine⟨_,_,M',rfl,rfl,fun i hi=>?_,fun j hj=>?_⟩
  ·
   show (if i=AZ AA c (a.nx c)+1 then T else if i=AZ AA c (a.nx c) then T else τ i)=τ i;rw[KAQ (fun e=>?_),KAQ (fun e=>hnew (by rw[<-e];exact hi))];have:=hi.2;rw[e,Ke hb E2,KAN] at this;omega
  ·
   rcases (oH hb a τ _ hc hk h _ j).1 hj with (hj|hj)|hj
   . exact .inl hj
   . exact .inr (by rw[hj,s4,hz])
   . exact .inr (by rw[hj,r4,hz])
 . exact absurd h h4
theorem Sb {AA:List (List Dd)}(hb:AL AA=true){c:Nat}(hc:c<AA.length)(g:Int){T:Nat}(hT:1<=T){z:Int}:∀(m:Nat) (b:Bd) (a:Ab) (τ:Nat->Nat),MI AA b a τ T z->a.nx c<(AA.getD c []).length->(AA.getD c []).length<=a.nx c+m->BP AA c (a.nx c)=g ->
  DE AA c (a.nx c)=z->(Aj AA c (a.nx c)).1≠4->((Aj AA c (a.nx c)).1=2->BP AA c (a.nx c)≠0)->a.N c=[] ->
  ∃a' τ',MI AA (FF AA (AB AA) g c m b) a' τ' T z/\a.nx c<a'.nx c/\(∀c',c'≠c->a'.nx c'=a.nx c')/\a'.N=a.N/\(∀i,(DI AA a τ).X i->τ' i=τ i)/\(∀j,(DI AA a' τ').X j->(DI AA a τ).X j\/(Bj AA).cs j=z)/\(a'.nx c<(AA.getD c []).length->BP AA c (a'.nx c)≠0->BP AA c (a'.nx c-1)≠BP AA c (a'.nx c))
 | 0,b,a,τ,M,hk,hm,_,_,_,_,_=>by omega
 |m+1,b,a,τ,M,hk,hm,hg,hz,h4,h2,hN=>by
  obtain⟨a1,τ1,M1,e1,e2,e3,e4⟩:=Xy hb M hT hc hk hz h4 h2 hN;have hn1:a1.nx c=a.nx c+1:=by rw[e1,DG,KAP rfl]
  have ho1:∀c',c'≠c->a1.nx c'=a.nx c':=fun c' h=>by rw[e1,DG,KAQ h]
  have hX1:∀j,(DI AA a τ).X j->(DI AA a1 τ1).X j:=by
   intro j hj;refine⟨hj.1,?_⟩;have:=hj.2;unfold Et at this ⊢;rw[e1];simp only[KBw,KAN] at this ⊢;rcases this with h|h
   . exact .inl h
   ·
    refine .inr ?_;rw[DG];split
    . rename_i e;rw[e] at h;omega
    . exact h
  rw[FF,(Ed M1.B0 hc).2,hn1];by_cases hs:g=0\/a.nx c+1=(AA.getD c []).length\/BP AA c (a.nx c+1)≠g
  ·
   rw[KAP hs];refine⟨a1,τ1,M1,by omega,ho1,e2,e3,e4,?_⟩;rw[hn1];intro hl hg0;rw[show a.nx c+1-1=a.nx c by omega,hg];rcases hs with hs|hs|hs
   . rw[hs];exact fun e=>hg0 e.symm
   . omega
   . exact fun e=>hs e.symm
  ·
   rw[KAQ hs];have hs0:¬g=0:=fun h=>hs (.inl h)
   have hs1:¬a.nx c+1=(AA.getD c []).length:=fun h=>hs (.inr (.inl h))
   have hs2:BP AA c (a.nx c+1)=g:=KBA (fun h=>hs (.inr (.inr h)));have hl:=M1.Vs c hc;have hk1:a.nx c+1<(AA.getD c []).length:=by omega
   have hok:=CV hb hc;have n2:=FT hok hk1 (by rw[hs2];exact hs0);have hcl:DE AA c (a.nx c+1)=DE AA c (a.nx c):=(Iz hok hok hk1 hk n2.1 h4).2 ⟨rfl,.inr ⟨by rw[hs2];exact hs0,by rw[hs2,hg]⟩⟩;obtain⟨a',τ',M',q1,q2,q3,q4,q5,q6⟩:=Sb hb hc g hT m (Ah AA (AB AA) b c) a1 τ1 M1 (by omega) (by omega) (by rw[hn1];exact hs2) (by rw[hn1,hcl];exact hz) (by rw[hn1];exact n2.1) (by rw[hn1,hs2];exact fun _=>hs0) (by rw[e2];exact hN);refine⟨a',τ',M',by omega,fun c' h=>by rw[q2 c' h,ho1 c' h],by rw[q3,e2],fun i hi=>by rw[q4 i (hX1 i hi),e3 i hi],fun j hj=>?_,q6⟩;rcases q5 j hj with h|h
   . exact e4 j h
   . exact .inr h
theorem rO {AA:List (List Dd)}{a:Ab}(τ:Nat->Nat)(h:∀c,a.N c=[])(j:Nat):(DI AA a τ).D (Bj AA) j↔(DI AA a τ).X j:=by
 have:∀c,(DI AA a τ).N c=[]:=fun c=>by
  show (if 0<=c then a.N c.toNat else [])=[];split
  . exact h _
  . rfl
 unfold BH.D;rw[this];simp
theorem YD {AA:List (List Dd)}(hb:AL AA=true){b:Bd}{a:Ab}{τ:Nat->Nat}{T:Nat}{z:Int}(Q:QI AA b a τ T z){c:Nat}(hc:c<AA.length)(hcan:Ce AA b c=true):
  ∃a' τ' T' z',QI AA (CZ AA (AB AA) b c) a' τ' T' z':=by
 have M:=Q.mi;have hl3:=Da hb;have hn:=(Ed M.B0 hc).2
 have hk:a.nx c<(AA.getD c []).length:=by
  rw[iP M.B0 hc] at hcan;simp only[KAO,KAN] at hcan;exact hcan.1
 have hok:=CV hb hc;by_cases h4:(Aj AA c (a.nx c)).1=4
 ·
  have hg0:BP AA c (a.nx c)=0:=by
   apply KBA;intro hg;exact (FT hok hk hg).1 h4
  have hst:=QE hb hc (b:=b) (by rw[hn];exact hk) (by rw[hn];exact hg0);have M':=Pz hb M hc hk h4 (Q.no c)
  have hq:CZ AA (AB AA) b c=Ah AA (AB AA) b c:=by
   unfold CZ;rw[hst,KAP];rw[Fo M'.B0 hc];show ((a.N c).map _).isEmpty=true;rw[Q.no c];rfl
  rw[hq];refine⟨_,τ,T,z,M',fun c' hc' h0 hl hg=>?_,Q.no,?_⟩
  ·
   by_cases e:c'=c
   ·
    subst e;rw[DG,KAP rfl] at hl hg ⊢;rw[show a.nx c'+1-1=a.nx c' by omega,hg0];exact fun h=>hg h.symm
   ·
    rw[DG,KAQ e] at h0 hl hg ⊢;exact Q.bd c' hc' h0 hl hg
  ·
   unfold gy;rw[WF hb a τ hc hk h4];exact Q.mono
 ·
  have E:=Cr hc hk h4;have s:=Dj hb E;by_cases hpl:(Aj AA c (a.nx c)).1=2/\BP AA c (a.nx c)=0
  ·
   have hst:=QE hb hc (b:=b) (by rw[hn];exact hk) (by rw[hn];exact hpl.2);have M':=Py hb M hc hk hpl.1 hpl.2
   have hN':(Sv AA a c).N c=AZ AA c (a.nx c)::[]:=by
    show (if c=c then a.N c++[AZ AA c (a.nx c)] else a.N c)=_;rw[KAP rfl,Q.no c];rfl
   have M2:=Ly hb M' hc hN'
   have hq:CZ AA (AB AA) b c=BS (Ah AA (AB AA) b c) c:=by
    unfold CZ;rw[hst,KAQ]
    ·
     unfold Ar;rw[KAP (by omega),show (10+(c:Int)-10).toNat=c by omega]
    ·
     rw[Fo M'.B0 hc,hN'];simp
   rw[hq]
   have hno:∀c',(Qd (Sv AA a c) c ((Bj AA).pl (AZ AA c (a.nx c))) (AZ AA c (a.nx c)) []).N c'=[]:=by
    intro c';show (if c'=c then [] else (if c'=c then a.N c'++[AZ AA c (a.nx c)] else a.N c'))=[];split
    . rfl
    . exact Q.no c'
   have hX:∀j,(DI AA (Qd (Sv AA a c) c ((Bj AA).pl (AZ AA c (a.nx c))) (AZ AA c (a.nx c)) []) (fun i=>if i=AZ AA c (a.nx c) then T+1 else τ i)).X j↔(DI AA a τ).X j\/j=AZ AA c (a.nx c):=fun j=>oC hb a τ τ hc hk hpl.1 j
   have hnew:=(FW hb a τ hc hk h4).new;refine⟨_,_,_,_,M2,fun c' hc' h0 hl hg=>?_,hno,?_⟩
   ·
    change 0<(BN a c).nx c' at h0;change (BN a c).nx c'<_ at hl;change BP AA c' ((BN a c).nx c')≠0 at hg;show BP AA c' ((BN a c).nx c'-1)≠BP AA c' ((BN a c).nx c');by_cases e:c'=c
    ·
     subst e;rw[DG,KAP rfl] at hl hg ⊢;rw[show a.nx c'+1-1=a.nx c' by omega,hpl.2];exact fun h=>hg h.symm
    ·
     rw[DG,KAQ e] at h0 hl hg ⊢;exact Q.bd c' hc' h0 hl hg
   ·
    refine Sr M.inv Q.mono (z:=DE AA c (a.nx c)) (fun j h3 hj=>?_) (fun i hi=>?_)
    ·
     rcases (hX j).1 hj.1 with h|h
     . exact .inl ((rO τ Q.no j).2 h)
     ·
      refine .inr ⟨by rw[h];exact s.2.2.2,by rw[h];exact hnew,?_⟩;show T<if j=AZ AA c (a.nx c) then T+1 else τ j
      rw[KAP h];omega
    ·
     show (if i=AZ AA c (a.nx c) then T+1 else τ i)=τ i;rw[KAQ (fun e=>hnew (by rw[<-e];exact hi.1))]
  ·
   have h2:(Aj AA c (a.nx c)).1=2->BP AA c (a.nx c)≠0:=fun h h'=>hpl ⟨h,h'⟩
   have M1:MI AA b a τ (T+1) (DE AA c (a.nx c)):=by
    refine⟨M.B0,M.inv.tick _ (fun i hi h3 e=>?_),M.Vs,M.nt⟩;obtain⟨c',k',i',E',hX,e1,e2⟩:=ZU hb hi h3;rw[e1] at e;obtain⟨rfl,hq⟩:=(Iz (CV hb E'.hc) hok E'.hk hk E'.kind h4).1 e;rcases hq with hq|⟨g1,g2⟩
    . omega
    ·
     have h0:BP AA c' (a.nx c')≠0:=by rw[<-g2];exact g1
     refine Q.bd c' hc (by omega) hk h0 ?_;exact Lz hb hc (j:=k') (k:=a.nx c'-1) (l:=a.nx c') (by omega) (by omega) hk h0 g2
   have hst:Ar AA (AB AA) b (c:Int)=FF AA (AB AA) (BP AA c (a.nx c)) c (AA.getD c []).length b:=by
    unfold Ar;rw[KAQ (by omega),KAV,hn]
   obtain⟨a',τ',M',q1,q2,q3,q4,q5,q6⟩:=Sb hb hc (BP AA c (a.nx c)) (T:=T+1) (by omega) (AA.getD c []).length b a τ M1 hk (by omega) rfl rfl h4 h2 (Q.no c);have hno:∀c',a'.N c'=[]:=fun c'=>by rw[q3];exact Q.no c'
   have hq:CZ AA (AB AA) b c=FF AA (AB AA) (BP AA c (a.nx c)) c (AA.getD c []).length b:=by
    unfold CZ;rw[hst,KAP];rw[Fo M'.B0 hc,hno c];rfl
   rw[hq];refine⟨a',τ',T+1,_,M',fun c' hc' h0 hl hg=>?_,hno,?_⟩
   ·
    by_cases e:c'=c
    . subst e;exact q6 hl hg
    ·
     rw[q2 c' e] at h0 hl hg ⊢;exact Q.bd c' hc' h0 hl hg
   ·
    refine Sr M.inv Q.mono (z:=DE AA c (a.nx c)) (fun j h3 hj=>?_) (fun i hi=>q4 i hi.1);by_cases hXj:(DI AA a τ).X j
    . exact .inl ((rO τ Q.no j).2 hXj)
    ·
     have hcs:=(q5 j hj.1).resolve_left hXj;refine .inr ⟨hcs,hXj,?_⟩;have:=(M'.inv.now j hj h3).2 hcs;change τ' j=T+1 at this;omega
def Bz:List Int->List Int->Bool
 |x::a,y::b=>if x≠y then decide (x<y) else Bz a b
 |a,b=>decide (a.length<b.length)
theorem Eh (x y:Int)(a b:List Int):Bz (x::a) (y::b)=if x≠y then decide (x<y) else Bz a b:=by rw[Bz]
theorem Kq (b:List Int):Bz [] b=decide (0<b.length):=by
 unfold Bz;rfl
theorem GF (a:List Int):Bz a []=false:=by
 cases a with
 |nil=>rfl
 |cons x a=>unfold Bz;simp
theorem E4:∀a:List Int,Bz a a=false
 | []=>rfl
 |x::a=>by rw[Eh,KAQ (by simp)];exact E4 a
theorem Fl:∀a b c:List Int,Bz a b=true->Bz b c=true->Bz a c=true
 | [],b,[],_,h2=>by rw[GF] at h2;cases h2
 | [],b,y::c,_,_=>by rw[Kq];simp
 |x::a,[],c,h1,_=>by rw[GF] at h1;cases h1
 |x::a,y::b,[],_,h2=>by rw[GF] at h2;cases h2
 |x::a,y::b,z::c,h1,h2=>by
  rw[Eh] at h1 h2 ⊢;by_cases e1:x=y
  ·
   subst e1;rw[KAQ (by simp)] at h1;by_cases e2:x=z
   ·
    subst e2;rw[KAQ (by simp)] at h2 ⊢;exact Fl a b c h1 h2
   . rw[KAP e2] at h2 ⊢;exact h2
  ·
   rw[KAP e1,KAN] at h1;by_cases e2:y=z
   ·
    subst e2;rw[KAP e1,KAN];exact h1
   ·
    rw[KAP e2,KAN] at h2;rw[KAP (by omega),KAN];omega
theorem Hc:∀a b:List Int,a=b\/Bz a b=true\/Bz b a=true
 | [],[] => .inl rfl
 | [],y::b => .inr (.inl (by rw[Kq];simp))
 |x::a,[] => .inr (.inr (by rw[Kq];simp))
 |x::a,y::b=>by
  rw[Eh,Eh];by_cases e:x=y
  ·
   subst e;rw[KAQ (by simp),KAQ (by simp)];rcases Hc a b with h|h
   . exact .inl (by rw[h])
   . exact .inr h
  ·
   rw[KAP e,KAP (fun h=>e h.symm),KAN,KAN];right;omega
theorem Xk {a b:List Int}(h1:Bz a b=true)(h2:Bz b a=true):False:=by
 have:=Fl a b a h1 h2;rw[E4] at this;cases this
abbrev PG (l:List (List Int)):Prop:=l.Pairwise (fun a b=>Bz a b=true)
theorem JL {l:List (List Int)}(h:PG l):l.Nodup:=h.imp (fun {a b} hab e=>by rw[e,E4] at hab;cases hab)
theorem jm {a b:List (List Int)}(ha:PG a)(hb:PG b)(h:∀x,x∈a↔x∈b):a=b:=by
 refine List.Perm.eq_of_pairwise (le:=fun a b=>Bz a b=true) (fun x y _ _ h1 h2=>(Xk h1 h2).elim) ha hb ?_;exact (List.perm_ext_iff_of_nodup (JL ha) (JL hb)).2 h
def DW (l:List (List Int))(x:List Int):Nat:=l.countP (fun a=>Bz a x)
theorem RA (l:List (List Int))(x:List Int):DW l x<=l.length:=List.countP_le_length
theorem Fr:∀ {l:List (List Int)},PG l->∀(x:List Int) (i:Nat) (hi:i<l.length),Bz l[i] x=decide (i<DW l x)
 | [],_,x,i,hi=>by simp at hi
 |y::l,h,x,i,hi=>by
  rw[PG,KCA] at h;unfold DW;rw[List.countP_cons];by_cases hy:Bz y x=true
  ·
   rw[KAP hy]
   cases i with
   |zero=>simp[hy]
   |succ i=>
    have:=Fr h.2 x i (by simp at hi;omega);unfold DW at this;simp only[KAB];rw[this];simp
  ·
   rw[KAQ hy]
   have h0:l.countP (fun a=>Bz a x)=0:=by
    rw[List.countP_eq_zero];intro a ha hax;exact hy (Fl _ _ _ (h.1 a ha) hax)
   rw[h0]
   cases i with
   |zero=>simp[hy]
   |succ i=>
    have:=Fr h.2 x i (by simp at hi;omega);unfold DW at this;rw[h0] at this;simp only[KAB];rw[this];simp
theorem dJ {l:List (List Int)}(h:PG l)(x:List Int):x∈l↔DW l x<l.length/\l.getD (DW l x) []=x:=by
 constructor
 ·
  intro hx;obtain⟨i,hi,e⟩:=KBk hx;have h1:=Fr h x i hi;rw[e,E4] at h1;have h2:¬i<DW l x:=of_decide_eq_false h1.symm;have hr:DW l x<l.length:=by omega
  refine⟨hr,?_⟩;have h3:=Fr h x _ hr;rw[KAi (by omega)] at h3;rw[IT,KAH hr,KBR];by_cases e2:DW l x=i
  . simp only[e2];exact e
  ·
   exfalso;have:=KCv.1 h _ _ hr hi (by omega);rw[e] at this;rw[this] at h3;cases h3
 ·
  rintro⟨h1,h2⟩;rw[IT,KAH h1,KBR] at h2;rw[<-h2];exact KBI h1
def Qn (l:List (List Int))(x:List Int):Bool:=decide (DW l x<l.length)&&(l.getD (DW l x) []==x)
def Ek (l:List (List Int))(x:List Int):List (List Int):=if Qn l x=true then l else l.take (DW l x)++x::l.drop (DW l x)
theorem Qo {l:List (List Int)}(h:PG l)(x:List Int):Qn l x=true↔x∈l:=by
 rw[dJ h];unfold Qn;simp only[KAO,KAN,KCp]
theorem V7 (l:List (List Int))(h:PG l)(x y:List Int):y∈Ek l x↔y∈l\/y=x:=by
 unfold Ek;split
 ·
  rename_i hx;constructor
  . exact fun h => .inl h
  ·
   rintro (h|rfl)
   . exact h
   . exact (Qo h _).1 hx
 ·
  rw[KA0,KBL]
  have:y∈l↔y∈l.take (DW l x)\/y∈l.drop (DW l x):=by
   rw[<-KA0,KCm]
  rw[this];constructor
  ·
   rintro (h|h|h)
   . exact .inl (.inl h)
   . exact .inr h
   . exact .inl (.inr h)
  ·
   rintro ((h|h)|h)
   . exact .inl h
   . exact .inr (.inr h)
   . exact .inr (.inl h)
theorem Q8 {l:List (List Int)}(h:PG l)(x:List Int):PG (Ek l x):=by
 unfold Ek;split
 . exact h
 ·
  rename_i hx;have hnot:x∉l:=fun hm=>hx ((Qo h x).2 hm)
  have h':=h;rw[<-KCm (DW l x) l,PG,KCB] at h'
  have ht:∀a,a∈l.take (DW l x)->Bz a x=true:=by
   intro a ha;obtain⟨i,hi,e⟩:=KBk ha;rw[KAz] at hi;rw[List.getElem_take] at e;rw[<-e,Fr h x i (by omega)];simp;omega
  have hd:∀a,a∈l.drop (DW l x)->Bz x a=true:=by
   intro a ha;have hal:a∈l:=List.mem_of_mem_drop ha;obtain⟨i,hi,e⟩:=KBk ha;rw[List.length_drop] at hi;rw[List.getElem_drop] at e;have:=Fr h x (DW l x+i) (by omega);rw[e,KAi (by omega)] at this;rcases Hc x a with g|g|g
   . exact absurd (by rw[g];exact hal) hnot
   . exact g
   . rw[g] at this;cases this
  rw[PG,KCB,KCA];refine⟨h'.1,⟨hd,h'.2.1⟩,fun a ha b hb=>?_⟩;rcases KBL.1 hb with rfl|hb
  . exact ht a ha
  . exact h'.2.2 a ha b hb
def Gf (AJ:List (List Nt)):List Int:=AJ.flatMap (fun n=>-2::n.map (fun x=>x.2.2))
def Ct (b:Bd):List Int:=b.AK++b.AQ++b.sn++Gf b.AJ
def An (b:Bd):List Int:=b.sn++b.AM
def GY (b:Bd):Bd:={ b with fr:=[],rws:=[] }
theorem Wk (AA:List (List Dd))(es:List Ev)(b:Bd)(c k:Nat):GY (BL AA es (GY b) c k)=GY (BL AA es b c k):=by
 unfold BL;split
 . rfl
 ·
  split
  . rfl
  ·
   split
   . rfl
   . split<;>rfl
theorem Rx (AA:List (List Dd))(es:List Ev)(b:Bd)(c:Nat):GY (Ah AA es (GY b) c)=GY (Ah AA es b c):=by
 have h:=Wk AA es b c (Am b c);have e:Am (GY b) c=Am b c:=rfl;unfold Ah;rw[e];simp only[GY] at h ⊢;injection h with h1 h2 h3 h4 h5;rw[h1,h2,h3,h5]
def EB (b b':Bd):Prop:=GY b=GY b'
theorem WY {AA:List (List Dd)}{es:List Ev}{b b':Bd}(h:EB b b')(c:Nat):EB (Ah AA es b c) (Ah AA es b' c):=by
 unfold EB at h ⊢;rw[<-Rx,h,Rx]
theorem GX {b b':Bd}(h:EB b b'):b.AK=b'.AK/\b.AJ=b'.AJ/\b.sn=b'.sn/\b.AM=b'.AM/\b.AQ=b'.AQ:=by
 unfold EB GY at h;injection h with h1 h2 h3 h4 h5;exact⟨h4,h3,h5,h1,h2⟩
theorem Rr {AA:List (List Dd)}{es:List Ev}(g:Int)(c:Nat):∀(m:Nat) (b b':Bd),EB b b'->EB (FF AA es g c m b) (FF AA es g c m b')
 | 0,_,_,h=>h
 |m+1,b,b',h=>by
  have h1:=WY (AA:=AA) (es:=es) h c;have e:Am (Ah AA es b c) c=Am (Ah AA es b' c) c:=by unfold Am;rw[(GX h1).1]
  rw[FF,FF,e];split
  . exact h1
  . exact Rr g c m _ _ h1
theorem Rq {b b':Bd}(h:EB b b')(c:Nat):EB (BS b c) (BS b' c):=by
 obtain⟨h1,h2,h3,h4,h5⟩:=GX h;unfold BS;rw[h2];split
 . exact h
 ·
  unfold EB GY EJ;simp only;rw[h1,h3,h4,h5]
theorem Jk {AA:List (List Dd)}{es:List Ev}{b b':Bd}(h:EB b b')(s:Int):EB (Ar AA es b s) (Ar AA es b' s):=by
 unfold Ar;have e:Am b s.toNat=Am b' s.toNat:=by unfold Am;rw[(GX h).1]
 split
 . exact Rq h _
 . rw[e];exact Rr _ _ _ _ _ h
theorem Rt {AA:List (List Dd)}{es:List Ev}{b b':Bd}(h:EB b b')(c:Nat):EB (CZ AA es b c) (CZ AA es b' c):=by
 have h1:=Jk (AA:=AA) (es:=es) h (c:Int);unfold CZ;rw[(GX h1).2.1];split
 . exact h1
 . exact Jk h1 _
theorem Jj {AA:List (List Dd)}{b b':Bd}(h:EB b b'):Aq AA b=Aq AA b'/\Dl AA b=Dl AA b'/\Ct b=Ct b'/\An b=An b':=by
 obtain⟨h1,h2,h3,h4,h5⟩:=GX h;have hn:∀c,Am b c=Am b' c:=fun c=>by unfold Am;rw[h1]
 refine⟨?_,?_,?_,?_⟩
 ·
  unfold Aq;have:Ce AA b=Ce AA b':=by funext c;unfold Ce;rw[hn,h2]
  rw[this,h2]
 ·
  unfold Dl;rw[h2]
  congr 1
  funext c;rw[hn]
 . unfold Ct;rw[h1,h2,h3,h5]
 . unfold An;rw[h3,h4]
theorem W7:∀L:List (List Int),(L.flatMap (fun l=>(-2:Int)::l)).takeWhile (fun x=>decide (0<=x))=[]
 | []=>rfl
 |l::L=>by rw[KBH,KBr,List.takeWhile_cons];simp
theorem SW:∀(L L':List (List Int)),(∀l∈L,∀x∈l,0<=x)->(∀l∈L',∀x∈l,0<=x)->L.flatMap (fun l=>(-2:Int)::l)=L'.flatMap (fun l=>(-2:Int)::l)->L=L'
 | [],[],_,_,_=>rfl
 | [],_::_,_,_,h=>by simp at h
 |_::_,[],_,_,h=>by simp at h
 |l::L,l'::L',h1,h2,h=>by
  rw[KBH,KBH,KBr,KBr,KCP] at h
  have t:∀(l:List Int) (L:List (List Int)),(∀x∈l,0<=x)->(l++L.flatMap (fun l=>(-2:Int)::l)).takeWhile (fun x=>decide (0<=x))=l:=by
   intro l L hl;rw[List.takeWhile_append_of_pos (fun x hx=>by simpa using hl x hx),W7,KBn]
  have e1:=t l L (h1 l (by simp));have e2:=t l' L' (h2 l' (by simp));rw[h.2] at e1;have e:l=l':=e1.symm.trans e2;subst e;rw[SW L L' (fun l hl=>h1 l (KBT _ hl)) (fun l hl=>h2 l (KBT _ hl)) (List.append_cancel_left h.2)]
theorem SZ {AA:List (List Dd)}{b:Bd}{a:Ab}(R:Yw AA b a):Gf b.AJ=((List.range AA.length).map (fun c=>(a.N c).map Int.ofNat)).flatMap (fun l=>(-2:Int)::l):=by
 unfold Gf;rw[R.AJ,List.flatMap_map,List.flatMap_map]
 congr 1
 funext c;rw[KCW];rfl
theorem Li {AA:List (List Dd)}{b b':Bd}{a a':Ab}(R:Yw AA b a)(R':Yw AA b' a')(h:Ct b=Ct b'):EB b b':=by
 unfold Ct at h;have l1:b.AK.length=b'.AK.length:=by rw[R.AK,R'.AK];simp
 have l2:b.AQ.length=b'.AQ.length:=by rw[R.AQ,R'.AQ];simp
 have l3:b.sn.length=b'.sn.length:=by rw[R.sn,R'.sn];simp
 obtain⟨h1,h4⟩:=KB0 h (by simp[l1,l2,l3]);obtain⟨h1,h3⟩:=KB0 h1 (by simp[l1,l2]);obtain⟨h1,h2⟩:=KB0 h1 l1;rw[SZ R,SZ R'] at h4
 have hp:∀(a:Ab),∀l∈(List.range AA.length).map (fun c=>(a.N c).map Int.ofNat),∀x∈l,0<=x:=by
  intro a l hl x hx;obtain⟨c,_,rfl⟩:=KAv.1 hl;obtain⟨y,_,rfl⟩:=KAv.1 hx;exact KAK y
 have h5:=SW _ _ (hp a) (hp a') h4
 have hN:∀c,c<AA.length->a.N c=a'.N c:=by
  intro c hc;have:=KBf (fun l=>l.getD c []) h5;rw[DS _ _ hc,DS _ _ hc] at this;exact List.map_inj_right (fun x y e=>Int.ofNat.inj e) |>.1 this
 have hl:∀p,p<3->BU a p=BU a' p:=by
  intro p hp;have e1:=(Ll R hp).1;have e2:=(Ll R' hp).1;rw[h2] at e1;omega
 unfold EB GY
 have Z0:b.AJ=b'.AJ:=by
  rw[R.AJ,R'.AJ];refine KAh (fun c hc=>?_);rw[hN c (KAd.1 hc)]
 have hplc:b.AM=b'.AM:=by
  rw[R.AM,R'.AM];refine KAh (fun p hp=>?_);rw[hl p (KAd.1 hp)]
 rw[h1,h2,h3,Z0,hplc]
theorem UE {AA:List (List Dd)}{b:Bd}(h:Dl AA b=true):Aq AA b=[]:=by
 unfold Dl at h;rw[KAx] at h;unfold Aq;rw[List.append_eq_nil_iff,KCc,KCc,List.filter_eq_nil_iff,List.filter_eq_nil_iff];constructor
 ·
  intro c hc;have:=h c hc;simp only[KAO,KAN] at this;unfold Ce;simp only[KAO,KAN,not_and];intro h2;omega
 ·
  intro c hc;have:=h c hc;simp only[KAO] at this;rw[this.2];simp
theorem Xq {AA:List (List Dd)}(hb:AL AA=true):QI AA (C5 AA) Ju (fun _=>0) 0 (-1):=by
 have hX:∀j,(DI AA Ju (fun _=>0)).X j->j<3:=by
  intro j hj;have:=hj.2;unfold Et Ju at this;simp at this;omega
 refine⟨(Mn hb).1,(Mn hb).2,fun _=>rfl,fun i j hi _ h3=>?_⟩;have:=hX i hi.1;omega
def Bp (AA:List (List Dd))(es:List Ev)(quick:Bool)(b:Bd):List Bd:=
 ((Aq AA b).filter (fun s=>!(quick&&decide (10<=s)))).map (fun s=>if quick=true then CZ AA es b s.toNat else Ar AA es b s)
inductive Br (AA:List (List Dd)) (quick:Bool):Bd->Prop
 |new:Br AA quick (C5 AA)
 |step {b x:Bd}:Br AA quick b->x∈Bp AA (AB AA) quick b->Br AA quick x
structure SS where
 ends:List (List Int)
 seen:List (List Int)
 opn:List Bd
def J1 (AA:List (List Dd))(es:List Ev)(quick:Bool)(S:SS):SS:=
 match S.opn.getLast? with
 |none=>S
 |some b=>
  if Qn S.seen (Ct b)=true then { S with opn:=S.opn.dropLast }
  else if Dl AA b=true then { ends:=Ek S.ends (An b),seen:=Ek S.seen (Ct b),opn:=S.opn.dropLast }
  else { ends:=S.ends,seen:=Ek S.seen (Ct b),opn:=S.opn.dropLast++Bp AA es quick b }
theorem Ln {AA:List (List Dd)}{b:Bd}{s:Int}(h:s∈Aq AA b)(hl3:AA.length<=3):(∃c:Nat,s=(c:Int)/\c<AA.length/\Ce AA b c=true/\s<10)\/(∃c:Nat,s=10+(c:Int)/\c<AA.length/\b.AJ.getD c []≠[]/\10<=s):=by
 unfold Aq at h;rw[KA0,KAv,KAv] at h;rcases h with ⟨c,hc,e⟩|⟨c,hc,e⟩
 ·
  rw[KBF,KAd] at hc;exact .inl ⟨c,e.symm,hc.1,hc.2,by omega⟩
 ·
  rw[KBF,KAd] at hc;refine .inr ⟨c,e.symm,hc.1,fun h=>?_,by omega⟩;rw[h] at hc;simp at hc
theorem Ib {AA:List (List Dd)}{es:List Ev}(hb:AL AA=true){quick:Bool}{b x:Bd}(h:x∈Bp AA es quick b):
  (quick=true/\∃c,c<AA.length/\Ce AA b c=true/\x=CZ AA es b c)\/(quick=false/\∃s,Op (Aq AA b) s=true/\x=Ar AA es b s):=by
 unfold Bp at h;rw[KAv] at h;obtain⟨s,hs,e⟩:=h;rw[KBF] at hs
 cases quick with
 |true=>
  rw[KAP rfl] at e;rcases Ln hs.1 (Da hb) with ⟨c,ec,h1,h2,_⟩|⟨c,ec,h1,h2,h3⟩
  ·
   refine .inl ⟨rfl,c,h1,h2,?_⟩;rw[<-e,ec,KAV]
  ·
   have:=hs.2;rw[KAl h3] at this;simp at this
 |false=>
  rw[KAQ (by simp)] at e;exact .inr ⟨rfl,s,Kt hs.1,e.symm⟩
theorem BF {AA:List (List Dd)}(hb:AL AA=true){quick:Bool}{b:Bd}(h:Br AA quick b):∃a τ T z,MI AA b a τ T z/\BD AA a/\(quick=true->QI AA b a τ T z):=by
 induction h with
 |new=>exact⟨_,_,_,_,(Mn hb).1,(Mn hb).2,fun _=>Xq hb⟩
 |step hr hx ih=>
  obtain⟨a,τ,T,z,M,B,Q⟩:=ih;rcases Ib hb hx with ⟨hq,c,hc,hcan,rfl⟩|⟨hq,s,hs,rfl⟩
  ·
   obtain⟨a',τ',T',z',Q'⟩:=YD hb (Q hq) hc hcan;exact⟨a',τ',T',z',Q'.mi,Q'.bd,fun _=>Q'⟩
  ·
   obtain⟨a',τ',z',M',B'⟩:=fE hb M B hs;exact⟨a',τ',T+1,z',M',B',fun h=>by rw[hq] at h;cases h⟩
theorem Rs {AA:List (List Dd)}{es:List Ev}{quick:Bool}{b b':Bd}(h:EB b b'){x:Bd}(hx:x∈Bp AA es quick b):∃x',x'∈Bp AA es quick b'/\EB x x':=by
 unfold Bp at hx ⊢;rw[KAv] at hx;obtain⟨s,hs,e⟩:=hx;rw[(Jj (AA:=AA) h).1] at hs;refine⟨_,KAv.2 ⟨s,hs,rfl⟩,?_⟩;rw[<-e];split
 . exact Rt h _
 . exact Jk h _
structure SI (AA:List (List Dd))(quick:Bool)(S:SS):Prop where
 oe:PG S.ends
 os:PG S.seen
 opn:∀b,b∈S.opn->Br AA quick b
 ends:∀e,e∈S.ends->∃b,Br AA quick b/\Dl AA b=true/\e=An b
 seen:∀k,k∈S.seen->∃b,Br AA quick b/\Ct b=k/\(Dl AA b=true->An b∈S.ends)/\(Dl AA b=false->∀x,x∈Bp AA (AB AA) quick b->Ct x∈S.seen\/x∈S.opn)
 FU:Ct (C5 AA)∈S.seen\/C5 AA∈S.opn
theorem qV (AA:List (List Dd))(quick:Bool):SI AA quick { ends:=[],seen:=[],opn:=[C5 AA] }:=
 ⟨List.Pairwise.nil,List.Pairwise.nil,fun b hb=>by rw[KBD] at hb;rw[hb];exact .new,fun e he=>(by cases he),fun k hk=>(by cases hk),.inr (KBD.2 rfl)⟩
theorem UY {α:Type}{l:List α}{b:α}(h:l.getLast? = some b)(x:α):x∈l↔x∈l.dropLast\/x=b:=by
 obtain⟨l',rfl⟩:=KB9.1 h;rw[KCq,KA0,KBD]
theorem Uu {AA:List (List Dd)}{quick:Bool}{S:SS}(h:SI AA quick S):SI AA quick (J1 AA (AB AA) quick S):=by
 unfold J1
 cases hl:S.opn.getLast? with
 |none=>exact h
 |some b=>
  have hm:=UY hl;have hbr:Br AA quick b:=h.opn b ((hm b).2 (.inr rfl));show SI AA quick (if Qn S.seen (Ct b)=true then _ else _);by_cases hs:Qn S.seen (Ct b)=true
  ·
   rw[KAP hs];have hk:=(Qo h.os _).1 hs;refine⟨h.oe,h.os,fun x hx=>h.opn x ((hm x).2 (.inl hx)),h.ends,fun k hk'=>?_,?_⟩
   ·
    obtain⟨y,y1,y2,y3,y4⟩:=h.seen k hk';refine⟨y,y1,y2,y3,fun he x hx=>?_⟩;rcases y4 he x hx with g|g
    . exact .inl g
    ·
     rcases (hm x).1 g with g|g
     . exact .inr g
     . exact .inl (by rw[g];exact hk)
   ·
    rcases h.FU with g|g
    . exact .inl g
    ·
     rcases (hm _).1 g with g|g
     . exact .inr g
     . exact .inl (by rw[g];exact hk)
  ·
   rw[KAQ hs];have hp:=V7 S.seen h.os (Ct b);by_cases he:Dl AA b=true
   ·
    rw[KAP he];have hpe:=V7 S.ends h.oe (An b);refine⟨Q8 h.oe _,Q8 h.os _,fun x hx=>h.opn x ((hm x).2 (.inl hx)),fun e hx=>?_,fun k hk'=>?_,?_⟩
    ·
     rcases (hpe e).1 hx with g|g
     . exact h.ends e g
     . exact⟨b,hbr,he,g⟩
    ·
     rcases (hp k).1 hk' with g|g
     ·
      obtain⟨y,y1,y2,y3,y4⟩:=h.seen k g;refine⟨y,y1,y2,fun he=>(hpe _).2 (.inl (y3 he)),fun he x hx=>?_⟩;rcases y4 he x hx with g|g
      . exact .inl ((hp _).2 (.inl g))
      ·
       rcases (hm x).1 g with g|g
       . exact .inr g
       . exact .inl ((hp _).2 (.inr (by rw[g])))
     . exact⟨b,hbr,g.symm,fun _=>(hpe _).2 (.inr rfl),fun h'=>by rw[he] at h';cases h'⟩
    ·
     rcases h.FU with g|g
     . exact .inl ((hp _).2 (.inl g))
     ·
      rcases (hm _).1 g with g|g
      . exact .inr g
      . exact .inl ((hp _).2 (.inr (by rw[g])))
   ·
    rw[KAQ he];refine⟨h.oe,Q8 h.os _,fun x hx=>?_,h.ends,fun k hk'=>?_,?_⟩
    ·
     rcases KA0.1 hx with g|g
     . exact h.opn x ((hm x).2 (.inl g))
     . exact .step hbr g
    ·
     rcases (hp k).1 hk' with g|g
     ·
      obtain⟨y,y1,y2,y3,y4⟩:=h.seen k g;refine⟨y,y1,y2,y3,fun he x hx=>?_⟩;rcases y4 he x hx with g|g
      . exact .inl ((hp _).2 (.inl g))
      ·
       rcases (hm x).1 g with g|g
       . exact .inr (KB3 _ g)
       . exact .inl ((hp _).2 (.inr (by rw[g])))
     . exact⟨b,hbr,g.symm,fun h'=>absurd h' he,fun _ x hx => .inr (KDA _ hx)⟩
    ·
     rcases h.FU with g|g
     . exact .inl ((hp _).2 (.inl g))
     ·
      rcases (hm _).1 g with g|g
      . exact .inr (KB3 _ g)
      . exact .inl ((hp _).2 (.inr (by rw[g])))
def Hv (AA:List (List Dd))(quick:Bool)(l:List (List Int)):Prop:=PG l/\∀x,x∈l↔∃b,Br AA quick b/\Dl AA b=true/\x=An b
theorem ZY {AA:List (List Dd)}{quick:Bool}{l l':List (List Int)}(h:Hv AA quick l)(h':Hv AA quick l'):l=l':=jm h.1 h'.1 (fun x=>by rw[h.2,h'.2])
theorem UD {AA:List (List Dd)}{es:List Ev}{quick:Bool}{b x:Bd}(hx:x∈Bp AA es quick b):Dl AA b=false:=by
 cases he:Dl AA b with
 |false=>rfl
 |true=>
  unfold Bp at hx;rw[UE he] at hx;cases hx
theorem TN {AA:List (List Dd)}(hb:AL AA=true){quick:Bool}{S:SS}(h:SI AA quick S)(h0:S.opn=[]):Hv AA quick S.ends:=by
 have all:∀b,Br AA quick b->Ct b∈S.seen:=by
  intro b hr
  induction hr with
  |new=>
   rcases h.FU with g|g
   . exact g
   . rw[h0] at g;cases g
  | @step b x hr hx ih=>
   obtain⟨y,y1,y2,y3,y4⟩:=h.seen _ ih;obtain⟨a,_,_,_,M,_⟩:=BF hb hr;obtain⟨a',_,_,_,M',_⟩:=BF hb y1;have al:=Li M.B0 M'.B0 y2.symm;obtain⟨x',hx',ax⟩:=Rs al hx;have:=y4 (UD hx') x' hx';rw[h0] at this;rw[(Jj (AA:=AA) ax).2.2.1];exact this.resolve_right (by simp)
 refine⟨h.oe,fun x=>⟨h.ends x,?_⟩⟩;rintro⟨b,hr,he,rfl⟩;obtain⟨y,y1,y2,y3,y4⟩:=h.seen _ (all b hr);obtain⟨a,_,_,_,M,_⟩:=BF hb hr;obtain⟨a',_,_,_,M',_⟩:=BF hb y1;have al:=Jj (AA:=AA) (Li M.B0 M'.B0 y2.symm);rw[al.2.2.2];exact y3 (by rw[<-al.2.1];exact he)
theorem dU {AA:List (List Dd)}{b:Bd}{a:Ab}(R:Yw AA b a):LN AA b/\∀c,0<=b.AK.getD c 0:=by
 refine⟨⟨by rw[R.AK];simp,by rw[R.AJ];simp⟩,fun c=>?_⟩;by_cases hc:c<AA.length
 . rw[(Ed R hc).1];exact KAK _
 ·
  rw[IT,KA9 (by rw[R.AK];simp;omega)];exact Int.le_refl _
theorem Xo {AA:List (List Dd)}(hb:AL AA=true){es:List Ev}{b:Bd}(hL:LN AA b)(h0:∀c,0<=b.AK.getD c 0){c:Nat}(hc:c<AA.length)(hcan:Ce AA b c=true):ER AA (CZ AA es b c)+1<=ER AA b:=by
 obtain⟨m1,m2,m3⟩:=Ku hb (es:=es) hL h0 (TB hc hcan);unfold CZ;split
 . exact m1
 ·
  rename_i hne;have:=Ku hb (es:=es) m2 m3 (Uh hc (fun h=>hne (by rw[h];rfl)));omega
theorem JH {AA:List (List Dd)}(hb:AL AA=true){quick:Bool}{b x:Bd}(hr:Br AA quick b)(hx:x∈Bp AA (AB AA) quick b):ER AA x+1<=ER AA b:=by
 obtain⟨a,_,_,_,M,_⟩:=BF hb hr;obtain⟨hL,h0⟩:=dU M.B0;rcases Ib hb hx with ⟨_,c,hc,hcan,rfl⟩|⟨_,s,hs,rfl⟩
 . exact Xo hb hL h0 hc hcan
 . exact (Ku hb hL h0 hs).1
theorem JG {AA:List (List Dd)}(hb:AL AA=true){es:List Ev}{quick:Bool}{b:Bd}:(Bp AA es quick b).length<=6:=by
 have hl3:=Da hb;unfold Bp;rw[KAj];refine KAU (KBj _ _) ?_;unfold Aq;rw[KAJ,KAj,KAj];have h1:=KBj (Ce AA b) (List.range AA.length);have h2:=KBj (fun c=>!(b.AJ.getD c []).isEmpty) (List.range AA.length);rw[KB5] at h1 h2;omega
def KE (AA:List (List Dd))(l:List Bd):Nat:=(l.map (fun b=>7 ^ ER AA b)).sum
theorem QL (AA:List (List Dd))(a b:List Bd):KE AA (a++b)=KE AA a+KE AA b:=by
 unfold KE;rw[KBB,List.sum_append]
theorem Tf {AA:List (List Dd)}{w:Nat}:∀l:List Bd,(∀x,x∈l->7 ^ ER AA x<=w)->KE AA l<=l.length*w
 | [],_=>by unfold KE;simp
 |x::l,h=>by
  have h1:=Tf l (fun y hy=>h y (KBT _ hy));have h2:=h x (by simp);have:KE AA (x::l)=7 ^ ER AA x+KE AA l:=by unfold KE;rw[KBy,List.sum_cons]
  rw[this,KBJ,Nat.add_mul];omega
theorem bD {AA:List (List Dd)}(hb:AL AA=true){quick:Bool}{b:Bd}(hr:Br AA quick b):KE AA (Bp AA (AB AA) quick b)<7 ^ ER AA b:=by
 by_cases hn:Bp AA (AB AA) quick b=[]
 ·
  rw[hn];exact Nat.pow_pos (by omega)
 ·
  obtain⟨x,hx⟩:=List.exists_mem_of_ne_nil _ hn;have h1:=JH hb hr hx
  have h2:=Tf (AA:=AA) (w:=7 ^ (ER AA b-1)) (Bp AA (AB AA) quick b) (fun y hy=>by
   have:=JH hb hr hy
   exact KCX (by omega) (by omega))
  have h3:=JG hb (es:=AB AA) (quick:=quick) (b:=b)
  have h4:7 ^ ER AA b=7*7 ^ (ER AA b-1):=by
   rw[<-Nat.pow_succ',show (ER AA b-1).succ=ER AA b by omega]
  have h5:0<7 ^ (ER AA b-1):=Nat.pow_pos (by omega);have h6:=KDH (7 ^ (ER AA b-1)) h3;omega
theorem U6 {AA:List (List Dd)}(hb:AL AA=true){quick:Bool}{S:SS}(h:SI AA quick S)(hne:S.opn≠[]):KE AA (J1 AA (AB AA) quick S).opn<KE AA S.opn:=by
 unfold J1
 cases hl:S.opn.getLast? with
 |none=>exact absurd (KCu.1 hl) hne
 |some b=>
  obtain⟨l',e⟩:=KB9.1 hl;have hbr:Br AA quick b:=h.opn b (by rw[e];simp);have e1:KE AA S.opn=KE AA l'+7 ^ ER AA b:=by rw[e,QL];unfold KE;simp
  have e2:S.opn.dropLast=l':=by rw[e,KCq]
  have hp:0<7 ^ ER AA b:=Nat.pow_pos (by omega);show KE AA (if Qn S.seen (Ct b)=true then _ else _:SS).opn<_;split
  ·
   show KE AA S.opn.dropLast<_;rw[e2,e1];omega
  ·
   split
   ·
    show KE AA S.opn.dropLast<_;rw[e2,e1];omega
   ·
    show KE AA (S.opn.dropLast++_)<_;rw[QL,e2,e1];have:=bD hb hbr;omega
def JS (l:List Int)(lo hi:Int)(most:Nat):Bool:=l.all (fun x=>decide (lo<=x)&&decide (x<=hi))&&decide (l.length<=most)
def rA (n:Int)(x:Nt):Bool:=(decide (0<=x.1)&&decide (x.1<=2))&&((decide (0<=x.2.1)&&decide (x.2.1<=9))&&(decide (0<=x.2.2)&&decide (x.2.2<=n-1)))
def bJ (n:Int)(l:List Nt):Bool:=l.all (rA n)
def VL (AA:List (List Dd))(n:Int)(b:Bd)(i:Nat):Bool:=
 (decide (0<=b.AK.getD i 0)&&decide (b.AK.getD i 0<=((AA.getD i []).length:Int)))&&(decide ((b.AJ.getD i []).length<=8)&&bJ n (b.AJ.getD i []))
def Ip (AA:List (List Dd))(b:Bd):Bool:=
 AL AA&&(decide (b.AM.length=3)&&(decide (b.AQ.length=3)&&(decide (b.rws.length=3)&&(decide (b.AJ.length=AA.length)&&decide (b.AK.length=AA.length)))))
def NM (n:Int)(r:Nat)(b:Bd):Bool:=
 decide (b.sn.length=r)&&(decide (b.fr.length=r)&&(JS b.AM 0 9 3&&(JS b.AQ 0 (n-1) 3&&(JS b.sn (-1) 9 12&&JS b.fr (-1) (n-1) 12))))
def Jy (n:Int)(b:Bd):Bool:=(List.range 3).all (fun i=>JS (b.rws.getD i []) 0 (n-1) 20)
def Ap (AA:List (List Dd))(b:Bd):Bool:=
 Ip AA b&&(NM ((AB AA).length:Int) (AW Af (AB AA)).length b&&(Jy ((AB AA).length:Int) b&&(List.range AA.length).all (fun i=>VL AA ((AB AA).length:Int) b i)))
theorem FC {n k:Nat}{f:Nat->Bool}(hk:k<n)(h:f k=false):(List.range n).all f=false:=by
 rw[List.all_eq_false];exact⟨k,KAd.2 hk,by rw[h];simp⟩
theorem Fe {n:Nat}{f:Nat->Bool}(h:∀k,k<n->f k=true):(List.range n).all f=true:=by
 rw[KAx];exact fun k hk=>h k (KAd.1 hk)
theorem Tx {AA:List (List Dd)}{b:Bd}(h:Ap AA b=true):b.AJ.length=AA.length/\b.AK.length=AA.length:=by
 unfold Ap Ip at h;simp only[KAO,KAN] at h;exact⟨h.1.2.2.2.2.1,h.1.2.2.2.2.2⟩
theorem Kd {AA:List (List Dd)}(hb:AL AA=true){j:Nat}(hj:j<(AB AA).length):(0<=JY AA j/\JY AA j<=9)/\0<=gJ AA j/\gJ AA j<=2:=by
 by_cases h3:j<3
 ·
  have e:=(NK (AA:=AA) (by simp only[AL,KAO,KAN] at hb;intro i hi;have:=KAx.1 hb.1.1.1.2 _ (KBI hi);rw[IT,KAH hi];exact this) AA.length (KAM _)).1;obtain⟨t,ht⟩:=e;have e1:AB AA=Ci++t:=by rw[AB,KAP hb,ht]
  unfold JY gJ;rw[e1,IT,KAu (by simp[Ci];omega)];have:j=0\/j=1\/j=2:=by omega
  rcases this with rfl|rfl|rfl<;>simp[Ci]
 ·
  obtain⟨c,k,i,E⟩:=Gy hb (by omega) hj;have hd:=CV hb E.hc k E.hk;unfold JY gJ;rw[E.at hb];simp only;unfold YU;have hd':=hd;unfold Aj at hd' ⊢;simp only[Fy,Ec,KAN] at hd';split<;>omega
theorem ig (AA:List (List Dd)):(AB AA).length<=9:=by
 unfold AB;split
 ·
  rename_i h;simp only[AL,KAO,KAN] at h;obtain⟨⟨⟨⟨_,h2⟩,_⟩,h4⟩,_⟩:=h;have:=IR (fun i hi=>Bm [] h2 i hi) AA.length (KAM _);omega
 . simp
theorem Pv {lo n:Nat}:∀ {l:List Nat},l.Nodup->(∀x∈l,lo<=x/\x<n)->l.length<=n-lo:=fun {l} hn h=>by
 have hs:∀x∈l,x∈List.range' lo (n-lo):=fun x hx=>by
  have:=h x hx;rw[List.mem_range'_1];omega
 have:l.length<=(List.range' lo (n-lo)).length:=by
  clear h;generalize List.range' lo (n-lo)=r at hs
  induction l generalizing r with
  |nil=>simp
  |cons x t ih=>
   rw[List.nodup_cons] at hn;have hx:=hs x (by simp);have:=ih hn.2 (r.erase x) (fun y hy=>(List.mem_erase_of_ne (fun e=>hn.1 (by rw[<-e];exact hy))).2 (hs y (by simp[hy])));rw[List.length_erase_of_mem hx] at this;have:0<r.length:=List.length_pos_of_mem hx;simp only[KBJ];omega
 simpa using this
theorem IA {α:Type}(l:List α)(f:α->Int){lo hi:Int}{most:Nat}(h:∀x∈l,lo<=f x/\f x<=hi)(hm:l.length<=most):JS (l.map f) lo hi most=true:=by
 unfold JS;rw[KAO,KAx,KAN,KAj];refine⟨fun y hy=>?_,hm⟩;obtain⟨x,hx,rfl⟩:=KAv.1 hy;have:=h x hx;simp[this]
theorem IZ {AA:List (List Dd)}(hb:AL AA=true){b:Bd}{a:Ab}{τ:Nat->Nat}{T:Nat}{z:Int}(M:MI AA b a τ T z):Ap AA b=true:=by
 have h9:=ig AA;have R:=M.B0;have I:=M.inv
 have hlen3:3<=(AB AA).length:=by
  have:=I.lt 2 (I.FU 2 (by omega)).1;exact this
 have dh:∀p x,x∈a.R p->x<(AB AA).length:=fun p x hx=>I.lt x ((I.rows p x).1 hx).1.1
 have bE:∀c x,x∈a.N c->3<=x/\x<(AB AA).length:=fun c x hx=>by
  have hx':x∈(DI AA a τ).N (c:Int):=by rw[JX];exact hx
  have:=I.note (c:Int) x hx';exact⟨this.2.1,I.lt x this.1⟩
 have hlast:∀p,p<3->BU a p<(AB AA).length:=fun p hp=>by
  unfold BU
  cases hl:(a.R p).getLast? with
  |none=>show p<_;omega
  |some x=>exact dh p x (KCV hl)
 have hF:∀r,r<(AB AA).length->((AB AA).getD r zE).2.2.1=true->Et AA a r=true->a.F r<(AB AA).length:=fun r h1 h2 h3=>I.lt _ (I.src r ⟨h1,h3⟩ h2).1
 have hx12:(AB AA).length<=12:=by omega
 have rl:(AW Af (AB AA)).length<=12:=by
  unfold AW;rw[KAP hx12];have:=E0 Af (AB AA) (AB AA).length;omega
 have wM:∀r∈AW Af (AB AA),(0<=r/\r<((AB AA).length:Int))/\((AB AA).getD r.toNat zE).2.2.1=true:=fun r hr=>by
  unfold AW at hr;rw[KAP hx12] at hr;exact⟨JC _ _ _ _ hr,Kk _ _ _ _ hr⟩
 unfold Ap;rw[KAO,KAO,KAO];refine⟨?_,?_,?_,?_⟩
 ·
  unfold Ip;rw[hb,R.AM,R.AQ,R.rws,R.AJ,R.AK];simp
 ·
  unfold NM;rw[R.sn,R.fr,R.AM,R.AQ,KAj,KAj];simp only[decide_true,KBi,KAO];refine⟨IA _ _ (fun p hp=>(Kd hb (hlast p (KAd.1 hp))).1) (by simp),IA _ _ (fun p hp=>by have:=hlast p (KAd.1 hp);omega) (by simp),IA _ _ (fun r hr=>?_) rl,IA _ _ (fun r hr=>?_) rl⟩
  ·
   obtain⟨h1,h2⟩:=wM r hr;by_cases hE:Et AA a r.toNat=true
   ·
    rw[KAP hE];have:=(Kd hb (hF r.toNat (by omega) h2 hE)).1;omega
   . rw[KAQ hE];omega
  ·
   obtain⟨h1,h2⟩:=wM r hr;by_cases hE:Et AA a r.toNat=true
   ·
    rw[KAP hE];have:=hF r.toNat (by omega) h2 hE;omega
   . rw[KAQ hE];omega
 ·
  unfold Jy;rw[KAx];intro p hp;rw[R.rws,DS _ _ (KAd.1 hp)];refine IA _ _ (fun x hx=>by have:=dh p x hx;exact⟨KAK _,by show (x:Int)<=_;omega⟩) ?_;have:=Pv (lo:=0) (I.RM p) (fun x hx=>⟨KAb _,dh p x hx⟩);have e:(DI AA a τ).R p=a.R p:=rfl;rw[e] at this;omega
 ·
  rw[KAx];intro c hc;have hc:=KAd.1 hc;unfold VL;rw[(Ed R hc).1,R.AJ,DS _ _ hc,KAj];have h1:=M.Vs c hc
  have hnd:(a.N c).Nodup:=by
   have:=I.Ma (c:Int);rw[JX] at this;exact this.imp (fun h=>Nat.ne_of_lt h)
  have h2:=Pv hnd (bE c);simp only[KAO,KAN];refine⟨⟨by omega,by omega⟩,by omega,?_⟩;unfold bJ;rw[KAx];intro y hy;obtain⟨x,hx,rfl⟩:=KAv.1 hy;have hn:=bE c x hx;have:=Kd hb hn.2;unfold rA Xs;simp only[KAO,KAN];omega
def YY (es:List Ev)(c k i:Nat):Bool:=((es.getD i zE).1==(c:Int))&&((es.getD i zE).2.1==(k:Int))
theorem ic {es:List Ev}{c k i:Nat}(h3:3<=i)(hi:i<es.length)(hn:∀j,3<=j->j<i->YY es c k j=false)(h:YY es c k i=true):LR es c k=(i:Int):=by
 unfold LR
 have e:(List.range es.length).find? (fun i=>decide (3<=i)&&((es.getD i zE).1==(c:Int))&&((es.getD i zE).2.1==(k:Int)))=some i:=by
  rw[List.find?_eq_some_iff_getElem];refine⟨?_,i,by simpa using hi,by simp,fun j hj=>?_⟩
  ·
   unfold YY at h;rw[Bool.and_assoc,h];simp[h3]
  ·
   simp only[List.getElem_range];by_cases h3:3<=j
   ·
    have:=hn j h3 hj;unfold YY at this;rw[Bool.and_assoc,this];simp
   . simp[h3]
 rw[e]
theorem Ze {es:List Ev}{c k:Nat}(hn:∀j,3<=j->j<es.length->YY es c k j=false):LR es c k=-1:=by
 unfold LR
 have e:(List.range es.length).find? (fun i=>decide (3<=i)&&((es.getD i zE).1==(c:Int))&&((es.getD i zE).2.1==(k:Int)))=none:=by
  rw[List.find?_eq_none];intro j hj;by_cases h3:3<=j
  ·
   have:=hn j h3 (KAd.1 hj);unfold YY at this;rw[Bool.and_assoc,this];simp
  . simp[h3]
 rw[e]
theorem o9 (es:List Ev)(c k:Nat)(h:es.length<=12):-1<=LR es c k/\LR es c k<=12:=by
 unfold LR;split
 ·
  rename_i i e;have:=KAd.1 (List.mem_of_find?_eq_some e);omega
 . omega
def D9 (rs:List Int)(ev v:Int)(l:List Int):Nat->List Int
 | 0=>l
 |k+1=>if decide (rs.getD k 0=ev)=true then (D9 rs ev v l k).set k v else D9 rs ev v l k
theorem Im (rs:List Int)(ev v:Int)(l:List Int):∀k:Nat,(D9 rs ev v l k).length=l.length
 | 0=>rfl
 |k+1=>by rw[D9];split<;>simp[Im rs ev v l k]
theorem TO {rs:List Int}{ev v:Int}{l:List Int}:∀(k j:Nat),j<l.length->(D9 rs ev v l k)[j]? = if j<k/\rs.getD j 0=ev then some v else l[j]?
 | 0,j,h=>by simp[D9]
 |k+1,j,h=>by
  have ih:=TO (rs:=rs) (ev:=ev) (v:=v) k j h;rw[D9];by_cases e:rs.getD k 0=ev
  ·
   rw[KAP (KAl e),KBt,Im];by_cases ej:k=j
   ·
    subst ej;rw[KAP rfl,KAP h,KAP ⟨by omega,e⟩]
   ·
    rw[KAQ ej,ih];by_cases h1:j<k/\rs.getD j 0=ev
    . rw[KAP h1,KAP ⟨by omega,h1.2⟩]
    . rw[KAQ h1,KAQ (fun h2=>h1 ⟨by omega,h2.2⟩)]
  ·
   rw[KAQ (by simpa using e),ih];by_cases h1:j<k/\rs.getD j 0=ev
   . rw[KAP h1,KAP ⟨by omega,h1.2⟩]
   ·
    rw[KAQ h1,KAQ (fun h2=>?_)];by_cases ej:j=k
    . subst ej;exact e h2.2
    . exact h1 ⟨by omega,h2.2⟩
theorem QD {rs:List Int}{ev v:Int}{l:List Int}(h:l.length=rs.length):D9 rs ev v l rs.length=Hf rs ev v l:=by
 apply KC4;intro j;unfold Hf;by_cases hj:j<l.length
 ·
  rw[TO _ _ hj,List.getElem?_zipWith];rw[KAH hj,KAH (show j<rs.length by omega)];have e:rs.getD j 0=rs[j]'(by omega):=by rw[IT,KAH (show j<rs.length by omega)];rfl
  simp only[e];by_cases h1:rs[j]'(by omega)=ev
  . rw[KAP ⟨by omega,h1⟩];simp[h1]
  . rw[KAQ (fun h2=>h1 h2.2)];simp[h1]
 . rw[KA9 (by rw[Im];omega),KA9 (by rw[List.length_zipWith];omega)]
def Hm (AA:List (List Dd))(b:Bd)(k:Nat):List Int:=((List.range k).filter (Ce AA b)).map (fun c:Nat=>(c:Int))
theorem ZO {AA:List (List Dd)}{b:Bd}{k:Nat}(h:Ce AA b k=true):Hm AA b (k+1)=Hm AA b k++[(k:Int)]:=by
 unfold Hm;rw[KBx,List.filter_append,KBB];simp[h]
theorem Wq {AA:List (List Dd)}{b:Bd}{k:Nat}(h:Ce AA b k=false):Hm AA b (k+1)=Hm AA b k:=by
 unfold Hm;rw[KBx,List.filter_append,KBB];simp[h]
def O0 (b:Bd)(k:Nat):List Int:=((List.range k).filter (fun c=>!(b.AJ.getD c []).isEmpty)).map (fun c:Nat=>10+(c:Int))
theorem jc {b:Bd}{k:Nat}(h:0<(b.AJ.getD k []).length):O0 b (k+1)=O0 b k++[10+(k:Int)]:=by
 have:(b.AJ.getD k []).isEmpty=false:=by
  cases e:b.AJ.getD k [] with
  |nil=>rw[e] at h;simp at h
  |cons x l=>rfl
 unfold O0;rw[KBx,List.filter_append,KBB];simp only[KDE,this,Bool.not_false,KCT,List.filter_nil,KBy,KCY]
theorem bG {b:Bd}{k:Nat}(h:¬ 0<(b.AJ.getD k []).length):O0 b (k+1)=O0 b k:=by
 have:(b.AJ.getD k []).isEmpty=true:=by
  cases e:b.AJ.getD k [] with
  |nil=>rfl
  |cons x l=>rw[e] at h;simp at h
 unfold O0;rw[KBx,List.filter_append,KBB];simp only[KDE,this,Bool.not_true,KBO,KCU,List.filter_nil,KCY,KBn]
theorem YB (AA:List (List Dd))(b:Bd):Hm AA b AA.length++O0 b AA.length=Aq AA b:=rfl
theorem SD (AA:List (List Dd))(b:Bd)(k:Nat):(Hm AA b k).length<=k:=by
 unfold Hm;rw[KAj];exact KAU (KBj _ _) (by simp)
theorem jd (b:Bd)(k:Nat):(O0 b k).length<=k:=by
 unfold O0;rw[KAj];exact KAU (KBj _ _) (by simp)
structure Ee (AA:List (List Dd))(b:Bd)(n:Nat):Prop where
 work:AL AA=true
 AM:b.AM.length=3
 AQ:b.AQ.length=3
 rws:b.rws.length=3
 AJ:b.AJ.length=AA.length
 AK:b.AK.length=AA.length
 sn:b.sn.length=(AW Af (AB AA)).length
 fr:b.fr.length=(AW Af (AB AA)).length
 rl:∀p,(b.rws.getD p []).length<=n
 nl:∀c,(b.AJ.getD c []).length<=n
theorem Ee.mono {AA:List (List Dd)}{b:Bd}{n m:Nat}(h:Ee AA b n)(hm:n<=m):Ee AA b m:=
 ⟨h.work,h.AM,h.AQ,h.rws,h.AJ,h.AK,h.sn,h.fr,fun p=>KAU (h.rl p) hm,fun c=>KAU (h.nl c) hm⟩
theorem J2 {α:Type}{l:List (List α)}{n:Nat}(h:∀i,(l.getD i []).length<=n)(k:Nat)(z:List α)(hz:z.length<=n):∀i,((l.set k z).getD i []).length<=n:=fun i=>by
 rw[IT,KBt];by_cases e:k=i
 ·
  rw[KAP e];by_cases hk:k<l.length
  . rw[KAP hk];exact hz
  . rw[KAQ hk];simp
 . rw[KAQ e,<-IT];exact h i
theorem LI {rs:List Int}{ev v:Int}{l:List Int}(h:l.length=rs.length):(Hf rs ev v l).length=rs.length:=by unfold Hf;rw[List.length_zipWith];omega
theorem Ee.see {AA:List (List Dd)}{b:Bd}{n:Nat}(h:Ee AA b n)(ev v f:Int):Ee AA (Fz (AW Af (AB AA)) b ev v f) n:=
 ⟨h.work,h.AM,h.AQ,h.rws,h.AJ,h.AK,LI h.sn,LI h.fr,h.rl,h.nl⟩
theorem Ee.Z9 {AA:List (List Dd)}{b:Bd}{n:Nat}(h:Ee AA b n)(p:Nat)(v ev:Int):Ee AA (EJ b p v ev) (n+1):=
 ⟨h.work,by simp[EJ,h.AM],by simp[EJ,h.AQ],by simp[EJ,h.rws],h.AJ,h.AK,h.sn,h.fr,
  J2 (fun i=>KCn (h.rl i)) p _ (by have:=h.rl p;rw[KAJ,KA5];omega),fun c=>KCn (h.nl c)⟩
theorem Ee.note {AA:List (List Dd)}{b:Bd}{n:Nat}(h:Ee AA b n)(c:Nat)(x:Nt):Ee AA { b with AJ:=b.AJ.set c (b.AJ.getD c []++[x]) } (n+1):=
 ⟨h.work,h.AM,h.AQ,h.rws,by simp[h.AJ],h.AK,h.sn,h.fr,fun p=>KCn (h.rl p),
  J2 (fun i=>KCn (h.nl i)) c _ (by have:=h.nl c;rw[KAJ,KA5];omega)⟩
theorem Ee.less {AA:List (List Dd)}{b:Bd}{n:Nat}(h:Ee AA b n)(c:Nat)(l:List Nt)(hl:l.length<=n):Ee AA { b with AJ:=b.AJ.set c l } n:=
 ⟨h.work,h.AM,h.AQ,h.rws,by simp[h.AJ],h.AK,h.sn,h.fr,h.rl,J2 h.nl c _ hl⟩
theorem Ee.deed {AA:List (List Dd)}{b:Bd}{n:Nat}(h:Ee AA b n)(c k:Nat):Ee AA (BL AA (AB AA) b c k) (n+1):=by
 unfold BL;split
 . exact (h.see _ _ _).mono (KCi n)
 ·
  split
  . exact (h.see _ _ _).Z9 _ _ _
  ·
   split
   . exact h.Z9 _ _ _
   ·
    split
    . exact h.note c _
    . exact h.mono (KCi n)
theorem Ee.next {AA:List (List Dd)}{b:Bd}{n:Nat}(h:Ee AA b n)(c:Nat)(x:Int):Ee AA { b with AK:=b.AK.set c x } n:=
 ⟨h.work,h.AM,h.AQ,h.rws,h.AJ,by simp[h.AK],h.sn,h.fr,h.rl,h.nl⟩
theorem M8 (AA:List (List Dd))(es:List Ev)(b:Bd)(c k:Nat):(BL AA es b c k).AK=b.AK:=by
 unfold BL;split
 . rfl
 ·
  split
  . rfl
  ·
   split
   . rfl
   . split<;>rfl
theorem Ee.one {AA:List (List Dd)}{b:Bd}{n:Nat}(h:Ee AA b n)(c:Nat):Ee AA (Ah AA (AB AA) b c) (n+1):=by
 have:=(h.deed c (Am b c)).next c (b.AK.getD c 0+1);rw[M8] at this;exact this
theorem Ee.of {AA:List (List Dd)}{b:Bd}(h:Ap AA b=true):Ee AA b 20:=by
 simp only[Ap,Ip,NM,Jy,KAO,KAN] at h;obtain⟨⟨hw,h1,h2,h3,h4,h5⟩,⟨h6,h7,-⟩,h8,h9⟩:=h;refine⟨hw,h1,h2,h3,h4,h5,h6,h7,fun p=>?_,fun c=>?_⟩
 ·
  by_cases hp:p<3
  ·
   have:=KAx.1 h8 p (KAd.2 hp);simp only[JS,KAO,KAN] at this;exact this.2
  . rw[IT,KA9 (by omega)];simp
 ·
  by_cases hc:c<AA.length
  ·
   have:=KAx.1 h9 c (KAd.2 hc);simp only[VL,KAO,KAN] at this;omega
  . rw[IT,KA9 (by omega)];simp
theorem GD {AA:List (List Dd)}{b:Bd}(h:Ap AA b=true){c:Nat}(hc:c<AA.length):0<=b.AK.getD c 0/\b.AK.getD c 0<=((AA.getD c []).length:Int):=by
 simp only[Ap,KAO] at h;have:=KAx.1 h.2.2.2 c (KAd.2 hc);simp only[VL,KAO,KAN] at this;exact this.1
structure RB (AA:List (List Dd))(b:Bd)(N:Nat->Nat)(m:Nat):Prop where
 work:AL AA=true
 AM:b.AM.length=3
 AQ:b.AQ.length=3
 rws:b.rws.length=3
 AJ:b.AJ.length=AA.length
 AK:b.AK.length=AA.length
 sn:b.sn.length=(AW Af (AB AA)).length
 fr:b.fr.length=(AW Af (AB AA)).length
 vp:∀x∈b.AM,0<=x/\x<=9
 vl:∀x∈b.AQ,0<=x/\x<=((AB AA).length:Int)-1
 vs:∀x∈b.sn,-1<=x/\x<=9
 vf:∀x∈b.fr,-1<=x/\x<=((AB AA).length:Int)-1
 rl:∀p,(b.rws.getD p []).length<=m/\∀x∈b.rws.getD p [],0<=x/\x<=((AB AA).length:Int)-1
 nl:∀c,(b.AJ.getD c []).length<=N c/\∀x∈b.AJ.getD c [],(0<=x.1/\x.1<=2)/\(0<=x.2.1/\x.2.1<=9)/\0<=x.2.2/\x.2.2<=((AB AA).length:Int)-1
 nx:∀c,c<AA.length->0<=b.AK.getD c 0/\b.AK.getD c 0<=((AA.getD c []).length:Int)
theorem Pg {α:Type}{l:List α}{z:α}{i:Nat}(h:¬i<l.length):l.getD i z=z:=by rw[IT,KA9 (by omega)];rfl
theorem IV {α:Type}{l:List α}{z:α}{i:Nat}(h:i<l.length):l.getD i z∈l:=by rw[IT,KAH h];exact KBI h
theorem IB {l:List Int}{lo hi:Int}{most:Nat}(h:JS l lo hi most=true):(∀x∈l,lo<=x/\x<=hi)/\l.length<=most:=by
 simp only[JS,KAO,KAN,KAx] at h;exact h
theorem RB.of {AA:List (List Dd)}{b:Bd}(h:Ap AA b=true){N:Nat->Nat}{m:Nat}(hN:∀c,(b.AJ.getD c []).length<=N c)(hm:∀p,(b.rws.getD p []).length<=m):RB AA b N m:=by
 simp only[Ap,Ip,NM,Jy,KAO,KAN] at h;obtain⟨⟨hw,h1,h2,h3,h4,h5⟩,⟨h6,h7,p1,p2,p3,p4⟩,h8,h9⟩:=h;refine⟨hw,h1,h2,h3,h4,h5,h6,h7,(IB p1).1,(IB p2).1,(IB p3).1,(IB p4).1,fun p=>⟨hm p,?_⟩,fun c=>⟨hN c,?_⟩,fun c hc=>?_⟩
 ·
  by_cases hp:p<3
  . exact (IB (KAx.1 h8 p (KAd.2 hp))).1
  . rw[Pg (by omega)];simp
 ·
  by_cases hc:c<AA.length
  ·
   have:=KAx.1 h9 c (KAd.2 hc);simp only[VL,bJ,rA,KAO,KAN,KAx] at this;exact this.2.2
  . rw[Pg (by omega)];simp
 ·
  have:=KAx.1 h9 c (KAd.2 hc);simp only[VL,KAO,KAN] at this;exact this.1
theorem Nq {α:Type}{l:List α}{i:Nat}{v x:α}(h:x∈l.set i v):x∈l\/x=v:=by
 rcases List.mem_or_eq_of_mem_set h with h|h
 . exact .inl h
 . exact .inr h
theorem Vf {rs:List Int}{ev v:Int}:∀ {l:List Int} {x:Int},x∈Hf rs ev v l->x∈l\/x=v:=by
 induction rs with
 |nil=>intro l x h;simp[Hf] at h
 |cons r t ih=>
  intro l x h
  cases l with
  |nil=>simp[Hf] at h
  |cons y z=>
   simp only[Hf,List.zipWith_cons_cons,KBL] at h;rcases h with h|h
   ·
    split at h
    . exact .inr h
    . exact .inl (by rw[h];simp)
   ·
    rcases ih (l:=z) (x:=x) h with h|h
    . exact .inl (KBT _ h)
    . exact .inr h
theorem RB.see {AA:List (List Dd)}{b:Bd}{N:Nat->Nat}{m:Nat}(h:RB AA b N m)(ev v f:Int)(hv:-1<=v/\v<=9)(hf:-1<=f/\f<=((AB AA).length:Int)-1):RB AA (Fz (AW Af (AB AA)) b ev v f) N m:=
 ⟨h.work,h.AM,h.AQ,h.rws,h.AJ,h.AK,LI h.sn,LI h.fr,h.vp,h.vl,fun x hx=>(Vf hx).elim (h.vs x) (fun e=>e ▸ hv),fun x hx=>(Vf hx).elim (h.vf x) (fun e=>e ▸ hf),h.rl,h.nl,h.nx⟩
theorem RB.Z9 {AA:List (List Dd)}{b:Bd}{N:Nat->Nat}{m:Nat}(h:RB AA b N m)(p:Nat)(v ev:Int)(hv:0<=v/\v<=9)(he:0<=ev/\ev<=((AB AA).length:Int)-1):RB AA (EJ b p v ev) N (m+1):=by
 refine⟨h.work,by rw[<-h.AM];exact KA4,by rw[<-h.AQ];exact KA4,by rw[<-h.rws];exact KA4,h.AJ,h.AK,h.sn,h.fr,fun x hx=>(Nq hx).elim (h.vp x) (fun e=>e ▸ hv),fun x hx=>(Nq hx).elim (h.vl x) (fun e=>e ▸ he),h.vs,h.vf,fun q=>?_,h.nl,h.nx⟩;show ((b.rws.set p (b.rws.getD p []++[ev])).getD q []).length<=m+1/\∀x∈(b.rws.set p (b.rws.getD p []++[ev])).getD q [],_;by_cases hp:p<b.rws.length
 ·
  rw[DC _ _ _ _ _ hp];by_cases e:p=q
  ·
   rw[KAP e];refine⟨by have:=(h.rl p).1;rw[KAJ,KA5];omega,fun x hx=>?_⟩;rcases KA0.1 hx with hx|hx
   . exact (h.rl p).2 x hx
   . rw[KBD.1 hx];exact he
  ·
   rw[KAQ e];exact⟨by have:=(h.rl q).1;omega,(h.rl q).2⟩
 ·
  rw[List.set_eq_of_length_le (by omega)];exact⟨by have:=(h.rl q).1;omega,(h.rl q).2⟩
theorem RB.note {AA:List (List Dd)}{b:Bd}{N N':Nat->Nat}{m:Nat}(h:RB AA b N m)(c:Nat)(l:List Nt)(hl:∀x∈l,(0<=x.1/\x.1<=2)/\(0<=x.2.1/\x.2.1<=9)/\0<=x.2.2/\x.2.2<=((AB AA).length:Int)-1)(hn:l.length<=N' c)(hN:∀i,i≠c->N i<=N' i)(hc:c<AA.length):RB AA { b with AJ:=b.AJ.set c l } N' m:=by
 refine⟨h.work,h.AM,h.AQ,h.rws,by rw[<-h.AJ];exact KA4,h.AK,h.sn,h.fr,h.vp,h.vl,h.vs,h.vf,h.rl,fun i=>?_,h.nx⟩;show ((b.AJ.set c l).getD i []).length<=N' i/\∀x∈(b.AJ.set c l).getD i [],_;rw[DC _ _ _ _ _ (by rw[h.AJ];exact hc)];by_cases e:c=i
 ·
  rw[KAP e,<-e];exact⟨hn,hl⟩
 ·
  rw[KAQ e];exact⟨KAU (h.nl i).1 (hN i (Ne.symm e)),(h.nl i).2⟩
theorem RB.next {AA:List (List Dd)}{b:Bd}{N:Nat->Nat}{m:Nat}(h:RB AA b N m)(c:Nat)(x:Int)(hx:0<=x/\x<=((AA.getD c []).length:Int)):RB AA { b with AK:=b.AK.set c x } N m:=by
 refine⟨h.work,h.AM,h.AQ,h.rws,h.AJ,by rw[<-h.AK];exact KA4,h.sn,h.fr,h.vp,h.vl,h.vs,h.vf,h.rl,h.nl,fun i hi=>?_⟩;show 0<=(b.AK.set c x).getD i 0/\(b.AK.set c x).getD i 0<=_;by_cases hc:c<b.AK.length
 ·
  rw[DC _ _ _ _ _ hc];by_cases e:c=i
  . rw[KAP e,<-e];exact hx
  . rw[KAQ e];exact h.nx i hi
 . rw[List.set_eq_of_length_le (by omega)];exact h.nx i hi
theorem RB.more {AA:List (List Dd)}{b:Bd}{N N':Nat->Nat}{m m':Nat}(h:RB AA b N m)(hN:∀c,N c<=N' c)(hm:m<=m'):RB AA b N' m':=
 ⟨h.work,h.AM,h.AQ,h.rws,h.AJ,h.AK,h.sn,h.fr,h.vp,h.vl,h.vs,h.vf,fun p=>⟨KAU (h.rl p).1 hm,(h.rl p).2⟩,fun c=>⟨KAU (h.nl c).1 (hN c),(h.nl c).2⟩,h.nx⟩
theorem RB.rdg {AA:List (List Dd)}{b:Bd}{N:Nat->Nat}{m:Nat}(h:RB AA b N m)(c:Nat){p:Nat}(hp:p<3):(0<=(C7 b c p).1/\(C7 b c p).1<=9)/\0<=(C7 b c p).2/\(C7 b c p).2<=((AB AA).length:Int)-1:=by
 unfold C7
 cases e:(b.AJ.getD c []).reverse.find? (fun x=>x.1==(p:Int)) with
 |some x=>
  have hx:=List.mem_reverse.1 (List.mem_of_find?_eq_some e);exact ((h.nl c).2 x hx).2
 |none=>exact⟨h.vp _ (IV (by rw[h.AM];exact hp)),h.vl _ (IV (by rw[h.AQ];exact hp))⟩
theorem S7 {d:Dd}(h:Fy d=true):(0<=d.2.2.1/\d.2.2.1<=9)/\0<=d.2.2.2:=by
 obtain⟨k,p,v,g⟩:=d;simp only[Fy,Ec,KAN] at h;show (0<=v/\v<=9)/\0<=g;by_cases e:k=2\/k=3
 . have:=h.2.2.2.2.2.1 e;omega
 . have:=h.2.2.2.2.2.2 e;omega
theorem VP {AA:List (List Dd)}(hb:AL AA=true){c k:Nat}(hc:c<AA.length)(hk:k<(AA.getD c []).length):
  (∃p:Nat,p<3/\(Aj AA c k).2.1=(p:Int))/\(0<=(Aj AA c k).2.2.1/\(Aj AA c k).2.2.1<=9)/\((Aj AA c k).1=1\/(Aj AA c k).1=2\/(Aj AA c k).1=3\/(Aj AA c k).1=4)/\0<=BP AA c k /\
  ((Aj AA c k).1≠4->0<=LR (AB AA) c k/\LR (AB AA) c k<=((AB AA).length:Int)-1)/\((Aj AA c k).1=3->LR (AB AA) c k+1<=((AB AA).length:Int)-1):=by
 have ho:=CV hb hc k hk;have hd:=Cf ho;have hev:(Aj AA c k).1≠4->∀i,i<Fp (Aj AA c k)->3<=AZ AA c k+i/\AZ AA c k+i<(AB AA).length:=fun h4 i hi=>Ea.lt hb ⟨hc,hk,hi,rfl⟩
 refine⟨JM hb hc hk,?_,hd,?_,fun h4=>?_,fun h3=>?_⟩
 . exact (S7 ho).1
 . exact (S7 ho).2
 ·
  rw[Jp hb hc hk h4];have:=hev h4 0 (by unfold Fp;rw[KAQ h4];split<;>omega);omega
 ·
  have h4:(Aj AA c k).1≠4:=by omega
  rw[Jp hb hc hk h4];have:=hev h4 1 (by unfold Fp;rw[KAQ h4,KAP h3];omega);omega
theorem BM {AA:List (List Dd)}(h:AL AA=true):AA.length<=3/\∀i,i<AA.length->GQ (AA.getD i [])=true:=by
 simp only[AL,KAO,KAN] at h;obtain⟨⟨⟨⟨h1,h2⟩,_⟩,_⟩,_⟩:=h;exact⟨h1.2,fun i hi=>Bm [] h2 i hi⟩
theorem Zg {AA:List (List Dd)}(h:AL AA=true):(BB AA AA.length).length<=9:=by
 simp only[AL,KAO,KAN] at h;obtain⟨⟨⟨⟨_,h2⟩,_⟩,h4⟩,_⟩:=h;have:=IR (fun i hi=>Bm [] h2 i hi) AA.length (KAM _);omega
theorem RB.deed {AA:List (List Dd)}{b:Bd}{N:Nat->Nat}{m:Nat}(h:RB AA b N m){c k:Nat}(hc:c<AA.length)(hk:k<(AA.getD c []).length):
  RB AA (BL AA (AB AA) b c k) (fun i=>if i=c/\BP AA c k=0 then N i+1 else N i) (m+1):=by
 obtain⟨⟨p,hp,ep⟩,hv,hd,hg,he,he3⟩:=VP h.work hc hk
 have hN:∀i,N i<=(fun i=>if i=c/\BP AA c k=0 then N i+1 else N i) i:=fun i=>by
  show N i<=if _ then _ else _
  split
  . exact KCi _
  . exact KAM _
 have hP:(Aj AA c k).2.1.toNat=p:=by omega
 have hr:=h.rdg c hp;unfold BL;rw[hP];split
 . exact (h.see _ _ _ ⟨by omega,by omega⟩ ⟨by omega,by omega⟩).more hN (KCi m)
 ·
  rename_i h1;split
  ·
   rename_i h3;have e1:=he (by omega);have e2:=he3 h3;have q1:=h.vp _ (IV (z:=0) (show p<b.AM.length by rw[h.AM];exact hp));have q2:=h.vl _ (IV (z:=0) (show p<b.AQ.length by rw[h.AQ];exact hp));exact ((h.see _ _ _ ⟨by omega,by omega⟩ ⟨by omega,by omega⟩).Z9 p _ _ hv ⟨by omega,by omega⟩).more hN (KAM _)
  ·
   rename_i h3;split
   ·
    rename_i h2;exact (h.Z9 p _ _ hv (he (by omega))).more hN (KAM _)
   ·
    rename_i h2;split
    ·
     rename_i h2'
     have g0:BP AA c k=0:=by
      by_cases e:BP AA c k=0
      . exact e
      . exact absurd ⟨h2',by omega⟩ h2
     have e1:=he (by omega);refine (h.note (N':=fun i=>if i=c/\BP AA c k=0 then N i+1 else N i) c _ (fun x hx=>?_) ?_ (fun i _=>hN i) hc).more (fun _=>KAM _) (KCi m)
     ·
      rcases KA0.1 hx with hx|hx
      . exact (h.nl c).2 x hx
      ·
       rw[KBD.1 hx];exact⟨⟨by show 0<=(Aj AA c k).2.1;omega,by show (Aj AA c k).2.1<=2;omega⟩,hv,e1⟩
     ·
      show _<=if c=c/\BP AA c k=0 then N c+1 else N c
      rw[KAP ⟨rfl,g0⟩,KAJ,KA5];have:=(h.nl c).1;omega
    . exact h.more hN (KCi m)
theorem RB.one {AA:List (List Dd)}{b:Bd}{N:Nat->Nat}{m:Nat}(h:RB AA b N m){c:Nat}(hc:c<AA.length)(hk:Am b c<(AA.getD c []).length):
  RB AA (Ah AA (AB AA) b c) (fun i=>if i=c/\BP AA c (Am b c)=0 then N i+1 else N i) (m+1):=by
 have h0:=h.nx c hc;have hn:(Am b c:Int)=b.AK.getD c 0:=by unfold Am;omega
 have:=(h.deed hc hk).next c (b.AK.getD c 0+1) ⟨by omega,by omega⟩;rw[M8] at this;exact this
theorem RB.go {AA:List (List Dd)}{c:Nat}(hc:c<AA.length){g:Int}(hg:g≠0){N:Nat->Nat}:∀(k m:Nat) (b:Bd),RB AA b N m->Am b c<(AA.getD c []).length->BP AA c (Am b c)=g->RB AA (FF AA (AB AA) g c k b) N (m+k)
 | 0,m,b,h,_,_=>by rw[FF];exact h
 |k+1,m,b,h,hk,e=>by
  have h1:=h.one hc hk
  have hs:(fun i=>if i=c/\BP AA c (Am b c)=0 then N i+1 else N i)=N:=by
   funext i;rw[KAQ (fun hh=>hg (by rw[<-e];exact hh.2))]
  rw[hs] at h1;rw[FF];split
  . exact h1.more (fun _=>KAM _) (by omega)
  ·
   rename_i hn;have hx:=h1.nx c hc;have hz:((Am (Ah AA (AB AA) b c) c:Nat):Int)=(Ah AA (AB AA) b c).AK.getD c 0:=by unfold Am;omega
   have:=RB.go hc hg k (m+1) _ h1 (by omega) (by
    by_cases e':BP AA c (Am (Ah AA (AB AA) b c) c)=g
    . exact e'
    . exact absurd (.inr (.inr e')) hn)
   exact this.more (fun _=>KAM _) (by omega)
theorem Xb {AA:List (List Dd)}{es:List Ev}{c k:Nat}(hk:0<k)(b:Bd):FF AA es 0 c k b=Ah AA es b c:=by
 cases k with
 |zero=>omega
 |succ k=>rw[FF,KAP (.inl rfl)]
theorem VF {AA:List (List Dd)}{b:Bd}{c:Nat}(h:Ce AA b c=true):Am b c<(AA.getD c []).length/\(((Aj AA c (Am b c)).1<=2/\BP AA c (Am b c)=0)\/b.AJ.getD c []=[]):=by
 simp only[Ce,KAO,KBw,KAN,KDD] at h;exact h
theorem Dy {AA:List (List Dd)}(h:AL AA=true){c:Nat}(hc:c<AA.length):(AA.getD c []).length<=5:=by
 simp only[AL,KAO,KAx] at h;have:=h.1.1.1.2 _ (IV (z:=[]) hc);simp only[GQ,KAO,KAN] at this;exact this.2
theorem RB.stepped {AA:List (List Dd)}{b:Bd}{n m:Nat}(h:RB AA b (fun _=>n) m){c:Nat}(hc:c<AA.length)(hcan:Ce AA b c=true)(c10:c<10):RB AA (Ar AA (AB AA) b (c:Int)) (fun _=>n+1) (m+5):=by
 obtain⟨hk,-⟩:=VF hcan;have h5:=Dy h.work hc;unfold Ar;rw[KAQ (by omega),KAV];by_cases g0:BP AA c (Am b c)=0
 ·
  rw[g0,Xb (by omega)];refine (h.one hc hk).more (fun i=>?_) (by omega);show (if _ then n+1 else n)<=n+1;split
  . exact KAM _
  . exact KCi _
 . exact (RB.go hc g0 _ _ _ h hk rfl).more (fun _=>KCi _) (by omega)
def Dk (w:World)(g:Nat)(zs:List Int):Prop:=
 ∃(cur:Array Value) (e:TypeId),w.heap[g]? = some (.cells cur e (0,0))/\cur.toList.take zs.length=zs.map (Value.int .i64)
theorem Dk.lt {w:World}{g:Nat}{zs:List Int}(h:Dk w g zs):g<w.heap.size:=by
 obtain⟨cur,e,hh,_⟩:=h;exact (KAm.1 hh).1
theorem Dk.cell {w:World}{g:Nat}{zs:List Int}(h:Dk w g zs){j:Nat}(hj:j<zs.length):w.cell? ⟨g,j,none⟩=some (.int .i64 (zs.getD j 0)):=by
 obtain⟨cur,e,hh,ht⟩:=h;rw[KAL w g j cur e (0,0) hh];have h1:(cur.toList.take zs.length)[j]? = (zs.map (Value.int .i64))[j]?:=by rw[ht]
 rw[KCK,KAP hj,KBN,KAH hj] at h1;rw[IT,KAH hj]
 simpa using h1
theorem Dk.free {w:World}{g:Nat}{zs:List Int}(h:Dk w g zs)(j:Nat):w.frozen? ⟨g,j,none⟩=false:=by
 obtain⟨cur,e,hh,_⟩:=h;exact KA1 w g j _ _ hh
theorem Dk.kept {w w':World}{g:Nat}{zs:List Int}{row:Option Nat}(h:Dk w g zs)(hg:w.grownBy w' row)(hne:row≠some g):Dk w' g zs:=by
 have hlt:=h.lt;obtain⟨cur,e,hh,ht⟩:=h;exact⟨cur,e,by rw[hg.block g hlt (fun e=>hne e.symm)];exact hh,ht⟩
theorem Dk.keep {w w':World}{g:Nat}{zs:List Int}(h:Dk w g zs)(k:AC w w'):Dk w' g zs:=h.kept k.grownBy (by simp)
theorem Ad (w:World)(g j:Nat)(v:Value):w.grownBy (w.setCell ⟨g,j,none⟩ v) (some g):=
 ⟨rfl,rfl,rfl,by simp,fun k _ hk=>KBM w ⟨g,j,none⟩ k v (fun e=>hk (by simp[e]))⟩
theorem UM (w:World)(n:Nat)(row:Option Nat):w.grownBy (w.drewN n) row:=⟨rfl,rfl,rfl,KAM _,fun _ _ _=>rfl⟩
theorem G6 (w:World)(row:Option Nat):w.grownBy w.drew row:=⟨rfl,rfl,rfl,KAM _,fun _ _ _=>rfl⟩
theorem Rb (l:List Value)(zs:List Int)(j:Nat)(x:Int)(h:l.take zs.length=zs.map (Value.int .i64)):
  (l.set j (.int .i64 x)).take (zs.set j x).length=(zs.set j x).map (Value.int .i64):=by
 rw[KA4,List.take_set,h,List.map_set]
theorem Dk.set {w:World}{g:Nat}{zs:List Int}(h:Dk w g zs)(j:Nat)(x:Int):Dk (w.setCell ⟨g,j,none⟩ (.int .i64 x)) g (zs.set j x):=by
 obtain⟨cur,e,hh,ht⟩:=h;refine⟨cur.setIfInBounds j (.int .i64 x),e,?_,?_⟩
 . rw[KAt w g j _ _ _ hh]
 ·
  rw[KCL];exact Rb _ zs j x ht
def U7 (w:World)(base:Nat)(v:Value)(zs:List Int):Prop:=
 (v = .slice none 0 0/\zs=[])\/∃g cap,v = .slice (some ⟨g,0,none⟩) zs.length cap/\base<=g/\Dk w g zs
theorem A8.row {w:World}{base:Nat}{v:Value}{zs:List Int}(h:A8 w base v zs):U7 w base v zs:=by
 rcases h.2 with ⟨rfl,hn⟩|⟨g,cap,cur,rfl,hb,hg,_,_,_,ht⟩
 . exact .inl ⟨rfl,KAZ hn⟩
 . exact .inr ⟨g,cap,rfl,hb,cur,_,hg,by rw[KCj] at ht;exact ht⟩
theorem U7.lt {w:World}{base:Nat}{v:Value}{zs:List Int}(h:U7 w base v zs):∀k,v.ownBlock=some k->base<=k/\k<w.heap.size:=by
 intro k hk;rcases h with ⟨rfl,_⟩|⟨g,cap,rfl,hb,hr⟩
 . simp[Value.ownBlock] at hk
 . simp[Value.ownBlock] at hk;subst hk;exact⟨hb,hr.lt⟩
theorem U7.kept {w w':World}{base:Nat}{v:Value}{zs:List Int}{row:Option Nat}(h:U7 w base v zs)(hg:w.grownBy w' row)(hne:v.ownBlock=none\/v.ownBlock≠row):U7 w' base v zs:=by
 rcases h with h|⟨g,cap,rfl,hb,hr⟩
 . exact .inl h
 ·
  refine .inr ⟨g,cap,rfl,hb,hr.kept hg ?_⟩;simp[Value.ownBlock] at hne;exact fun e=>hne e.symm
theorem U7.keep {w w':World}{base:Nat}{v:Value}{zs:List Int}(h:U7 w base v zs)(k:AC w w'):U7 w' base v zs:=
 h.kept k.grownBy (by cases v.ownBlock<;>simp)
theorem U7.rd {w:World}{base:Nat}{v:Value}{zs:List Int}(h:U7 w base v zs):Rd w v zs:=by
 rcases h with ⟨rfl,rfl⟩|⟨g,cap,rfl,hb,hr⟩
 . exact⟨none,0,rfl,.inl rfl⟩
 . exact⟨some ⟨g,0,none⟩,cap,rfl,.inr ⟨g,0,rfl,hr.lt,fun i hi=>by rw[KBC];exact hr.cell hi⟩⟩
end Go.Proofs.YtflehmepjhikcaaGreatDoor
