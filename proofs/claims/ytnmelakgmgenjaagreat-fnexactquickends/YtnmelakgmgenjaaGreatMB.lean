/- Gathered texts. -/
import Derived.Test.YtnmelakgmgenjaaGreatMA
set_option maxRecDepth 100000
set_option maxHeartbeats 8000000
namespace Go.Proofs.YtnmelakgmgenjaaGreat
open Go.RowKit
structure UF where
 n:Nat
 ck:Nat->Int
 pl:Nat->Nat
 rd:Nat->Bool
 cs:Nat->Int
 ex:Nat->Nat->Bool
structure Ax where
 X:Nat->Prop
 N:Int->List Nat
 R:Nat->List Nat
 F:Nat->Nat
 τ:Nat->Nat
def Ax.L (S:UF)(s:Ax)(c:Int)(p:Nat):List Nat:=s.R p++(s.N c).filter (fun x=>S.pl x==p)
def Ax.D (S:UF)(s:Ax)(j:Nat):Prop:=s.X j/\j∉s.N (S.ck j)
def Ax.v (S:UF)(s:Ax)(i:Nat):Nat:=if S.rd i=true then s.F i else i
abbrev Yg (L:List Nat)(x y:Nat):Prop:=[x,y].Sublist L
structure Fk (S:UF)(s:Ax)(T:Nat)(z:Int):Prop where
 EZ:∀j,j<3->s.X j/\S.rd j=false/\S.pl j=j/\S.ck j=-1/\s.τ j=0/\S.cs j=j
 lt:∀j,s.X j->j<S.n
 down:∀i j,s.X j->3<=i->i<j->S.ck i=S.ck j->s.X i
 note:∀c x,x∈s.N c->s.X x/\3<=x/\S.ck x=c/\S.rd x=false
 Lh:∀c,(s.N c).Pairwise (·<·)
 pend:∀c x j,x∈s.N c->s.X j->x<j->S.ck j=c->(S.rd j=true/\S.ex x j=true)\/j∈s.N c
 rows:∀p x,x∈s.R p↔s.D S x/\S.rd x=false/\S.pl x=p
 Ln:∀p,(s.R p).Nodup
 TR:∀p,(s.R p).Pairwise (fun x y=>s.τ x<=s.τ y)
 PG:∀j,s.D S j->s.τ j<=T
 tpos:∀j,s.D S j->3<=j->1<=s.τ j
 same:∀i j,s.D S i->s.D S j->3<=i->3<=j->s.τ i=s.τ j->S.cs i=S.cs j
 Qy:∀i j,s.D S i->s.D S j->3<=i->3<=j->S.cs i=S.cs j->s.τ i=s.τ j
 now:∀i,s.D S i->3<=i->(s.τ i=T↔S.cs i=z)
 kept:∀i j,s.D S i->s.D S j->3<=i->i<j->S.ck i=S.ck j->S.cs i≠S.cs j->S.ex i j=false->s.τ i<s.τ j
 src:∀r,s.X r->S.rd r=true->s.X (s.F r)/\S.rd (s.F r)=false/\S.pl (s.F r)=S.pl r/\((3<=s.F r/\S.ck (s.F r)=S.ck r)\/(s.D S (s.F r)/\s.τ (s.F r)<=s.τ r))
 Mx:∀r w p,s.X r->S.rd r=true->Yg (s.R p) (s.F r) w->s.τ r<=s.τ w
 Xq:∀i,s.X i->3<=i->s.v S i∈s.L S (S.ck i) (S.pl i)
 gm:∀i j,s.X i->s.X j->3<=i->i<j->S.ck i=S.ck j->S.pl i=S.pl j->s.v S i=s.v S j\/Yg (s.L S (S.ck i) (S.pl i)) (s.v S i) (s.v S j)
 SK:∀i j,s.X i->s.X j->3<=i->i<j->S.ck i=S.ck j->S.pl i=S.pl j->S.rd i=true->S.rd j=false->s.F i≠j
structure tY (S:UF)(s:Ax)(j:Nat):Prop where
 three:3<=j
 lt:j<S.n
 new:¬s.X j
 all:∀i,3<=i->i<j->S.ck i=S.ck j->s.X i
 last:∀i,s.X i->3<=i->S.ck i=S.ck j->i<j
theorem J4 {L:List Nat}{x y:Nat}(h:Yg L x y):x∈L/\y∈L:=⟨h.subset (by simp),h.subset (by simp)⟩
theorem M4 {L:List Nat}{x w:Nat}(h:x∈L):Yg (L++[w]) x w:=by
 have h1:[x].Sublist L:=List.singleton_sublist.2 h;exact h1.append (List.Sublist.refl [w])
theorem ZK {L:List Nat}{x y:Nat}(hn:(L++[x]).Nodup)(h:Yg (L++[x]) x y):False:=by
 have h2:¬x∈L:=by
  rw[List.nodup_append] at hn;intro hx;exact hn.2.2 x hx x (by simp) rfl
 obtain⟨l1,l2,e,s1,s2⟩:=List.sublist_append_iff.1 h
 cases l1 with
 |nil=>
  simp only[List.nil_append] at e;rw[<-e] at s2;have:=s2.length_le;simp at this
 |cons a l1=>
  simp only[List.cons_append,List.cons.injEq] at e;rw[<-e.1] at s1;exact h2 (s1.subset (by simp))
theorem J5 {L:List Nat}{x y w:Nat}(h:Yg (L++[w]) x y)(hy:y≠w):Yg L x y:=by
 obtain⟨l1,l2,e,s1,s2⟩:=List.sublist_append_iff.1 h
 have hl2:l2=[]:=by
  cases l2 with
  |nil=>rfl
  |cons a l2=>
   have hl:=s2.length_le;simp at hl;subst hl;have ha:a=w:=by simpa using s2
   have:y=a:=by
    have:=congrArg List.getLast? e
    simpa using this
   exact absurd (this.trans ha) hy
 subst hl2;rw[List.append_nil] at e;rw[<-e] at s1;exact s1
theorem R5 {L:List Nat}{x:Nat}(hx:x∈L){l:Nat}(hl:L.getLast? = some l):x=l\/Yg L x l:=by
 obtain⟨L',rfl⟩:=List.getLast?_eq_some_iff.1 hl;rw[List.mem_append] at hx;rcases hx with hx|hx
 . exact .inr (M4 hx)
 . exact .inl (by simpa using hx)
theorem Fk.P9 {S:UF}{s:Ax}{T:Nat}{z:Int}(h:Fk S s T z){r:Nat}(hx:s.X r)(hr:S.rd r=true):s.D S r:=
 ⟨hx,fun hn=>by have:=(h.note _ _ hn).2.2.2;rw[hr] at this;cases this⟩
theorem Fk.tick {S:UF}{s:Ax}{T:Nat}{z:Int}(h:Fk S s T z)(z':Int)(hz:∀i,s.D S i->3<=i->S.cs i≠z'):Fk S s (T+1) z':=
 { h with
  PG:=fun j hj=>Nat.le_succ_of_le (h.PG j hj)
  now:=fun i hi h3=>⟨fun e=>by have:=h.PG i hi;omega,fun e=>absurd e (hz i hi h3)⟩ }
def Ax.FF (S:UF)(s:Ax)(j:Nat):Ax:={ s with X:=fun i=>s.X i\/i=j,N:=fun c=>if c=S.ck j then s.N c++[j] else s.N c }
def Ax.DL (s:Ax)(T j f:Nat):Ax:={ s with X:=fun i=>s.X i\/i=j,F:=fun i=>if i=j then f else s.F i,τ:=fun i=>if i=j then T else s.τ i }
def Ax.Dn (S:UF)(s:Ax)(T j:Nat):Ax:={ s with X:=fun i=>s.X i\/i=j,R:=fun p=>if p=S.pl j then s.R p++[j] else s.R p,τ:=fun i=>if i=j then T else s.τ i }
def Ax.Cg (S:UF)(s:Ax)(T:Nat)(c:Int)(x:Nat)(rest:List Nat):Ax:={ s with N:=fun c'=>if c'=c then rest else s.N c',R:=fun p=>if p=S.pl x then s.R p++[x] else s.R p,τ:=fun i=>if i=x then T else s.τ i }
theorem Fk.FF {S:UF}{s:Ax}{T:Nat}{z:Int}(h:Fk S s T z){j:Nat}(hn:tY S s j)(hr:S.rd j=false):Fk S (s.FF S j) T z:=by
 have hne:∀i,s.X i->i≠j:=fun i hi e=>hn.new (by rw[<-e];exact hi)
 have PC:∀c x,x∈(s.FF S j).N c↔x∈s.N c\/(c=S.ck j/\x=j):=by
  intro c x;show x∈(if c=S.ck j then s.N c++[j] else s.N c)↔_;split
  . rename_i e;simp[e]
  . rename_i e;simp[e]
 have hD:∀i,(s.FF S j).D S i↔s.D S i:=by
  intro i;unfold Ax.D;rw[PC];show ((s.X i\/i=j)/\_)↔_;constructor
  ·
   rintro⟨h1|rfl,h2⟩
   . exact⟨h1,fun hm=>h2 (.inl hm)⟩
   . exact absurd (.inr ⟨rfl,rfl⟩) h2
  ·
   rintro⟨h1,h2⟩;refine⟨.inl h1,?_⟩;rintro (hm|⟨_,e⟩)
   . exact h2 hm
   . exact hne i h1 e
 have hsub:∀c p,(s.L S c p).Sublist ((s.FF S j).L S c p):=by
  intro c p;refine List.Sublist.append (List.Sublist.refl _) ?_;show List.Sublist _ ((if c=S.ck j then s.N c++[j] else s.N c).filter _);split
  . rw[List.filter_append];exact List.sublist_append_left _ _
  . exact List.Sublist.refl _
 have hlast:(s.FF S j).L S (S.ck j) (S.pl j)=s.L S (S.ck j) (S.pl j)++[j]:=by
  unfold Ax.L Ax.FF;simp[List.filter_append]
 have hv:∀i,(s.FF S j).v S i=s.v S i:=fun i=>rfl
 have nA:s.v S j=j:=by unfold Ax.v;rw[hr];rfl
 refine { h with EZ:=fun i hi=>⟨.inl (h.EZ i hi).1,(h.EZ i hi).2⟩,lt:=?_,down:=?_,note:=?_,Lh:=?_,pend:=?_,rows:=?_,PG:=?_,tpos:=?_,same:=?_,Qy:=?_,now:=?_,kept:=?_,src:=?_,Mx:=?_,Xq:=?_,gm:=?_,SK:=?_ }
 ·
  rintro i (hi|rfl)
  . exact h.lt i hi
  . exact hn.lt
 ·
  rintro i k (hk|rfl) h3 hik hc
  . exact .inl (h.down i k hk h3 hik hc)
  . exact .inl (hn.all i h3 hik hc)
 ·
  intro c x hx;rcases (PC c x).1 hx with hx|⟨rfl,rfl⟩
  . exact⟨.inl (h.note c x hx).1,(h.note c x hx).2⟩
  . exact⟨.inr rfl,hn.three,rfl,hr⟩
 ·
  intro c;show (if c=S.ck j then s.N c++[j] else s.N c).Pairwise _;split
  ·
   rename_i e;rw[List.pairwise_append];refine⟨h.Lh c,by simp,fun x hx y hy=>?_⟩;have hy':y=j:=by simpa using hy
   subst hy';have hq:=h.note c x hx;exact hn.last x hq.1 hq.2.1 (by rw[hq.2.2.1,e])
  . exact h.Lh c
 ·
  intro c x k hx hk hxk hc;rcases (PC c x).1 hx with hx|⟨rfl,rfl⟩
  ·
   rcases hk with hk|rfl
   ·
    rcases h.pend c x k hx hk hxk hc with hp|hp
    . exact .inl hp
    . exact .inr ((PC c k).2 (.inl hp))
   . exact .inr ((PC c k).2 (.inr ⟨hc.symm,rfl⟩))
  ·
   rcases hk with hk|rfl
   . have:=hn.last k hk (by have:=hn.three;omega) hc;omega
   . omega
 . intro p x;rw[hD];exact h.rows p x
 . intro i hi;exact h.PG i ((hD i).1 hi)
 . intro i hi;exact h.tpos i ((hD i).1 hi)
 . intro i k hi hk;exact h.same i k ((hD i).1 hi) ((hD k).1 hk)
 . intro i k hi hk;exact h.Qy i k ((hD i).1 hi) ((hD k).1 hk)
 . intro i hi;exact h.now i ((hD i).1 hi)
 . intro i k hi hk;exact h.kept i k ((hD i).1 hi) ((hD k).1 hk)
 ·
  rintro r (hx|rfl) hrd
  ·
   obtain⟨a,b,c,d⟩:=h.src r hx hrd;exact⟨.inl a,b,c,d.imp id (fun d=>⟨(hD _).2 d.1,d.2⟩)⟩
  . rw[hr] at hrd;cases hrd
 ·
  rintro r w p (hx|rfl) hrd hb
  . exact h.Mx r w p hx hrd hb
  . rw[hr] at hrd;cases hrd
 ·
  rintro i (hi|rfl) h3
  . exact (hsub _ _).subset (h.Xq i hi h3)
  . rw[hlast,hv,nA];simp
 ·
  rintro i k (hi|rfl) (hk|rfl) h3 hik hc hp
  . exact (h.gm i k hi hk h3 hik hc hp).imp id (fun hb=>hb.trans (hsub _ _))
  ·
   refine .inr ?_;rw[hc,hp,hlast,hv,hv,nA,<-hc,<-hp];exact M4 (h.Xq i hi h3)
  . have:=hn.last k hk (by omega) hc.symm;omega
  . omega
 ·
  rintro i k (hi|rfl) (hk|rfl) h3 hik hc hp h1 h2
  . exact h.SK i k hi hk h3 hik hc hp h1 h2
  . exact hne _ (h.src i hi h1).1
  . have:=hn.last k hk (by omega) hc.symm;omega
  . omega
theorem Fk.DL {S:UF}{s:Ax}{T:Nat}{z:Int}(h:Fk S s T z)(hT:1<=T){j f:Nat}(hn:tY S s j)(hr:S.rd j=true)(hz:S.cs j=z)(hex:∀x,x∈s.N (S.ck j)->S.ex x j=true)
  (hf:(s.L S (S.ck j) (S.pl j)).getLast? = some f):Fk S (s.DL T j f) T z:=by
 have hne:∀i,s.X i->i≠j:=fun i hi e=>hn.new (by rw[<-e];exact hi)
 have hD:∀i,(s.DL T j f).D S i↔s.D S i\/i=j:=by
  intro i;show ((s.X i\/i=j)/\i∉s.N (S.ck i))↔_;constructor
  ·
   rintro⟨h1|rfl,h2⟩
   . exact .inl ⟨h1,h2⟩
   . exact .inr rfl
  ·
   rintro (⟨h1,h2⟩|rfl)
   . exact⟨.inl h1,h2⟩
   . exact⟨.inr rfl,fun hm=>hn.new (h.note _ _ hm).1⟩
 have hτ:∀i,i≠j->(s.DL T j f).τ i=s.τ i:=fun i hi=>by show (if i=j then T else s.τ i)=_;rw[if_neg hi]
 have Ph:(s.DL T j f).τ j=T:=by show (if j=j then T else s.τ j)=T;rw[if_pos rfl]
 have hF:∀i,i≠j->(s.DL T j f).F i=s.F i:=fun i hi=>by show (if i=j then f else s.F i)=_;rw[if_neg hi]
 have hFj:(s.DL T j f).F j=f:=by show (if j=j then f else s.F j)=f;rw[if_pos rfl]
 have hv:∀i,i≠j->(s.DL T j f).v S i=s.v S i:=fun i hi=>by unfold Ax.v;rw[hF i hi]
 have nA:(s.DL T j f).v S j=f:=by unfold Ax.v;rw[hr,hFj];rfl
 have hfm:f∈s.L S (S.ck j) (S.pl j):=List.mem_of_getLast? hf
 have hfX:s.X f/\S.rd f=false/\S.pl f=S.pl j/\((3<=f/\S.ck f=S.ck j/\f∈s.N (S.ck j))\/s.D S f):=by
  unfold Ax.L at hfm;rw[List.mem_append,List.mem_filter] at hfm;rcases hfm with hm|⟨hm,hp⟩
  ·
   obtain⟨a,b,c⟩:=(h.rows _ _).1 hm;exact⟨a.1,b,c,.inr a⟩
  ·
   obtain⟨a,b,c,d⟩:=h.note _ _ hm;exact⟨a,d,by simpa using hp,.inl ⟨b,c,hm⟩⟩
 refine { h with EZ:=fun i hi=>⟨.inl (h.EZ i hi).1,(h.EZ i hi).2.1,(h.EZ i hi).2.2.1,(h.EZ i hi).2.2.2.1,by rw[hτ i (hne i (h.EZ i hi).1)];exact (h.EZ i hi).2.2.2.2.1,(h.EZ i hi).2.2.2.2.2⟩,lt:=?_,down:=?_,note:=?_,pend:=?_,rows:=?_,TR:=?_,PG:=?_,tpos:=?_,same:=?_,Qy:=?_,now:=?_,kept:=?_,src:=?_,Mx:=?_,Xq:=?_,gm:=?_,SK:=?_ }
 ·
  rintro i (hi|rfl)
  . exact h.lt i hi
  . exact hn.lt
 ·
  rintro i k (hk|rfl) h3 hik hc
  . exact .inl (h.down i k hk h3 hik hc)
  . exact .inl (hn.all i h3 hik hc)
 ·
  intro c x hx;exact⟨.inl (h.note c x hx).1,(h.note c x hx).2⟩
 ·
  rintro c x k hx (hk|rfl) hxk hc
  . exact h.pend c x k hx hk hxk hc
  . exact .inl ⟨hr,hex x (by rw[hc];exact hx)⟩
 ·
  intro p x;rw[hD];refine (h.rows p x).trans ⟨fun ⟨a,b⟩=>⟨.inl a,b⟩,fun ⟨a,b⟩=>⟨a.resolve_right (fun e=>?_),b⟩⟩;rw[e,hr] at b;cases b.1
 ·
  intro p;refine (h.TR p).imp_of_mem (fun {x y} hx hy hxy=>?_);rw[hτ x (hne x ((h.rows p x).1 hx).1.1),hτ y (hne y ((h.rows p y).1 hy).1.1)];exact hxy
 ·
  intro i hi;rcases (hD i).1 hi with hi|rfl
  . rw[hτ i (hne i hi.1)];exact h.PG i hi
  . rw[Ph];exact Nat.le_refl _
 ·
  intro i hi h3;rcases (hD i).1 hi with hi|rfl
  . rw[hτ i (hne i hi.1)];exact h.tpos i hi h3
  . rw[Ph];exact hT
 ·
  intro i k hi hk h3 h3' e;rcases (hD i).1 hi with ai|rfl<;>rcases (hD k).1 hk with ak|rfl
  . rw[hτ i (hne i ai.1),hτ k (hne k ak.1)] at e;exact h.same i k ai ak h3 h3' e
  . rw[hτ i (hne i ai.1),Ph] at e;rw[hz];exact (h.now i ai h3).1 e
  . rw[hτ k (hne k ak.1),Ph] at e;rw[hz];exact ((h.now k ak h3').1 e.symm).symm
  . rfl
 ·
  intro i k hi hk h3 h3' e;rcases (hD i).1 hi with ai|rfl<;>rcases (hD k).1 hk with ak|rfl
  . rw[hτ i (hne i ai.1),hτ k (hne k ak.1)];exact h.Qy i k ai ak h3 h3' e
  . rw[hτ i (hne i ai.1),Ph];exact (h.now i ai h3).2 (by rw[e,hz])
  . rw[hτ k (hne k ak.1),Ph];exact ((h.now k ak h3').2 (by rw[<-e,hz])).symm
  . rfl
 ·
  intro i hi h3;rcases (hD i).1 hi with hi|rfl
  . rw[hτ i (hne i hi.1)];exact h.now i hi h3
  . rw[Ph,hz];simp
 ·
  intro i k hi hk h3 hik hc hcs hx;rcases (hD i).1 hi with ai|rfl<;>rcases (hD k).1 hk with ak|rfl
  . rw[hτ i (hne i ai.1),hτ k (hne k ak.1)];exact h.kept i k ai ak h3 hik hc hcs hx
  ·
   rw[hτ i (hne i ai.1),Ph];have h1:=h.PG i ai;have h2:s.τ i≠T:=fun e=>hcs (by rw[hz];exact (h.now i ai h3).1 e)
   omega
  . have:=hn.last k ak.1 (by omega) hc.symm;omega
  . omega
 ·
  rintro r (hx|rfl) hrd
  ·
   rw[hF r (hne r hx),hτ r (hne r hx)];obtain⟨a,b,c,d⟩:=h.src r hx hrd;exact⟨.inl a,b,c,d.imp id (fun d=>⟨(hD _).2 (.inl d.1),by rw[hτ _ (hne _ d.1.1)];exact d.2⟩)⟩
  ·
   rw[hFj,Ph];obtain⟨a,b,c,d⟩:=hfX;exact⟨.inl a,b,c,d.imp (fun d=>⟨d.1,d.2.1⟩) (fun d=>⟨(hD _).2 (.inl d),by rw[hτ _ (hne _ a)];exact h.PG _ d⟩)⟩
 ·
  rintro r w p (hx|rfl) hrd hb
  ·
   rw[hF r (hne r hx)] at hb;have hw:=(h.rows p w).1 (J4 hb).2;rw[hτ r (hne r hx),hτ w (hne w hw.1.1)];exact h.Mx r w p hx hrd hb
  ·
   rw[hFj] at hb;exfalso;have hm:f∈s.R p:=(J4 hb).1;obtain⟨q1,q2,q3⟩:=(h.rows p f).1 hm;have hp:p=S.pl r:=by rw[<-q3];exact hfX.2.2.1
   subst hp
   have he:(s.N (S.ck r)).filter (fun x=>S.pl x==S.pl r)=[]:=by
    apply Classical.byContradiction;intro hne';unfold Ax.L at hf
    have hf2:((s.N (S.ck r)).filter (fun x=>S.pl x==S.pl r)).getLast? = some f:=by
     rw[List.getLast?_append] at hf
     cases hq:((s.N (S.ck r)).filter (fun x=>S.pl x==S.pl r)).getLast? with
     |none=>exact absurd (List.getLast?_eq_none_iff.1 hq) hne'
     |some y=>rw[hq] at hf;exact hf
    have:=List.mem_of_getLast? hf2;rw[List.mem_filter] at this;have hq:=h.note _ _ this.1;exact q1.2 (by rw[hq.2.2.1];exact this.1)
   unfold Ax.L at hf;rw[he,List.append_nil] at hf;obtain⟨L',e⟩:=List.getLast?_eq_some_iff.1 hf;have hnd:=h.Ln (S.pl r);change Yg (s.R (S.pl r)) f w at hb;rw[e] at hb hnd;exact ZK hnd hb
 ·
  rintro i (hi|rfl) h3
  . rw[hv i (hne i hi)];exact h.Xq i hi h3
  . rw[nA];exact hfm
 ·
  rintro i k (hi|rfl) (hk|rfl) h3 hik hc hp
  . rw[hv i (hne i hi),hv k (hne k hk)];exact h.gm i k hi hk h3 hik hc hp
  ·
   rw[hv i (hne i hi),nA];have hm:=h.Xq i hi h3;rw[hc,hp] at hm ⊢;exact R5 hm hf
  . have:=hn.last k hk (by omega) hc.symm;omega
  . omega
 ·
  rintro i k (hi|rfl) (hk|rfl) h3 hik hc hp h1 h2
  . rw[hF i (hne i hi)];exact h.SK i k hi hk h3 hik hc hp h1 h2
  . rw[hr] at h2;cases h2
  . have:=hn.last k hk (by omega) hc.symm;omega
  . omega
theorem Fk.Dn {S:UF}{s:Ax}{T:Nat}{z:Int}(h:Fk S s T z)(hT:1<=T){j:Nat}(hn:tY S s j)(hr:S.rd j=false)(hz:S.cs j=z)(hN:s.N (S.ck j)=[]):Fk S (s.Dn S T j) T z:=by
 have hne:∀i,s.X i->i≠j:=fun i hi e=>hn.new (by rw[<-e];exact hi)
 have hD:∀i,(s.Dn S T j).D S i↔s.D S i\/i=j:=by
  intro i;show ((s.X i\/i=j)/\i∉s.N (S.ck i))↔_;constructor
  ·
   rintro⟨h1|rfl,h2⟩
   . exact .inl ⟨h1,h2⟩
   . exact .inr rfl
  ·
   rintro (⟨h1,h2⟩|rfl)
   . exact⟨.inl h1,h2⟩
   . exact⟨.inr rfl,fun hm=>hn.new (h.note _ _ hm).1⟩
 have hτ:∀i,i≠j->(s.Dn S T j).τ i=s.τ i:=fun i hi=>by show (if i=j then T else s.τ i)=_;rw[if_neg hi]
 have Ph:(s.Dn S T j).τ j=T:=by show (if j=j then T else s.τ j)=T;rw[if_pos rfl]
 have hR:∀p,(s.Dn S T j).R p=if p=S.pl j then s.R p++[j] else s.R p:=fun p=>rfl
 have hv:∀i,(s.Dn S T j).v S i=s.v S i:=fun i=>rfl
 have nA:s.v S j=j:=by unfold Ax.v;rw[hr];rfl
 have hjR:∀p,j∉s.R p:=fun p hm=>hn.new ((h.rows p j).1 hm).1.1
 have hRs:∀p,(s.R p).Sublist ((s.Dn S T j).R p):=fun p=>by
  rw[hR];split
  . exact List.sublist_append_left _ _
  . exact List.Sublist.refl _
 have hsub:∀c p,(s.L S c p).Sublist ((s.Dn S T j).L S c p):=fun c p=>List.Sublist.append (hRs p) (List.Sublist.refl _)
 have hlast:(s.Dn S T j).L S (S.ck j) (S.pl j)=s.L S (S.ck j) (S.pl j)++[j]:=by
  unfold Ax.L;rw[hR,if_pos rfl];show s.R (S.pl j)++[j]++(s.N (S.ck j)).filter _=s.R (S.pl j)++(s.N (S.ck j)).filter _++[j];rw[hN];simp
 refine { h with EZ:=fun i hi=>⟨.inl (h.EZ i hi).1,(h.EZ i hi).2.1,(h.EZ i hi).2.2.1,(h.EZ i hi).2.2.2.1,by rw[hτ i (hne i (h.EZ i hi).1)];exact (h.EZ i hi).2.2.2.2.1,(h.EZ i hi).2.2.2.2.2⟩,lt:=?_,down:=?_,note:=?_,pend:=?_,rows:=?_,Ln:=?_,TR:=?_,PG:=?_,tpos:=?_,same:=?_,Qy:=?_,now:=?_,kept:=?_,src:=?_,Mx:=?_,Xq:=?_,gm:=?_,SK:=?_ }
 ·
  rintro i (hi|rfl)
  . exact h.lt i hi
  . exact hn.lt
 ·
  rintro i k (hk|rfl) h3 hik hc
  . exact .inl (h.down i k hk h3 hik hc)
  . exact .inl (hn.all i h3 hik hc)
 ·
  intro c x hx;exact⟨.inl (h.note c x hx).1,(h.note c x hx).2⟩
 ·
  rintro c x k hx (hk|rfl) hxk hc
  . exact h.pend c x k hx hk hxk hc
  ·
   change x∈s.N c at hx;rw[<-hc,hN] at hx;cases hx
 ·
  intro p x;rw[hD,hR];by_cases hp:p=S.pl j
  ·
   rw[if_pos hp,List.mem_append,h.rows p x];constructor
   ·
    rintro (⟨a,b⟩|hx)
    . exact⟨.inl a,b⟩
    ·
     have e:x=j:=by simpa using hx
     exact⟨.inr e,by rw[e];exact hr,by rw[e,hp]⟩
   ·
    rintro⟨a|rfl,b⟩
    . exact .inl ⟨a,b⟩
    . exact .inr (by simp)
  ·
   rw[if_neg hp,h.rows p x];constructor
   . rintro⟨a,b⟩;exact⟨.inl a,b⟩
   ·
    rintro⟨a|rfl,b⟩
    . exact⟨a,b⟩
    . exact absurd b.2.symm hp
 ·
  intro p;rw[hR];split
  ·
   rw[List.nodup_append];refine⟨h.Ln p,by simp,fun x hx y hy e=>?_⟩;have:y=j:=by simpa using hy
   exact hjR p (by rw[<-this,<-e];exact hx)
  . exact h.Ln p
 ·
  intro p
  have old:(s.R p).Pairwise (fun x y=>(s.Dn S T j).τ x<=(s.Dn S T j).τ y):=(h.TR p).imp_of_mem (fun {x y} hx hy hxy=>by
   rw[hτ x (hne x ((h.rows p x).1 hx).1.1),hτ y (hne y ((h.rows p y).1 hy).1.1)]
   exact hxy)
  rw[hR];split
  ·
   rw[List.pairwise_append];refine⟨old,by simp,fun x hx y hy=>?_⟩;have:y=j:=by simpa using hy
   have hx':=((h.rows p x).1 hx).1;rw[this,Ph,hτ x (hne x hx'.1)];exact h.PG x hx'
  . exact old
 ·
  intro i hi;rcases (hD i).1 hi with ai|rfl
  . rw[hτ i (hne i ai.1)];exact h.PG i ai
  . rw[Ph];exact Nat.le_refl _
 ·
  intro i hi h3;rcases (hD i).1 hi with ai|rfl
  . rw[hτ i (hne i ai.1)];exact h.tpos i ai h3
  . rw[Ph];exact hT
 ·
  intro i k hi hk h3 h3' e;rcases (hD i).1 hi with ai|rfl<;>rcases (hD k).1 hk with ak|rfl
  . rw[hτ i (hne i ai.1),hτ k (hne k ak.1)] at e;exact h.same i k ai ak h3 h3' e
  . rw[hτ i (hne i ai.1),Ph] at e;rw[hz];exact (h.now i ai h3).1 e
  . rw[hτ k (hne k ak.1),Ph] at e;rw[hz];exact ((h.now k ak h3').1 e.symm).symm
  . rfl
 ·
  intro i k hi hk h3 h3' e;rcases (hD i).1 hi with ai|rfl<;>rcases (hD k).1 hk with ak|rfl
  . rw[hτ i (hne i ai.1),hτ k (hne k ak.1)];exact h.Qy i k ai ak h3 h3' e
  . rw[hτ i (hne i ai.1),Ph];exact (h.now i ai h3).2 (by rw[e,hz])
  . rw[hτ k (hne k ak.1),Ph];exact ((h.now k ak h3').2 (by rw[<-e,hz])).symm
  . rfl
 ·
  intro i hi h3;rcases (hD i).1 hi with ai|rfl
  . rw[hτ i (hne i ai.1)];exact h.now i ai h3
  . rw[Ph,hz];simp
 ·
  intro i k hi hk h3 hik hc hcs hx;rcases (hD i).1 hi with ai|rfl<;>rcases (hD k).1 hk with ak|rfl
  . rw[hτ i (hne i ai.1),hτ k (hne k ak.1)];exact h.kept i k ai ak h3 hik hc hcs hx
  ·
   rw[hτ i (hne i ai.1),Ph];have h1:=h.PG i ai;have h2:s.τ i≠T:=fun e=>hcs (by rw[hz];exact (h.now i ai h3).1 e)
   omega
  . have:=hn.last k ak.1 (by omega) hc.symm;omega
  . omega
 ·
  rintro r (hx|rfl) hrd
  ·
   rw[hτ r (hne r hx)];obtain⟨a,b,c,d⟩:=h.src r hx hrd;exact⟨.inl a,b,c,d.imp id (fun d=>⟨(hD _).2 (.inl d.1),by show (s.Dn S T j).τ (s.F r)<=_;rw[hτ _ (hne _ d.1.1)];exact d.2⟩)⟩
  . rw[hr] at hrd;cases hrd
 ·
  rintro r w p (hx|rfl) hrd hb
  ·
   rw[hτ r (hne r hx)];by_cases hw:w=j
   . rw[hw,Ph];exact h.PG r (h.P9 hx hrd)
   ·
    rw[hτ w hw];rw[hR] at hb;by_cases hp:p=S.pl j
    ·
     rw[if_pos hp] at hb;exact h.Mx r w p hx hrd (J5 hb hw)
    ·
     rw[if_neg hp] at hb;exact h.Mx r w p hx hrd hb
  . rw[hr] at hrd;cases hrd
 ·
  rintro i (hi|rfl) h3
  . exact (hsub _ _).subset (h.Xq i hi h3)
  . rw[hlast,hv,nA];simp
 ·
  rintro i k (hi|rfl) (hk|rfl) h3 hik hc hp
  . exact (h.gm i k hi hk h3 hik hc hp).imp id (fun hb=>hb.trans (hsub _ _))
  ·
   refine .inr ?_;rw[hc,hp,hlast,hv,hv,nA,<-hc,<-hp];exact M4 (h.Xq i hi h3)
  . have:=hn.last k hk (by omega) hc.symm;omega
  . omega
 ·
  rintro i k (hi|rfl) (hk|rfl) h3 hik hc hp h1 h2
  . exact h.SK i k hi hk h3 hik hc hp h1 h2
  . exact hne _ (h.src i hi h1).1
  . have:=hn.last k hk (by omega) hc.symm;omega
  . omega
theorem Fk.Cg {S:UF}{s:Ax}{T:Nat}{z:Int}(h:Fk S s T z)(hT:1<=T){c:Int}{x:Nat}{rest:List Nat}(hN:s.N c=x::rest)(hz:S.cs x=z):Fk S (s.Cg S T c x rest) T z:=by
 have hx0:=h.note c x (by rw[hN];simp);obtain⟨hxX,hx3,hxc,wH⟩:=hx0;have ji:=h.Lh c;rw[hN,List.pairwise_cons] at ji;have qK:x∉rest:=fun hm=>by have:=ji.1 x hm;omega
 have hxN:x∈s.N (S.ck x):=by rw[hxc,hN];simp
 have hxD:¬s.D S x:=fun hd=>hd.2 hxN
 have hne:∀i,s.D S i->i≠x:=fun i hi e=>hxD (by rw[<-e];exact hi)
 have PC:∀c' y,y∈(s.Cg S T c x rest).N c'↔y∈s.N c'/\¬(c'=c/\y=x):=by
  intro c' y;show y∈(if c'=c then rest else s.N c')↔_;by_cases e:c'=c
  ·
   subst e;rw[if_pos rfl,hN];constructor
   ·
    intro hm;exact⟨List.mem_cons_of_mem _ hm,fun hq=>qK (by rw[<-hq.2];exact hm)⟩
   ·
    rintro⟨hm,hq⟩;rcases List.mem_cons.1 hm with rfl|hm
    . exact absurd ⟨rfl,rfl⟩ hq
    . exact hm
  ·
   rw[if_neg e];exact⟨fun hm=>⟨hm,fun hq=>e hq.1⟩,fun hm=>hm.1⟩
 have hD:∀i,(s.Cg S T c x rest).D S i↔s.D S i\/i=x:=by
  intro i;unfold Ax.D;rw[PC];show (s.X i/\_)↔_;constructor
  ·
   rintro⟨h1,h2⟩;by_cases e:i=x
   . exact .inr e
   . exact .inl ⟨h1,fun hm=>h2 ⟨hm,fun hq=>e hq.2⟩⟩
  ·
   rintro (⟨h1,h2⟩|rfl)
   . exact⟨h1,fun hm=>h2 hm.1⟩
   . exact⟨hxX,fun hm=>hm.2 ⟨hxc,rfl⟩⟩
 have hτ:∀i,i≠x->(s.Cg S T c x rest).τ i=s.τ i:=fun i hi=>by show (if i=x then T else s.τ i)=_;rw[if_neg hi]
 have iA:(s.Cg S T c x rest).τ x=T:=by show (if x=x then T else s.τ x)=T;rw[if_pos rfl]
 have hR:∀p,(s.Cg S T c x rest).R p=if p=S.pl x then s.R p++[x] else s.R p:=fun p=>rfl
 have hxR:∀p,x∉s.R p:=fun p hm=>hxD ((h.rows p x).1 hm).1
 have hRs:∀p,(s.R p).Sublist ((s.Cg S T c x rest).R p):=fun p=>by
  rw[hR];split
  . exact List.sublist_append_left _ _
  . exact List.Sublist.refl _
 have vv:∀r,S.rd r=true->r≠x:=fun r hr e=>by rw[e,wH] at hr;cases hr
 have hsub:∀c' p,(s.L S c' p).Sublist ((s.Cg S T c x rest).L S c' p):=by
  intro c' p;by_cases e:c'=c
  ·
   subst e
   have:(s.Cg S T c' x rest).L S c' p=s.L S c' p:=by
    unfold Ax.L;rw[hR];show _++(if c'=c' then rest else s.N c').filter _=_;rw[if_pos rfl,hN];by_cases hp:p=S.pl x
    ·
     rw[if_pos hp,List.filter_cons_of_pos (by simp[hp]),List.append_assoc];rfl
    . rw[if_neg hp,List.filter_cons_of_neg (by simp;exact fun e=>hp e.symm)]
   rw[this];exact List.Sublist.refl _
  ·
   refine List.Sublist.append (hRs p) ?_;show List.Sublist _ ((if c'=c then rest else s.N c').filter _);rw[if_neg e];exact List.Sublist.refl _
 refine { h with EZ:=fun i hi=>⟨(h.EZ i hi).1,(h.EZ i hi).2.1,(h.EZ i hi).2.2.1,(h.EZ i hi).2.2.2.1,by rw[hτ i (by omega)];exact (h.EZ i hi).2.2.2.2.1,(h.EZ i hi).2.2.2.2.2⟩,note:=?_,Lh:=?_,pend:=?_,rows:=?_,Ln:=?_,TR:=?_,PG:=?_,tpos:=?_,same:=?_,Qy:=?_,now:=?_,kept:=?_,src:=?_,Mx:=?_,Xq:=?_,gm:=?_ }
 ·
  intro c' y hy;exact h.note c' y ((PC c' y).1 hy).1
 ·
  intro c';show (if c'=c then rest else s.N c').Pairwise _;split
  . exact ji.2
  . exact h.Lh c'
 ·
  intro c' y k hy hk hyk hc;obtain⟨hy1,hy2⟩:=(PC c' y).1 hy;rcases h.pend c' y k hy1 hk hyk hc with hp|hp
  . exact .inl hp
  ·
   refine .inr ((PC c' k).2 ⟨hp,?_⟩);rintro⟨rfl,rfl⟩;rw[hN] at hy1;rcases List.mem_cons.1 hy1 with rfl|hm
   . exact hy2 ⟨rfl,rfl⟩
   . have:=ji.1 y hm;omega
 ·
  intro p y;rw[hD,hR];by_cases hp:p=S.pl x
  ·
   rw[if_pos hp,List.mem_append,h.rows p y];constructor
   ·
    rintro (⟨a,b⟩|hy)
    . exact⟨.inl a,b⟩
    ·
     have e:y=x:=by simpa using hy
     exact⟨.inr e,by rw[e];exact wH,by rw[e,hp]⟩
   ·
    rintro⟨a|rfl,b⟩
    . exact .inl ⟨a,b⟩
    . exact .inr (by simp)
  ·
   rw[if_neg hp,h.rows p y];constructor
   . rintro⟨a,b⟩;exact⟨.inl a,b⟩
   ·
    rintro⟨a|rfl,b⟩
    . exact⟨a,b⟩
    . exact absurd b.2.symm hp
 ·
  intro p;rw[hR];split
  ·
   rw[List.nodup_append];refine⟨h.Ln p,by simp,fun y hy w hw e=>?_⟩;have:w=x:=by simpa using hw
   exact hxR p (by rw[<-this,<-e];exact hy)
  . exact h.Ln p
 ·
  intro p
  have old:(s.R p).Pairwise (fun y w=>(s.Cg S T c x rest).τ y<=(s.Cg S T c x rest).τ w):=(h.TR p).imp_of_mem (fun {y w} hy hw hyw=>by
   rw[hτ y (hne y ((h.rows p y).1 hy).1),hτ w (hne w ((h.rows p w).1 hw).1)]
   exact hyw)
  rw[hR];split
  ·
   rw[List.pairwise_append];refine⟨old,by simp,fun y hy w hw=>?_⟩;have:w=x:=by simpa using hw
   have hy':=((h.rows p y).1 hy).1;rw[this,iA,hτ y (hne y hy')];exact h.PG y hy'
  . exact old
 ·
  intro i hi;rcases (hD i).1 hi with ai|rfl
  . rw[hτ i (hne i ai)];exact h.PG i ai
  . rw[iA];exact Nat.le_refl _
 ·
  intro i hi h3;rcases (hD i).1 hi with ai|rfl
  . rw[hτ i (hne i ai)];exact h.tpos i ai h3
  . rw[iA];exact hT
 ·
  intro i k hi hk h3 h3' e;rcases (hD i).1 hi with ai|rfl<;>rcases (hD k).1 hk with ak|rfl
  . rw[hτ i (hne i ai),hτ k (hne k ak)] at e;exact h.same i k ai ak h3 h3' e
  . rw[hτ i (hne i ai),iA] at e;rw[hz];exact (h.now i ai h3).1 e
  . rw[hτ k (hne k ak),iA] at e;rw[hz];exact ((h.now k ak h3').1 e.symm).symm
  . rfl
 ·
  intro i k hi hk h3 h3' e;rcases (hD i).1 hi with ai|rfl<;>rcases (hD k).1 hk with ak|rfl
  . rw[hτ i (hne i ai),hτ k (hne k ak)];exact h.Qy i k ai ak h3 h3' e
  . rw[hτ i (hne i ai),iA];exact (h.now i ai h3).2 (by rw[e,hz])
  . rw[hτ k (hne k ak),iA];exact ((h.now k ak h3').2 (by rw[<-e,hz])).symm
  . rfl
 ·
  intro i hi h3;rcases (hD i).1 hi with ai|rfl
  . rw[hτ i (hne i ai)];exact h.now i ai h3
  . rw[iA,hz];simp
 ·
  intro i k hi hk h3 hik hc hcs hx;rcases (hD i).1 hi with ai|rfl<;>rcases (hD k).1 hk with ak|rfl
  . rw[hτ i (hne i ai),hτ k (hne k ak)];exact h.kept i k ai ak h3 hik hc hcs hx
  ·
   rw[hτ i (hne i ai),iA];have h1:=h.PG i ai;have h2:s.τ i≠T:=fun e=>hcs (by rw[hz];exact (h.now i ai h3).1 e)
   omega
  ·
   rcases h.pend _ _ _ hxN ak.1 hik hc.symm with hp|hp
   . rw[hx] at hp;cases hp.2
   . exact absurd (by rw[<-hc];exact hp) ak.2
  . omega
 ·
  intro r hx hrd;rw[hτ r (vv r hrd)];obtain⟨a,b,e,d⟩:=h.src r hx hrd;exact⟨a,b,e,d.imp id (fun d=>⟨(hD _).2 (.inl d.1),by show (s.Cg S T c x rest).τ (s.F r)<=_;rw[hτ _ (hne _ d.1)];exact d.2⟩)⟩
 ·
  intro r w p hx hrd hb;rw[hτ r (vv r hrd)];by_cases hw:w=x
  . rw[hw,iA];exact h.PG r (h.P9 hx hrd)
  ·
   rw[hτ w hw];rw[hR] at hb;by_cases hp:p=S.pl x
   ·
    rw[if_pos hp] at hb;exact h.Mx r w p hx hrd (J5 hb hw)
   ·
    rw[if_neg hp] at hb;exact h.Mx r w p hx hrd hb
 ·
  intro i hi h3;exact (hsub _ _).subset (h.Xq i hi h3)
 ·
  intro i k hi hk h3 hik hc hp;exact (h.gm i k hi hk h3 hik hc hp).imp id (fun hb=>hb.trans (hsub _ _))
structure Ab where
 nx:Nat->Nat
 N:Nat->List Nat
 R:Nat->List Nat
 F:Nat->Nat
def Ao (AA:List (List Dd)):UF:=
 { n:=(AB AA).length,ck:=fun j=>((AB AA).getD j zE).1,pl:=fun j=>((AB AA).getD j zE).2.2.2.1.toNat,rd:=fun j=>((AB AA).getD j zE).2.2.1,cs:=fun j=>Zg ((AB AA).getD j zE),ex:=Xt AA (AB AA) }
def EL (AA:List (List Dd))(a:Ab)(j:Nat):Bool:=decide (j<3)||decide (((AB AA).getD j zE).2.1.toNat<a.nx ((AB AA).getD j zE).1.toNat)
def Cm (AA:List (List Dd))(a:Ab)(τ:Nat->Nat):Ax:=
 { X:=fun j=>j<(AB AA).length/\EL AA a j=true,N:=fun c=>if 0<=c then a.N c.toNat else [],R:=a.R,F:=a.F,τ:=τ }
abbrev JH (AA:List (List Dd))(x:Nat):Int:=((AB AA).getD x zE).2.2.2.2.1
abbrev iE (AA:List (List Dd))(x:Nat):Int:=((AB AA).getD x zE).2.2.2.1
def X8 (AA:List (List Dd))(x:Nat):Nt:=(iE AA x,JH AA x,(x:Int))
def Be (a:Ab)(p:Nat):Nat:=(a.R p).getLast?.getD p
structure Y8 (AA:List (List Dd))(b:Bd)(a:Ab):Prop where
 AK:b.AK=(List.range AA.length).map (fun c=>(a.nx c:Int))
 AG:b.AG=(List.range AA.length).map (fun c=>(a.N c).map (X8 AA))
 rws:b.rws=(List.range 3).map (fun p=>(a.R p).map Int.ofNat)
 AQ:b.AQ=(List.range 3).map (fun p=>(Be a p:Int))
 AM:b.AM=(List.range 3).map (fun p=>JH AA (Be a p))
 fr:b.fr=(AV Ad (AB AA)).map (fun r=>if EL AA a r.toNat=true then (a.F r.toNat:Int) else -1)
 sn:b.sn=(AV Ad (AB AA)).map (fun r=>if EL AA a r.toNat=true then JH AA (a.F r.toNat) else -1)
theorem DT {α:Type}(f:Nat->α)(m c:Nat)(y:α):((List.range m).map f).set c y=(List.range m).map (fun i=>if i=c then y else f i):=by
 apply List.ext_getElem?;intro i;rw[List.getElem?_set];simp only[List.length_map,List.length_range,List.getElem?_map];by_cases hi:i<m
 ·
  rw[List.getElem?_range hi];by_cases e:c=i
  . subst e;simp[hi]
  . rw[if_neg e];simp[show ¬i=c from fun h=>e h.symm]
 ·
  have:(List.range m)[i]? = none:=List.getElem?_eq_none (by simp;omega);rw[this];by_cases e:c=i
  . subst e;simp[hi]
  . rw[if_neg e];rfl
theorem Cq {α:Type}(f:Nat->α){m c:Nat}(z:α)(hc:c<m):((List.range m).map f).getD c z=f c:=by
 rw[List.getD_eq_getElem?_getD,List.getElem?_map,List.getElem?_range hc];rfl
theorem Ky (rs:List Int)(ev v:Int)(g:Int->Int):Gr rs ev v (rs.map g)=rs.map (fun r=>if r=ev then v else g r):=by
 unfold Gr
 induction rs with
 |nil=>rfl
 |cons r rs ih=>rw[List.map_cons,List.zipWith_cons_cons,ih,List.map_cons]
theorem DM {AA:List (List Dd)}(hb:AO AA=true){j c k i:Nat}(E:Dz AA j c k i):(Ao AA).ck j=(c:Int)/\(Ao AA).pl j=(Ak AA c k).2.1.toNat/\(Ao AA).rd j=Kt (Ak AA c k) i/\(Ao AA).cs j=C3 AA c k:=by
 unfold Ao Zg;simp only;rw[E.at hb];exact⟨rfl,rfl,rfl,rfl⟩
theorem KN {AA:List (List Dd)}(hb:AO AA=true){j c k i:Nat}(E:Dz AA j c k i)(a:Ab):EL AA a j=decide (k<a.nx c):=by
 unfold EL;rw[E.at hb];have:=(E.lt hb).1;simp[show ¬j<3 by omega]
def BP (a:Ab)(c:Nat):Ab:={ a with nx:=fun c'=>if c'=c then a.nx c+1 else a.nx c' }
theorem EF {AA:List (List Dd)}(hb:AO AA=true)(a:Ab){c:Nat}(hc:c<AA.length)(hk:a.nx c<(AA.getD c []).length){j:Nat}(hj:j<(AB AA).length):
  EL AA (BP a c) j=true↔EL AA a j=true\/∃i,Dz AA j c (a.nx c) i:=by
 by_cases h3:j<3
 ·
  have e1:EL AA a j=true:=by unfold EL;simp[h3]
  have e2:EL AA (BP a c) j=true:=by unfold EL;simp[h3]
  simp[e1,e2]
 ·
  obtain⟨c',k',i',E⟩:=GV hb (by omega) hj;rw[KN hb E,KN hb E,decide_eq_true_eq,decide_eq_true_eq];show (k'<if c'=c then a.nx c+1 else a.nx c')↔_;by_cases e:c'=c
  ·
   subst e;rw[if_pos rfl];constructor
   ·
    intro h;by_cases h2:k'<a.nx c'
    . exact .inl h2
    ·
     obtain rfl:k'=a.nx c':=by omega
     exact .inr ⟨i',E⟩
   ·
    rintro (h|⟨i,E2⟩)
    . omega
    . have:=(E.one E2).2.1;omega
  ·
   rw[if_neg e];refine⟨fun h => .inl h,?_⟩;rintro (h|⟨i,E2⟩)
   . exact h
   . exact absurd (E.one E2).1 e
theorem Cj {AA:List (List Dd)}{c k:Nat}(hc:c<AA.length)(hk:k<(AA.getD c []).length)(h4:(Ak AA c k).1≠4):Dz AA (AY AA c k) c k 0:=⟨hc,hk,Ko h4,rfl⟩
theorem Ib {AA:List (List Dd)}{c k:Nat}(hc:c<AA.length)(hk:k<(AA.getD c []).length)(h3:(Ak AA c k).1=3):Dz AA (AY AA c k+1) c k 1:=⟨hc,hk,by unfold FM;rw[if_neg (by omega),if_pos h3];omega,rfl⟩
theorem Mi {AA:List (List Dd)}{c k j i:Nat}(E:Dz AA j c k i)(h3:(Ak AA c k).1≠3):j=AY AA c k/\i=0:=by
 have h1:=E.hi;have h2:=E.hj;unfold FM at h1;rw[if_neg E.kind,if_neg h3] at h1;omega
theorem Ew {AA:List (List Dd)}(hb:AO AA=true)(a:Ab)(τ:Nat->Nat){c:Nat}(hc:c<AA.length)(hk:a.nx c<(AA.getD c []).length)(h4:(Ak AA c (a.nx c)).1≠4):tY (Ao AA) (Cm AA a τ) (AY AA c (a.nx c)):=by
 have E:=Cj hc hk h4;have hl:=E.lt hb;refine⟨hl.1,hl.2,?_,?_,?_⟩
 ·
  rintro⟨_,h⟩;rw[KN hb E,decide_eq_true_eq] at h;omega
 ·
  intro i h3 hi hck;have hin:i<(AB AA).length:=by omega
  obtain⟨c',k',i',E'⟩:=GV hb h3 hin;rw[(DM hb E').1,(DM hb E).1] at hck;obtain rfl:c'=c:=by omega
  refine⟨hin,?_⟩;rw[KN hb E',decide_eq_true_eq];rcases (E'.ord E).1 hi with h|⟨_,h|⟨_,h⟩⟩<;>omega
 ·
  rintro i ⟨hin,hX⟩ h3 hck;obtain⟨c',k',i',E'⟩:=GV hb h3 hin;rw[(DM hb E').1,(DM hb E).1] at hck;obtain rfl:c'=c:=by omega
  rw[KN hb E',decide_eq_true_eq] at hX;exact (E'.ord E).2 (.inr ⟨rfl,.inl hX⟩)
theorem JY {AA:List (List Dd)}(hb:AO AA=true){c k:Nat}(hc:c<AA.length)(hk:k<(AA.getD c []).length)(h4:(Ak AA c k).1≠4):LH (AB AA) c k=(AY AA c k:Int):=by
 have E:=Cj hc hk h4;have hl:=E.lt hb
 have hx:(List.range (AB AA).length).find? (fun i=>decide (3<=i)&&(((AB AA).getD i zE).1==(c:Int))&&(((AB AA).getD i zE).2.1==(k:Int)))=some (AY AA c k):=by
  rw[List.find?_range_eq_some];refine⟨?_,by simpa using hl.2,?_⟩
  ·
   rw[E.at hb];simp[hl.1]
  ·
   intro j hj;by_cases h3:3<=j
   ·
    obtain⟨c',k',i',E'⟩:=GV hb h3 (by omega);rw[E'.at hb];simp only[h3,decide_true,Bool.true_and,Bool.not_eq_true',Bool.and_eq_false_iff,beq_eq_false_iff_ne,ne_eq];rcases (E'.ord E).1 hj with h|⟨_,h|⟨_,h⟩⟩
    . exact .inl (by omega)
    . exact .inr (by omega)
    . omega
   . simp[h3]
 unfold LH;rw[hx]
theorem dG {AA:List (List Dd)}(h:AO AA=true)(j:Nat)(hj:j<(A8 AA AA.length).length):0<=((A8 AA AA.length).getD j zE).2.2.2.1/\((A8 AA AA.length).getD j zE).2.2.2.1<=2:=by
 simp only[AO,Bool.and_eq_true,decide_eq_true_eq] at h;obtain⟨⟨⟨⟨_,h2⟩,_⟩,_⟩,_⟩:=h;have hok:∀i,i<AA.length->Fu (AA.getD i [])=true:=fun i hi=>Bo [] h2 i hi
 obtain⟨⟨t,ht⟩,hg⟩:=KM hok AA.length (Nat.le_refl _);by_cases hj3:3<=j
 . exact NS hok (hg j hj3 hj)
 ·
  obtain⟨b0,b1,b2⟩:=Me ht;have:j=0\/j=1\/j=2:=by omega
  rcases this with rfl|rfl|rfl
  . rw[b0];decide
  . rw[b1];decide
  . rw[b2];decide
def qA (n:Nat)(rs f:List Int):Nat->List Int
 | 0=>List.replicate n 0
 |k+1=>(qA n rs f k).set (f.getD k 0).toNat (Fp ((qA n rs f k).getD (f.getD k 0).toNat 0) (rs.getD k 0))
def jV (es:List Ev)(f:List Int):List Int:=qA es.length (AV Ad es) f (AV Ad es).length
theorem Vk {n:Nat}{rs f:List Int}(hn:n<=12):∀k:Nat,(∀i,i<k->0<=rs.getD i 0/\rs.getD i 0<(n:Int))->(∀i,i<k->0<=f.getD i 0/\f.getD i 0<(n:Int)) ->
  DH n (qA n rs f k)/\∀a j:Nat,a<n->(Aq (qA n rs f k) a j=true↔∃i,i<k/\f.getD i 0=(a:Int)/\rs.getD i 0=(j:Int))
 | 0,_,_=>⟨DH.zero hn,fun a j _=>by rw[qA,Ih];simp⟩
 |k+1,hr,hf=>by
  obtain⟨h1,h2⟩:=Vk hn k (fun i hi=>hr i (by omega)) (fun i hi=>hf i (by omega));obtain⟨a0,ha0⟩:=Int.eq_ofNat_of_zero_le (hf k (by omega)).1;obtain⟨j0,hj0⟩:=Int.eq_ofNat_of_zero_le (hr k (by omega)).1;have ha:a0<n:=by have:=(hf k (by omega)).2;omega
  have hj:j0<n:=by have:=(hr k (by omega)).2;omega
  rw[qA,ha0,hj0,Int.toNat_natCast];have hg:=Q4 (h1.2.2 a0 ha) hj;refine⟨h1.set hg.1,fun a j gy=>?_⟩;unfold Aq;rw[FH _ _ _ _ (by rw[h1.2.1];exact ha)];by_cases e:a0=a
  ·
   subst e;rw[if_pos rfl,hg.2 j,Bool.or_eq_true,decide_eq_true_eq];have:=h2 a0 j gy;unfold Aq at this;rw[this];constructor
   ·
    rintro (⟨i,hi,h⟩|rfl)
    . exact⟨i,by omega,h⟩
    . exact⟨k,by omega,ha0,hj0⟩
   ·
    rintro⟨i,hi,h3,h4⟩;by_cases e2:i=k
    . subst e2;right;rw[hj0] at h4;omega
    . exact .inl ⟨i,by omega,h3,h4⟩
  ·
   rw[if_neg e];have:=h2 a j gy;unfold Aq at this;rw[this];constructor
   ·
    rintro⟨i,hi,h⟩;exact⟨i,by omega,h⟩
   ·
    rintro⟨i,hi,h3,h4⟩;by_cases e2:i=k
    . subst e2;rw[ha0] at h3;omega
    . exact⟨i,by omega,h3,h4⟩
theorem Ie {l:List Int}{n:Int}(h:Hf l n=true):n∈l:=by
 unfold Hf at h;rw[List.any_eq_true] at h;obtain⟨x,hx,e⟩:=h;rw[beq_iff_eq] at e;rw[<-e];exact hx
theorem FJ (f:Ev->Bool)(l:List Ev):∀(k:Nat) (x:Int),x∈BZ f l k->f (l.getD x.toNat zE)=true
 | 0,x,h=>by simp[BZ] at h
 |k+1,x,h=>by
  rw[BZ] at h;split at h
  ·
   rename_i hf;rcases List.mem_append.1 h with h|h
   . exact FJ f l k x h
   ·
    simp only[List.mem_cons,List.not_mem_nil,or_false] at h;rw[h,Int.toNat_natCast];exact hf
  . exact FJ f l k x h
theorem lM {es:List Ev}{f:List Int}(hx:es.length<=12)(h:Tb (NF es) f=true):(AV Ad es).length=f.length /\
  ∀i,i<(AV Ad es).length->(0<=f.getD i 0/\f.getD i 0<(es.length:Int))/\(es.getD (f.getD i 0).toNat zE).2.2.2.1=iC es ((AV Ad es).getD i 0):=by
 unfold Tb at h;rw[Bool.and_eq_true,decide_eq_true_eq] at h;obtain⟨h1,h2⟩:=h;have hc:(NF es).length=(AV Ad es).length:=GF _ _ _;refine⟨by omega,fun i hi=>?_⟩;have h3:=(OW (NF es).length).1 h2 i (by omega);unfold NF at h3;rw[NA _ _ _ _ hi] at h3;have h4:=Ie h3;unfold AV at h4;rw[if_pos hx] at h4;have h5:=EG _ _ _ _ h4;have h6:=FJ _ _ _ _ h4;refine⟨h5,?_⟩;unfold Ju at h6;simp only[Bool.and_eq_true,beq_iff_eq] at h6;rw[h6.2];unfold AV;rw[if_pos hx]
structure MI (AA:List (List Dd))(b:Bd)(a:Ab)(τ:Nat->Nat)(T:Nat)(z:Int):Prop where
 Bt:Y8 AA b a
 inv:Fk (Ao AA) (Cm AA a τ) T z
 WB:∀c,c<AA.length->a.nx c<=(AA.getD c []).length
 nt:∀c x,x∈a.N c->c<AA.length/\∃k,Dz AA x c k 0/\k<a.nx c/\(Ak AA c k).1=2/\BS AA c k=0/\∀k',k<k'->k'<a.nx c->(Ak AA c k').1≠4/\Ef (Ak AA c k')=false
theorem Hc (AA:List (List Dd))(a:Ab)(τ:Nat->Nat)(c:Nat):(Cm AA a τ).N (c:Int)=a.N c:=by
 show (if 0<=(c:Int) then a.N (c:Int).toNat else [])=_;rw[if_pos (by omega),Int.toNat_natCast]
theorem D3 {AA:List (List Dd)}{b:Bd}{a:Ab}(h:Y8 AA b a){c:Nat}(hc:c<AA.length):b.AK.getD c 0=(a.nx c:Int)/\Ap b c=a.nx c:=by
 have e:b.AK.getD c 0=(a.nx c:Int):=by rw[h.AK,Cq _ _ hc]
 exact⟨e,by unfold Ap;rw[e,Int.toNat_natCast]⟩
theorem FL {AA:List (List Dd)}{b:Bd}{a:Ab}(h:Y8 AA b a){c:Nat}(hc:c<AA.length):b.AG.getD c []=(a.N c).map (X8 AA):=by rw[h.AG,Cq _ _ hc]
theorem Gh {AA:List (List Dd)}{b:Bd}{a:Ab}(h:Y8 AA b a){p:Nat}(hp:p<3):b.AQ.getD p 0=(Be a p:Int)/\b.AM.getD p 0=JH AA (Be a p)/\b.rws.getD p []=(a.R p).map Int.ofNat:=by
 refine⟨by rw[h.AQ,Cq _ _ hp],by rw[h.AM,Cq _ _ hp],by rw[h.rws,Cq _ _ hp]⟩
theorem Pj {AA:List (List Dd)}{a:Ab}{τ:Nat->Nat}{T:Nat}{z:Int}(h:Fk (Ao AA) (Cm AA a τ) T z){p:Nat}(hp:p<3):(a.R p).getLast? = some (Be a p):=by
 obtain⟨h1,h2,h3,h4,_⟩:=h.EZ p hp;have hm:p∈a.R p:=(h.rows p p).2 ⟨⟨h1,fun hn=>by have:=(h.note _ _ hn).2.1;omega⟩,h2,h3⟩;unfold Be
 cases hl:(a.R p).getLast? with
 |none=>rw[List.getLast?_eq_none_iff.1 hl] at hm;cases hm
 |some y=>rfl
theorem It {AA:List (List Dd)}(hb:AO AA=true){c k:Nat}(hc:c<AA.length)(hk:k<(AA.getD c []).length):∃p:Nat,p<3/\(Ak AA c k).2.1=(p:Int):=by
 have hd:=Cd (B8 hb hc k hk);obtain⟨p,hp⟩:=Int.eq_ofNat_of_zero_le hd.1;exact⟨p,by have:=hd.2.1;omega,hp⟩
theorem ql {AA:List (List Dd)}(hb:AO AA=true){b:Bd}{a:Ab}{τ:Nat->Nat}{T:Nat}{z:Int}(M:MI AA b a τ T z){c p:Nat}(hc:c<AA.length)(hp:p<3):
  ∃f:Nat,((Cm AA a τ).L (Ao AA) (c:Int) p).getLast? = some f/\Ct b c p=(JH AA f,(f:Int)):=by
 have hl:=Pj M.inv hp;obtain⟨e1,e2,_⟩:=Gh M.Bt hp
 have hfil:((a.N c).map (X8 AA)).reverse.find? (fun x=>x.1==(p:Int))=(((a.N c).filter (fun x=>(Ao AA).pl x==p)).getLast?).map (X8 AA):=by
  rw[<-List.head?_filter,List.filter_reverse,List.head?_reverse,List.filter_map,List.getLast?_map]
  have:(a.N c).filter ((fun x:Nt=>x.1==(p:Int)) ∘ X8 AA)=(a.N c).filter (fun x=>(Ao AA).pl x==p):=by
   refine List.filter_congr (fun x hx=>?_);obtain⟨_,k,E,_⟩:=M.nt c x hx;obtain⟨q,_,hq⟩:=It hb E.hc E.hk;show (iE AA x==(p:Int))=((Ao AA).pl x==p);rw[(DM hb E).2.1];unfold iE;rw[E.at hb];show ((Ak AA c k).2.1==(p:Int))=_;rw[hq,Int.toNat_natCast];by_cases e:q=p
   . subst e;simp
   ·
    have:¬((q:Int)=(p:Int)):=by omega
    rw[beq_eq_false_iff_ne.2 this,beq_eq_false_iff_ne.2 e]
  rw[this]
 unfold Ct;rw[FL M.Bt hc,hfil];unfold Ax.L;rw[Hc];show ∃f,(a.R p++(a.N c).filter (fun x=>(Ao AA).pl x==p)).getLast? = some f/\_;rw[List.getLast?_append]
 cases hq:((a.N c).filter (fun x=>(Ao AA).pl x==p)).getLast? with
 |none=>
  refine⟨Be a p,by rw[hl];rfl,?_⟩;simp only[Option.map_none];rw[e1,e2]
 |some y=>
  exact⟨y,rfl,rfl⟩
theorem WS {AA:List (List Dd)}(hb:AO AA=true)(a:Ab)(τ:Nat->Nat){c:Nat}(hc:c<AA.length)(hk:a.nx c<(AA.getD c []).length)(h4:(Ak AA c (a.nx c)).1=4):Cm AA (BP a c) τ=Cm AA a τ:=by
 unfold Cm
 congr 1
 funext j;apply propext;constructor
 ·
  rintro⟨h1,h2⟩;refine⟨h1,?_⟩;rcases (EF hb a hc hk h1).1 h2 with h|⟨i,E⟩
  . exact h
  . exact absurd h4 E.kind
 ·
  rintro⟨h1,h2⟩;exact⟨h1,(EF hb a hc hk h1).2 (.inl h2)⟩
theorem MA {AA:List (List Dd)}(hb:AO AA=true)(a:Ab){c:Nat}(hc:c<AA.length)(hk:a.nx c<(AA.getD c []).length)(h4:(Ak AA c (a.nx c)).1≠4)(h3:(Ak AA c (a.nx c)).1≠3)(j:Nat):
  (j<(AB AA).length/\EL AA (BP a c) j=true)↔(j<(AB AA).length/\EL AA a j=true)\/j=AY AA c (a.nx c):=by
 constructor
 ·
  rintro⟨h1,h2⟩;rcases (EF hb a hc hk h1).1 h2 with h|⟨i,E⟩
  . exact .inl ⟨h1,h⟩
  . exact .inr (Mi E h3).1
 ·
  rintro (⟨h1,h2⟩|rfl)
  . exact⟨h1,(EF hb a hc hk h1).2 (.inl h2)⟩
  ·
   have E:=Cj hc hk h4;exact⟨(E.lt hb).2,(EF hb a hc hk (E.lt hb).2).2 (.inr ⟨0,E⟩)⟩
theorem ZC {AA:List (List Dd)}(hb:AO AA=true)(a:Ab){c:Nat}(hc:c<AA.length)(hk:a.nx c<(AA.getD c []).length)(h3:(Ak AA c (a.nx c)).1=3)(j:Nat):
  (j<(AB AA).length/\EL AA (BP a c) j=true)↔((j<(AB AA).length/\EL AA a j=true)\/j=AY AA c (a.nx c))\/j=AY AA c (a.nx c)+1:=by
 have E1:=Cj hc hk (by omega:(Ak AA c (a.nx c)).1≠4);have E2:=Ib hc hk h3;constructor
 ·
  rintro⟨h1,h2⟩;rcases (EF hb a hc hk h1).1 h2 with h|⟨i,E⟩
  . exact .inl (.inl ⟨h1,h⟩)
  ·
   have hi:=E.hi;have hj:=E.hj;unfold FM at hi;rw[if_neg (by omega),if_pos h3] at hi;rcases (by omega:i=0\/i=1) with rfl|rfl
   . exact .inl (.inr hj)
   . exact .inr hj
 ·
  rintro ((⟨h1,h2⟩|rfl)|rfl)
  . exact⟨h1,(EF hb a hc hk h1).2 (.inl h2)⟩
  . exact⟨(E1.lt hb).2,(EF hb a hc hk (E1.lt hb).2).2 (.inr ⟨0,E1⟩)⟩
  . exact⟨(E2.lt hb).2,(EF hb a hc hk (E2.lt hb).2).2 (.inr ⟨1,E2⟩)⟩
theorem Fh {es:List Ev}(hx:es.length<=12){r:Int}(h:r∈AV Ad es):∃j:Nat,r=(j:Int)/\j<es.length/\(es.getD j zE).2.2.1=true:=by
 unfold AV at h;rw[if_pos hx] at h;have h1:=EG _ _ _ _ h;have h2:=FJ _ _ _ _ h;obtain⟨j,hj⟩:=Int.eq_ofNat_of_zero_le h1.1;rw[hj,Int.toNat_natCast] at h2;exact⟨j,hj,by omega,h2⟩
theorem X5 {l:List Int}(hn:l.Nodup){p q:Nat}(hp:p<l.length)(hq:q<l.length)(e:l.getD p 0=l.getD q 0):p=q:=by
 rw[List.getD_eq_getElem?_getD,List.getElem?_eq_getElem hp,List.getD_eq_getElem?_getD,List.getElem?_eq_getElem hq] at e;exact (List.getElem_inj hn).1 e
def Cs (es:List Ev)(p:Nat):List Int:=AV (Ju (p:Int)) es
def qc (rows:List Int)(at0:Nat)(p:List Int)(i:Nat):Bool:=decide (at0+p.length<=rows.length)&&(rows.getD at0 0==(i:Int))&&p.all (fun x=>Hf ((rows.drop at0).take p.length) x)
def Kw (es:List Ev)(rows:List Int):Bool:=
 qc rows 0 (Cs es 0) 0&&qc rows (Cs es 0).length (Cs es 1) 1&&qc rows ((Cs es 0).length+(Cs es 1).length) (Cs es 2) 2&&decide ((Cs es 0).length+(Cs es 1).length+(Cs es 2).length=rows.length)
def eT (AA:List (List Dd))(rows:List Int):Bool:=AO AA&&Kw (AB AA) rows
theorem Q6:∀ {p b:List Int},p.Nodup->(∀x∈p,x∈b)->b.length<=p.length->p.Perm b
 | [],b,_,_,hl=>by
  have:b=[]:=List.eq_nil_of_length_eq_zero (by simpa using hl);subst this;exact List.Perm.refl _
 |x::t,b,hn,hs,hl=>by
  have hx:=hs x (by simp);rw[List.nodup_cons] at hn;have hb:(b.erase x).length=b.length-1:=List.length_erase_of_mem hx
  have ih:=Q6 (p:=t) (b:=b.erase x) hn.2 (fun y hy=>by
   have h1:=hs y (by simp[hy])
   exact (List.mem_erase_of_ne (fun e=>hn.1 (by rw[<-e];exact hy))).2 h1) (by rw[hb];simp only[List.length_cons] at hl;omega)
  exact (List.Perm.cons x ih).trans (List.perm_cons_erase hx).symm
theorem Gi {l:List Int}{n:Int}(h:n∈l):Hf l n=true:=by
 unfold Hf;rw[List.any_eq_true];exact⟨n,h,by simp⟩
theorem N0 {rows p:List Int}{at0 i:Nat}(hn:p.Nodup)(h:qc rows at0 p i=true):at0+p.length<=rows.length/\p.Perm ((rows.drop at0).take p.length):=by
 unfold qc at h;simp only[Bool.and_eq_true,decide_eq_true_eq,List.all_eq_true] at h;refine⟨h.1.1,Q6 hn (fun x hx=>Ie (h.2 x hx)) ?_⟩;rw[List.length_take];omega
theorem DV {es:List Ev}(hx:es.length<=12)(p:Nat):(Cs es p).Nodup:=by
 unfold Cs AV;rw[if_pos hx];exact (GZ _ _ _).imp (fun h e=>by omega)
theorem IK {es:List Ev}(hx:es.length<=12){p:Nat}{x:Int}(h:x∈Cs es p):(0<=x/\x<(es.length:Int))/\(es.getD x.toNat zE).2.2.2.1=(p:Int):=by
 unfold Cs AV at h;rw[if_pos hx] at h;have h1:=EG _ _ _ _ h;have h2:=FJ _ _ _ _ h;unfold Ju at h2;simp only[Bool.and_eq_true,beq_iff_eq] at h2;exact⟨h1,h2.2⟩
theorem OB {es:List Ev}(hx:es.length<=12)(p:Nat):(Cs es p).length<=12:=by
 unfold Cs AV;rw[if_pos hx];have:=C9 (Ju (p:Int)) es es.length;omega
def Ww (es:List Ev):List Int:=Cs es 0++Cs es 1++Cs es 2
theorem UJ {es:List Ev}(hx:es.length<=12):(Ww es).Nodup:=by
 have dis:∀ {p q:Nat},p≠q->∀a∈Cs es p,∀b∈Cs es q,a≠b:=fun {p q} hpq a ha b hb e=>by
  have h1:=(IK hx ha).2;have h2:=(IK hx hb).2;rw[e,h2] at h1;omega
 unfold Ww;rw[List.nodup_append,List.nodup_append];refine⟨⟨DV hx 0,DV hx 1,dis (by decide)⟩,DV hx 2,fun a ha b hb=>?_⟩;rcases List.mem_append.1 ha with h|h
 . exact dis (p:=0) (q:=2) (by decide) a h b hb
 . exact dis (p:=1) (q:=2) (by decide) a h b hb
theorem YR {es:List Ev}{rows:List Int}(hx:es.length<=12)(h:Kw es rows=true):(Ww es).Perm rows:=by
 unfold Kw at h;simp only[Bool.and_eq_true,decide_eq_true_eq] at h;obtain⟨⟨⟨h0,h1⟩,h2⟩,hl⟩:=h;obtain⟨l0,p0⟩:=N0 (DV hx 0) h0;obtain⟨l1,p1⟩:=N0 (DV hx 1) h1;obtain⟨l2,p2⟩:=N0 (DV hx 2) h2
 have e:rows=rows.take (Cs es 0).length++(rows.drop (Cs es 0).length).take (Cs es 1).length++(rows.drop ((Cs es 0).length+(Cs es 1).length)).take (Cs es 2).length:=by
  have t2:(rows.drop ((Cs es 0).length+(Cs es 1).length)).take (Cs es 2).length=rows.drop ((Cs es 0).length+(Cs es 1).length):=List.take_of_length_le (by rw[List.length_drop];omega);rw[t2,List.append_assoc,<-List.drop_drop,List.take_append_drop,List.take_append_drop]
 rw[List.drop_zero] at p0;unfold Ww;rw[e];exact (p0.append p1).append p2
theorem eU {es:List Ev}{rows:List Int}(hx:es.length<=12)(h:Kw es rows=true):rows.Nodup/\rows.length<=36/\∀i,i<rows.length->0<=rows.getD i 0/\rows.getD i 0<(es.length:Int):=by
 have hp:=YR hx h;refine⟨hp.nodup_iff.1 (UJ hx),?_,fun i hi=>?_⟩
 ·
  rw[<-hp.length_eq];unfold Ww;rw[List.length_append,List.length_append];have:=OB hx 0;have:=OB hx 1;have:=OB hx 2;omega
 ·
  have hm:rows.getD i 0∈rows:=by
   rw[List.getD_eq_getElem?_getD,List.getElem?_eq_getElem hi];exact List.getElem_mem hi
  have hm:=hp.mem_iff.2 hm;unfold Ww at hm;rcases List.mem_append.1 hm with hm|hm
  ·
   rcases List.mem_append.1 hm with hm|hm
   . exact (IK hx hm).1
   . exact (IK hx hm).1
  . exact (IK hx hm).1
theorem Uu {A P C p:List Int}{i:Nat}(hl:P.length=p.length)(hp:P.Perm p)(h0:0<p.length)(hi:P.getD 0 0=(i:Int)):qc (A++P++C) A.length p i=true:=by
 unfold qc;simp only[Bool.and_eq_true,decide_eq_true_eq,beq_iff_eq,List.all_eq_true];refine⟨⟨by rw[List.length_append,List.length_append];omega,?_⟩,fun x hx=>?_⟩
 ·
  rw[List.append_assoc,List.getD_eq_getElem?_getD,List.getElem?_append_right (Nat.le_refl _),Nat.sub_self,List.getElem?_append_left (by omega),<-List.getD_eq_getElem?_getD];exact hi
 ·
  refine Gi ?_;rw[List.append_assoc,List.drop_left,<-hl,List.take_left];exact hp.mem_iff.2 hx
theorem Ux {AA:List (List Dd)}(hb:AO AA=true)(p:Nat)(hp:p<3):0<(Cs (AB AA) p).length/\(Cs (AB AA) p).getD 0 0=(p:Int):=by
 obtain⟨h12,_,_,hf,_⟩:=Ja hb;obtain⟨r,hr⟩:=hf p hp;unfold Cs AV;rw[AB,if_pos hb,if_pos h12,hr];exact⟨by simp,rfl⟩
theorem Bs (AA:List (List Dd)):(AB AA).length<=12:=by
 unfold AB;split
 ·
  rename_i hb;exact (Ja hb).1
 . simp
theorem Iw {d:Dd}(h:d.1=2)(i:Nat):Kt d i=false:=by unfold Kt;simp[h]
theorem Lm {d:Dd}(h:d.1≠2):Kt d 0=true:=by unfold Kt;simp[h]
theorem Ji (d:Dd):Kt d 1=false:=by unfold Kt;simp
theorem Ku {AA:List (List Dd)}{b:Bd}{a:Ab}(h:Y8 AA b a){c:Nat}(hc:c<AA.length):b.AK.set c (b.AK.getD c 0+1)=(List.range AA.length).map (fun c'=>((BP a c).nx c':Int)):=by
 rw[(D3 h hc).1,h.AK,DT];refine List.map_congr_left (fun i _=>?_);show _=((if i=c then a.nx c+1 else a.nx i:Nat):Int);split
 . rename_i e;subst e;omega
 . rfl
theorem C5 (a:Ab)(c c':Nat):(BP a c).nx c'=if c'=c then a.nx c+1 else a.nx c':=rfl
theorem IC {AA:List (List Dd)}{a:Ab}(h:∀c,c<AA.length->a.nx c<=(AA.getD c []).length){c:Nat}(hk:a.nx c<(AA.getD c []).length):∀c',c'<AA.length->(BP a c).nx c'<=(AA.getD c' []).length:=by
 intro c' hc';rw[C5];split
 . rename_i e;subst e;omega
 . exact h c' hc'
theorem Km {AA:List (List Dd)}{b:Bd}{a:Ab}{τ:Nat->Nat}{T:Nat}{z:Int}(M:MI AA b a τ T z){c:Nat}(hp:a.N c≠[]->(Ak AA c (a.nx c)).1≠4/\Ef (Ak AA c (a.nx c))=false):
  ∀c' x,x∈a.N c'->c'<AA.length/\∃k,Dz AA x c' k 0/\k<(BP a c).nx c'/\(Ak AA c' k).1=2/\BS AA c' k=0/\∀k',k<k'->k'<(BP a c).nx c'->(Ak AA c' k').1≠4/\Ef (Ak AA c' k')=false:=by
 intro c' x hx;obtain⟨h1,k,E,h2,h3,h4,h5⟩:=M.nt c' x hx;refine⟨h1,k,E,?_,h3,h4,fun k' hk hk'=>?_⟩
 ·
  rw[C5];split
  . rename_i e;subst e;omega
  . exact h2
 ·
  rw[C5] at hk';split at hk'
  ·
   rename_i e;subst e;by_cases e2:k'=a.nx c'
   ·
    subst e2;exact hp (fun e=>by rw[e] at hx;cases hx)
   . exact h5 k' hk (by omega)
  . exact h5 k' hk hk'
theorem Py {AA:List (List Dd)}(hb:AO AA=true){b:Bd}{a:Ab}{τ:Nat->Nat}{T:Nat}{z:Int}(M:MI AA b a τ T z){c:Nat}(hc:c<AA.length)(hk:a.nx c<(AA.getD c []).length)(h4:(Ak AA c (a.nx c)).1=4)(hN:a.N c=[]):
  MI AA (Ai AA (AB AA) b c) (BP a c) τ T z:=by
 have hd:BH AA (AB AA) b c (Ap b c)=b:=by
  rw[(D3 M.Bt hc).2];unfold BH;rw[if_neg (by omega),if_neg (by omega),if_neg (by omega),if_neg (by omega)]
 have hex:∀j,j<(AB AA).length->EL AA (BP a c) j=EL AA a j:=by
  intro j hj;have:=EF hb a hc hk hj
  cases h1:EL AA a j with
  |true=>exact this.2 (.inl h1)
  |false=>
   cases h2:EL AA (BP a c) j with
   |false=>rfl
   |true=>
    rcases this.1 h2 with h|⟨i,E⟩
    . rw[h1] at h;cases h
    . exact absurd h4 E.kind
 have hx:=Bs AA;unfold Ai;rw[hd];refine⟨⟨Ku M.Bt hc,M.Bt.AG,M.Bt.rws,M.Bt.AQ,M.Bt.AM,?_,?_⟩,by rw[WS hb a τ hc hk h4];exact M.inv,IC M.WB hk,Km M (fun h=>absurd hN h)⟩
 ·
  show b.fr=_;rw[M.Bt.fr];refine List.map_congr_left (fun r hr=>?_);obtain⟨j,rfl,hj,_⟩:=Fh hx hr;rw[Int.toNat_natCast,hex j hj];rfl
 ·
  show b.sn=_;rw[M.Bt.sn];refine List.map_congr_left (fun r hr=>?_);obtain⟨j,rfl,hj,_⟩:=Fh hx hr;rw[Int.toNat_natCast,hex j hj];rfl
theorem jr {AA:List (List Dd)}(hb:AO AA=true){b:Bd}{a:Ab}{τ:Nat->Nat}{T:Nat}{z:Int}(M:MI AA b a τ T z){c x:Nat}(hc:c<AA.length)(hk:a.nx c<(AA.getD c []).length)(h1:(Ak AA c (a.nx c)).1=1)(hg:BS AA c (a.nx c)=0)(hx:x∈a.N c):
  Xt AA (AB AA) x (AY AA c (a.nx c))=true:=by
 obtain⟨_,k,E,h2,h3,h4,h5⟩:=M.nt c x hx;have Ej:=Cj hc hk (by omega:(Ak AA c (a.nx c)).1≠4);have hlt:x<AY AA c (a.nx c):=(E.ord Ej).2 (.inr ⟨rfl,.inl h2⟩);have hx3:=(E.lt hb).1
 have hcls:C3 AA c k≠C3 AA c (a.nx c):=by
  intro e;rcases ((Ia (B8 hb hc) (B8 hb hc) E.hk hk E.kind Ej.kind).1 e).2 with h|h
  . omega
  . exact h.1 h4
 have hb1:MW (AB AA) x (AY AA c (a.nx c))=true:=by
  unfold MW;rw[E.at hb,Ej.at hb];simp[hlt,hx3]
 have hw1:Ef (Ak AA c k)=false:=by
  unfold Ef;rw[h3,show (Ak AA c k).2.2.2=0 from h4];rfl
 have hw2:Ef (Ak AA c (a.nx c))=false:=by
  unfold Ef;rw[h1,show (Ak AA c (a.nx c)).2.2.2=0 from hg];rfl
 have hwt:Rg (AA.getD c []) k (a.nx c)=false:=Yf (fun j hj1 hj2=>(h5 j hj1 hj2).1);unfold Xt;rw[hb1];unfold wM;have e1:rf AA ((AB AA).getD x zE)=Ak AA c k:=by unfold rf;rw[E.at hb];simp only[Int.toNat_natCast]
 have e2:rf AA ((AB AA).getD (AY AA c (a.nx c)) zE)=Ak AA c (a.nx c):=by unfold rf;rw[Ej.at hb];simp only[Int.toNat_natCast]
 rw[e1,e2,hw1,hw2];unfold Ad Zg;rw[E.at hb,Ej.at hb];simp only[Int.toNat_natCast];rw[hwt];have r1:Kt (Ak AA c k) 0=false:=Iw h3 0;have r2:Kt (Ak AA c (a.nx c)) 0=true:=Lm (by omega);rw[r1,r2];simp[hx3,hcls]
abbrev di (AA:List (List Dd))(a:Ab)(c f:Nat):Ab:={ BP a c with F:=fun i=>if i=AY AA c (a.nx c) then f else a.F i }
theorem MP {AA:List (List Dd)}(hb:AO AA=true){b:Bd}{a:Ab}{τ:Nat->Nat}{T:Nat}{z:Int}(M:MI AA b a τ T z)(hT:1<=T){c:Nat}(hc:c<AA.length)(hk:a.nx c<(AA.getD c []).length)(h1:(Ak AA c (a.nx c)).1=1)
  (hz:C3 AA c (a.nx c)=z) (hcan:BS AA c (a.nx c)=0\/a.N c=[]):
  ∃f,((Cm AA a τ).L (Ao AA) (c:Int) (Ak AA c (a.nx c)).2.1.toNat).getLast? = some f/\MI AA (Ai AA (AB AA) b c) (di AA a c f) (fun i=>if i=AY AA c (a.nx c) then T else τ i) T z:=by
 have h4:(Ak AA c (a.nx c)).1≠4:=by omega
 have h3:(Ak AA c (a.nx c)).1≠3:=by omega
 have E:=Cj hc hk h4;obtain⟨s1,s2,s3,s4⟩:=DM hb E;obtain⟨p,hp,ep⟩:=It hb hc hk;obtain⟨f,hf,er⟩:=ql hb M hc hp;have hN:=Ew hb a τ hc hk h4;have hrd:(Ao AA).rd (AY AA c (a.nx c))=true:=by rw[s3];exact Lm (by omega)
 have hpl:(Ao AA).pl (AY AA c (a.nx c))=p:=by rw[s2,ep,Int.toNat_natCast]
 have I:=M.inv.DL hT hN hrd (by rw[s4];exact hz) (fun x hx=>by
  rw[s1,Hc] at hx;rcases hcan with hg|hg
  . exact jr hb M hc hk h1 hg hx
  . rw[hg] at hx;cases hx) (f:=f) (by rw[s1,hpl];exact hf)
 have hx:=Bs AA
 have hd:BH AA (AB AA) b c (Ap b c)=FY (AV Ad (AB AA)) b (AY AA c (a.nx c):Int) (JH AA f) (f:Int):=by
  rw[(D3 M.Bt hc).2];unfold BH;rw[if_pos h1,JY hb hc hk h4,ep,Int.toNat_natCast,er]
 refine⟨f,by rw[ep,Int.toNat_natCast];exact hf,?_⟩
 have hst:Cm AA { BP a c with F:=fun i=>if i=AY AA c (a.nx c) then f else a.F i } (fun i=>if i=AY AA c (a.nx c) then T else τ i)=(Cm AA a τ).DL T (AY AA c (a.nx c)) f:=by
  unfold Cm Ax.DL
  congr 1
  funext j;apply propext;exact MA hb a hc hk h4 h3 j
 have aA:∀j,j<(AB AA).length->EL AA { BP a c with F:=fun i=>if i=AY AA c (a.nx c) then f else a.F i } j=(decide (j=AY AA c (a.nx c))||EL AA a j):=by
  intro j hj;show EL AA (BP a c) j=_;have:=MA hb a hc hk h4 h3 j
  cases q:EL AA (BP a c) j with
  |true=>
   rcases this.1 ⟨hj,q⟩ with h|h
   . rw[h.2];simp
   . simp[h]
  |false=>
   have n1:¬j=AY AA c (a.nx c):=fun e=>by have:=(this.2 (.inr e)).2;rw[q] at this;cases this
   have n2:EL AA a j=false:=by
    cases q2:EL AA a j with
    |false=>rfl
    |true=>have:=(this.2 (.inl ⟨hj,q2⟩)).2;rw[q] at this;cases this
   simp[n1,n2]
 unfold Ai;rw[hd];refine⟨⟨Ku M.Bt hc,M.Bt.AG,M.Bt.rws,M.Bt.AQ,M.Bt.AM,?_,?_⟩,by rw[hst];exact I,IC M.WB hk,Km M (fun h=>⟨h4,?_⟩)⟩
 ·
  show Gr (AV Ad (AB AA)) _ _ b.fr=_;rw[M.Bt.fr,Ky];refine List.map_congr_left (fun r hr=>?_);obtain⟨j,rfl,hj,_⟩:=Fh hx hr;rw[Int.toNat_natCast,aA j hj];show _=if _ then ((if j=AY AA c (a.nx c) then f else a.F j:Nat):Int) else -1
  by_cases e:j=AY AA c (a.nx c)
  . simp[e]
  . simp[e,show ¬((j:Int)=(AY AA c (a.nx c):Int)) by omega]
 ·
  show Gr (AV Ad (AB AA)) _ _ b.sn=_;rw[M.Bt.sn,Ky];refine List.map_congr_left (fun r hr=>?_);obtain⟨j,rfl,hj,_⟩:=Fh hx hr;rw[Int.toNat_natCast,aA j hj];show _=if _ then JH AA (if j=AY AA c (a.nx c) then f else a.F j) else -1
  by_cases e:j=AY AA c (a.nx c)
  . simp[e]
  . simp[e,show ¬((j:Int)=(AY AA c (a.nx c):Int)) by omega]
 ·
  rcases hcan with hg|hg
  ·
   unfold Ef;rw[h1,show (Ak AA c (a.nx c)).2.2.2=0 from hg];rfl
  . exact absurd hg h
theorem YF {AA:List (List Dd)}(hb:AO AA=true){b:Bd}{a:Ab}{τ:Nat->Nat}{T:Nat}{z:Int}(M:MI AA b a τ T z)(hT:1<=T){c:Nat}(hc:c<AA.length)(hk:a.nx c<(AA.getD c []).length)(h1:(Ak AA c (a.nx c)).1=1)
  (hz:C3 AA c (a.nx c)=z) (hcan:BS AA c (a.nx c)=0\/a.N c=[]):
  ∃f τ',((Cm AA a τ).L (Ao AA) (c:Int) (Ak AA c (a.nx c)).2.1.toNat).getLast? = some f/\MI AA (Ai AA (AB AA) b c) (di AA a c f) τ' T z:=by
 obtain⟨f,h,M'⟩:=MP hb M hT hc hk h1 hz hcan;exact⟨f,_,h,M'⟩
theorem Tl {AA:List (List Dd)}(hb:AO AA=true){j c k i:Nat}(E:Dz AA j c k i):iE AA j=(Ak AA c k).2.1/\JH AA j=Ye (Ak AA c k) i:=by
 unfold iE JH;rw[E.at hb];exact⟨rfl,rfl⟩
theorem gD {d:Dd}{i:Nat}(h:Kt d i=false):Ye d i=d.2.2.1:=by unfold Ye;rw[h];rfl
theorem jR {AA:List (List Dd)}(hb:AO AA=true)(a:Ab){c:Nat}(hc:c<AA.length)(hk:a.nx c<(AA.getD c []).length)(h2:(Ak AA c (a.nx c)).1=2){j:Nat}(hj:j<(AB AA).length)(hr:((AB AA).getD j zE).2.2.1=true):
  EL AA (BP a c) j=EL AA a j:=by
 have this:=MA hb a hc hk (by omega) (by omega) j
 have hne:j≠AY AA c (a.nx c):=by
  intro e;have E:=Cj hc hk (by omega:(Ak AA c (a.nx c)).1≠4);rw[e,E.at hb] at hr;rw[show Kt (Ak AA c (a.nx c)) 0=false from Iw h2 0] at hr;cases hr
 cases q2:EL AA a j with
 |true=>exact (this.2 (.inl ⟨hj,q2⟩)).2
 |false=>
  cases q:EL AA (BP a c) j with
  |false=>rfl
  |true=>
   rcases this.1 ⟨hj,q⟩ with h|h
   . rw[q2] at h;cases h.2
   . exact absurd h hne
theorem gL {d:Dd}(h:d.1≠3)(hg:d.2.2.2=0):Ef d=false:=by
 unfold Ef;rw[beq_eq_false_iff_ne.2 h,hg];rfl
abbrev Sz (AA:List (List Dd))(a:Ab)(c:Nat):Ab:={ BP a c with N:=fun c'=>if c'=c then a.N c'++[AY AA c (a.nx c)] else a.N c' }
abbrev qO (AA:List (List Dd))(a:Ab)(c p:Nat):Ab:={ BP a c with R:=fun q=>if q=p then a.R q++[AY AA c (a.nx c)] else a.R q }
theorem Px {AA:List (List Dd)}(hb:AO AA=true){b:Bd}{a:Ab}{τ:Nat->Nat}{T:Nat}{z:Int}(M:MI AA b a τ T z){c:Nat}(hc:c<AA.length)(hk:a.nx c<(AA.getD c []).length)(h2:(Ak AA c (a.nx c)).1=2)(hg:BS AA c (a.nx c)=0):
  MI AA (Ai AA (AB AA) b c) (Sz AA a c) τ T z:=by
 have h4:(Ak AA c (a.nx c)).1≠4:=by omega
 have h3:(Ak AA c (a.nx c)).1≠3:=by omega
 have E:=Cj hc hk h4;obtain⟨s1,s2,s3,s4⟩:=DM hb E;have hN:=Ew hb a τ hc hk h4;have hrd:(Ao AA).rd (AY AA c (a.nx c))=false:=by rw[s3];exact Iw h2 0
 have I:=M.inv.FF hN hrd;have hx:=Bs AA
 have hd:BH AA (AB AA) b c (Ap b c)={ b with AG:=b.AG.set c (b.AG.getD c []++[((Ak AA c (a.nx c)).2.1,(Ak AA c (a.nx c)).2.2.1,(AY AA c (a.nx c):Int))]) }:=by
  rw[(D3 M.Bt hc).2];unfold BH;rw[if_neg (by omega),if_neg (by omega),if_neg (by omega),if_pos h2,JY hb hc hk h4]
 have hst:Cm AA { BP a c with N:=fun c'=>if c'=c then a.N c'++[AY AA c (a.nx c)] else a.N c' } τ=(Cm AA a τ).FF (Ao AA) (AY AA c (a.nx c)):=by
  unfold Cm Ax.FF
  congr 1
  ·
   funext j;apply propext;exact MA hb a hc hk h4 h3 j
  ·
   funext c';rw[s1];show (if 0<=c' then (if c'.toNat=c then a.N c'.toNat++[AY AA c (a.nx c)] else a.N c'.toNat) else [])=if c'=(c:Int) then (if 0<=c' then a.N c'.toNat else [])++[AY AA c (a.nx c)] else (if 0<=c' then a.N c'.toNat else [])
   by_cases h0:0<=c'
   ·
    rw[if_pos h0];by_cases e:c'=(c:Int)
    . subst e;simp
    . rw[if_neg (by omega),if_neg e,if_pos h0]
   . rw[if_neg h0,if_neg (by omega),if_neg h0]
 unfold Ai;rw[hd];refine⟨⟨Ku M.Bt hc,?_,M.Bt.rws,M.Bt.AQ,M.Bt.AM,?_,?_⟩,by rw[hst];exact I,IC M.WB hk,?_⟩
 ·
  show b.AG.set c _=_;rw[FL M.Bt hc,M.Bt.AG,DT];refine List.map_congr_left (fun i _=>?_);show _=(if i=c then a.N i++[AY AA c (a.nx c)] else a.N i).map (X8 AA);split
  ·
   rename_i e;subst e;rw[List.map_append]
   congr 1
   show _=[X8 AA _];unfold X8;rw[(Tl hb E).1,(Tl hb E).2,gD (Iw h2 0)]
  . rfl
 ·
  show b.fr=_;rw[M.Bt.fr];refine List.map_congr_left (fun r hr=>?_);obtain⟨j,rfl,hj,hjr⟩:=Fh hx hr;rw[Int.toNat_natCast];show _=if EL AA (BP a c) j=true then _ else _
  rw[jR hb a hc hk h2 hj hjr];rfl
 ·
  show b.sn=_;rw[M.Bt.sn];refine List.map_congr_left (fun r hr=>?_);obtain⟨j,rfl,hj,hjr⟩:=Fh hx hr;rw[Int.toNat_natCast];show _=if EL AA (BP a c) j=true then _ else _
  rw[jR hb a hc hk h2 hj hjr];rfl
 ·
  intro c' x hxm;have old:=Km M (c:=c) (fun _=>⟨h4,gL h3 hg⟩);change x∈(if c'=c then a.N c'++[AY AA c (a.nx c)] else a.N c') at hxm;by_cases e:c'=c
  ·
   rw[if_pos e,List.mem_append] at hxm;rcases hxm with hxm|hxm
   . exact old c' x hxm
   ·
    have ex:x=AY AA c (a.nx c):=by simpa using hxm
    subst e;refine⟨hc,a.nx c',by rw[ex];exact E,?_,h2,hg,fun k' h1 h2'=>?_⟩
    ·
     show a.nx c'<(BP a c').nx c';rw[C5,if_pos rfl];omega
    ·
     change k'<(BP a c').nx c' at h2';rw[C5,if_pos rfl] at h2';omega
  ·
   rw[if_neg e] at hxm;exact old c' x hxm
theorem N2 {AA:List (List Dd)}(hb:AO AA=true){b:Bd}{a:Ab}{τ:Nat->Nat}{T:Nat}{z:Int}(M:MI AA b a τ T z)(hT:1<=T){c:Nat}(hc:c<AA.length)(hk:a.nx c<(AA.getD c []).length)(h2:(Ak AA c (a.nx c)).1=2)(hg:BS AA c (a.nx c)≠0)
  (hz:C3 AA c (a.nx c)=z) (hN0:a.N c=[]):
  MI AA (Ai AA (AB AA) b c) (qO AA a c (Ak AA c (a.nx c)).2.1.toNat) (fun i=>if i=AY AA c (a.nx c) then T else τ i) T z:=by
 have h4:(Ak AA c (a.nx c)).1≠4:=by omega
 have h3:(Ak AA c (a.nx c)).1≠3:=by omega
 have E:=Cj hc hk h4;obtain⟨s1,s2,s3,s4⟩:=DM hb E;obtain⟨p,hp,ep⟩:=It hb hc hk;have hN:=Ew hb a τ hc hk h4;have hrd:(Ao AA).rd (AY AA c (a.nx c))=false:=by rw[s3];exact Iw h2 0
 have hpl:(Ao AA).pl (AY AA c (a.nx c))=p:=by rw[s2,ep,Int.toNat_natCast]
 have I:=M.inv.Dn hT hN hrd (by rw[s4];exact hz) (by rw[s1,Hc];exact hN0);have hx:=Bs AA;have hg0:0<BS AA c (a.nx c):=by have:=(Zx (B8 hb hc) hk).1;omega
 have hd:BH AA (AB AA) b c (Ap b c)=Dq b p (Ak AA c (a.nx c)).2.2.1 (AY AA c (a.nx c):Int):=by
  rw[(D3 M.Bt hc).2];unfold BH;rw[if_neg (by omega),if_neg (by omega),if_pos ⟨h2,hg0⟩,JY hb hc hk h4,ep,Int.toNat_natCast]
 rw[ep,Int.toNat_natCast]
 have hst:Cm AA { BP a c with R:=fun q=>if q=p then a.R q++[AY AA c (a.nx c)] else a.R q } (fun i=>if i=AY AA c (a.nx c) then T else τ i)=(Cm AA a τ).Dn (Ao AA) T (AY AA c (a.nx c)):=by
  unfold Cm Ax.Dn;rw[hpl]
  congr 1
  funext j;apply propext;exact MA hb a hc hk h4 h3 j
 have hla:∀q,Be { BP a c with R:=fun q=>if q=p then a.R q++[AY AA c (a.nx c)] else a.R q } q=if q=p then AY AA c (a.nx c) else Be a q:=by
  intro q;unfold Be;show ((if q=p then a.R q++[AY AA c (a.nx c)] else a.R q).getLast?).getD q=_;split
  . simp
  . rfl
 unfold Ai;rw[hd];refine⟨⟨Ku M.Bt hc,M.Bt.AG,?_,?_,?_,?_,?_⟩,by rw[hst];exact I,IC M.WB hk,Km M (fun h=>absurd hN0 h)⟩
 ·
  show b.rws.set p (b.rws.getD p []++[(AY AA c (a.nx c):Int)])=_;rw[(Gh M.Bt hp).2.2,M.Bt.rws,DT];refine List.map_congr_left (fun q _=>?_);show _=(if q=p then a.R q++[AY AA c (a.nx c)] else a.R q).map Int.ofNat;split
  . rename_i e;subst e;rw[List.map_append];rfl
  . rfl
 ·
  show b.AQ.set p (AY AA c (a.nx c):Int)=_;rw[M.Bt.AQ,DT];refine List.map_congr_left (fun q _=>?_);rw[hla];split<;>rfl
 ·
  show b.AM.set p (Ak AA c (a.nx c)).2.2.1=_;rw[M.Bt.AM,DT];refine List.map_congr_left (fun q _=>?_);rw[hla];split
  . rw[(Tl hb E).2,gD (Iw h2 0)]
  . rfl
 ·
  show b.fr=_;rw[M.Bt.fr];refine List.map_congr_left (fun r hr=>?_);obtain⟨j,rfl,hj,hjr⟩:=Fh hx hr;rw[Int.toNat_natCast];show _=if EL AA (BP a c) j=true then _ else _
  rw[jR hb a hc hk h2 hj hjr];rfl
 ·
  show b.sn=_;rw[M.Bt.sn];refine List.map_congr_left (fun r hr=>?_);obtain⟨j,rfl,hj,hjr⟩:=Fh hx hr;rw[Int.toNat_natCast];show _=if EL AA (BP a c) j=true then _ else _
  rw[jR hb a hc hk h2 hj hjr];rfl
theorem dD {AA:List (List Dd)}(hb:AO AA=true){b:Bd}{a:Ab}{τ:Nat->Nat}{T:Nat}{z:Int}(M:MI AA b a τ T z)(hT:1<=T){c:Nat}(hc:c<AA.length)(hk:a.nx c<(AA.getD c []).length)(h2:(Ak AA c (a.nx c)).1=2)(hg:BS AA c (a.nx c)≠0)
  (hz:C3 AA c (a.nx c)=z) (hN0:a.N c=[]):
  ∃ τ',MI AA (Ai AA (AB AA) b c) (qO AA a c (Ak AA c (a.nx c)).2.1.toNat) τ' T z:=⟨_,N2 hb M hT hc hk h2 hg hz hN0⟩
abbrev fO (AA:List (List Dd))(a:Ab)(c p:Nat):Ab:={ BP a c with F:=fun i=>if i=AY AA c (a.nx c) then Be a p else a.F i,R:=fun q=>if q=p then a.R q++[AY AA c (a.nx c)+1] else a.R q }
abbrev Qf (a:Ab)(c p x:Nat)(rest:List Nat):Ab:={ a with N:=fun c'=>if c'=c then rest else a.N c',R:=fun q=>if q=p then a.R q++[x] else a.R q }
theorem MQ {AA:List (List Dd)}(hb:AO AA=true){b:Bd}{a:Ab}{τ:Nat->Nat}{T:Nat}{z:Int}(M:MI AA b a τ T z)(hT:1<=T){c:Nat}(hc:c<AA.length)(hk:a.nx c<(AA.getD c []).length)(h3:(Ak AA c (a.nx c)).1=3)
  (hz:C3 AA c (a.nx c)=z) (hN0:a.N c=[]):
  MI AA (Ai AA (AB AA) b c) (fO AA a c (Ak AA c (a.nx c)).2.1.toNat) (fun i=>if i=AY AA c (a.nx c)+1 then T else if i=AY AA c (a.nx c) then T else τ i) T z:=by
 have h4:(Ak AA c (a.nx c)).1≠4:=by omega
 have E:=Cj hc hk h4;have E2:=Ib hc hk h3;obtain⟨s1,s2,s3,s4⟩:=DM hb E;obtain⟨r1,r2,r3,r4⟩:=DM hb E2;obtain⟨p,hp,ep⟩:=It hb hc hk;have hN:=Ew hb a τ hc hk h4;have hrd:(Ao AA).rd (AY AA c (a.nx c))=true:=by rw[s3];exact Lm (by omega)
 have hrd2:(Ao AA).rd (AY AA c (a.nx c)+1)=false:=by rw[r3];exact Ji _
 have hpl:(Ao AA).pl (AY AA c (a.nx c))=p:=by rw[s2,ep,Int.toNat_natCast]
 have hpl2:(Ao AA).pl (AY AA c (a.nx c)+1)=p:=by rw[r2,ep,Int.toNat_natCast]
 have hlast:=Pj M.inv hp
 have I1:=M.inv.DL hT hN hrd (by rw[s4];exact hz) (fun x hx=>by rw[s1,Hc,hN0] at hx;cases hx) (f:=Be a p) (by
  rw[s1,hpl];unfold Ax.L;rw[Hc,hN0];show (a.R p++[].filter _).getLast? = _;rw[List.filter_nil,List.append_nil]
  exact hlast)
 have hN2:tY (Ao AA) ((Cm AA a τ).DL T (AY AA c (a.nx c)) (Be a p)) (AY AA c (a.nx c)+1):=by
  have hl:=E2.lt hb;refine⟨hl.1,hl.2,?_,?_,?_⟩
  ·
   rintro (⟨_,h⟩|h)
   . rw[KN hb E2,decide_eq_true_eq] at h;omega
   . omega
  ·
   intro i h3' hi hck;by_cases e:i=AY AA c (a.nx c)
   . exact .inr e
   . exact .inl (hN.all i h3' (by omega) (by rw[hck,r1,s1]))
  ·
   rintro i (h|h) h3' hck
   . have:=hN.last i h h3' (by rw[hck,r1,s1]);omega
   . omega
 have I:=I1.Dn hT hN2 hrd2 (by rw[r4];exact hz) (by rw[r1];show (Cm AA a τ).N (c:Int)=[];rw[Hc];exact hN0);have hx:=Bs AA;obtain⟨l1,l2,l3⟩:=Gh M.Bt hp
 have hd:BH AA (AB AA) b c (Ap b c)=Dq (FY (AV Ad (AB AA)) b (AY AA c (a.nx c):Int) (JH AA (Be a p)) (Be a p:Int)) p (Ak AA c (a.nx c)).2.2.1 ((AY AA c (a.nx c):Int)+1):=by
  rw[(D3 M.Bt hc).2];unfold BH;rw[if_neg (by omega),if_pos h3,JY hb hc hk h4,ep,Int.toNat_natCast,l1,l2]
 rw[ep,Int.toNat_natCast]
 have hst:Cm AA { BP a c with F:=fun i=>if i=AY AA c (a.nx c) then Be a p else a.F i,R:=fun q=>if q=p then a.R q++[AY AA c (a.nx c)+1] else a.R q } (fun i=>if i=AY AA c (a.nx c)+1 then T else if i=AY AA c (a.nx c) then T else τ i) =
   ((Cm AA a τ).DL T (AY AA c (a.nx c)) (Be a p)).Dn (Ao AA) T (AY AA c (a.nx c)+1):=by
  unfold Cm Ax.Dn Ax.DL;rw[hpl2]
  congr 1
  funext j;apply propext;exact ZC hb a hc hk h3 j
 have aA:∀j,j<(AB AA).length->((AB AA).getD j zE).2.2.1=true->EL AA (BP a c) j=(decide (j=AY AA c (a.nx c))||EL AA a j):=by
  intro j hj hjr;have this:=ZC hb a hc hk h3 j
  have hne:j≠AY AA c (a.nx c)+1:=by
   intro e;rw[e,E2.at hb,show Kt (Ak AA c (a.nx c)) 1=false from Ji _] at hjr;cases hjr
  cases q:EL AA (BP a c) j with
  |true=>
   rcases this.1 ⟨hj,q⟩ with (h|h)|h
   . rw[h.2];simp
   . simp[h]
   . exact absurd h hne
  |false=>
   have n1:¬j=AY AA c (a.nx c):=fun e=>by have:=(this.2 (.inl (.inr e))).2;rw[q] at this;cases this
   have n2:EL AA a j=false:=by
    cases q2:EL AA a j with
    |false=>rfl
    |true=>have:=(this.2 (.inl (.inl ⟨hj,q2⟩))).2;rw[q] at this;cases this
   simp[n1,n2]
 have hla:∀q,Be { BP a c with F:=fun i=>if i=AY AA c (a.nx c) then Be a p else a.F i,R:=fun q=>if q=p then a.R q++[AY AA c (a.nx c)+1] else a.R q } q=if q=p then AY AA c (a.nx c)+1 else Be a q:=by
  intro q;unfold Be;show ((if q=p then a.R q++[AY AA c (a.nx c)+1] else a.R q).getLast?).getD q=_;split
  . simp
  . rfl
 unfold Ai;rw[hd];refine⟨⟨Ku M.Bt hc,M.Bt.AG,?_,?_,?_,?_,?_⟩,by rw[hst];exact I,IC M.WB hk,Km M (fun h=>absurd hN0 h)⟩
 ·
  show b.rws.set p (b.rws.getD p []++[(AY AA c (a.nx c):Int)+1])=_;rw[l3,M.Bt.rws,DT];refine List.map_congr_left (fun q _=>?_);show _=(if q=p then a.R q++[AY AA c (a.nx c)+1] else a.R q).map Int.ofNat;split
  . rename_i e;subst e;rw[List.map_append];rfl
  . rfl
 ·
  show b.AQ.set p ((AY AA c (a.nx c):Int)+1)=_;rw[M.Bt.AQ,DT];refine List.map_congr_left (fun q _=>?_);rw[hla];split<;>rfl
 ·
  show b.AM.set p (Ak AA c (a.nx c)).2.2.1=_;rw[M.Bt.AM,DT];refine List.map_congr_left (fun q _=>?_);rw[hla];split
  . rw[(Tl hb E2).2,gD (Ji _)]
  . rfl
 ·
  show Gr (AV Ad (AB AA)) _ _ b.fr=_;rw[M.Bt.fr,Ky];refine List.map_congr_left (fun r hr=>?_);obtain⟨j,rfl,hj,hjr⟩:=Fh hx hr;rw[Int.toNat_natCast];show _=if EL AA (BP a c) j=true then ((if j=AY AA c (a.nx c) then Be a p else a.F j:Nat):Int) else -1
  rw[aA j hj hjr];by_cases e:j=AY AA c (a.nx c)
  . simp[e]
  . simp[e,show ¬((j:Int)=(AY AA c (a.nx c):Int)) by omega]
 ·
  show Gr (AV Ad (AB AA)) _ _ b.sn=_;rw[M.Bt.sn,Ky];refine List.map_congr_left (fun r hr=>?_);obtain⟨j,rfl,hj,hjr⟩:=Fh hx hr;rw[Int.toNat_natCast];show _=if EL AA (BP a c) j=true then JH AA (if j=AY AA c (a.nx c) then Be a p else a.F j) else -1
  rw[aA j hj hjr];by_cases e:j=AY AA c (a.nx c)
  . simp[e]
  . simp[e,show ¬((j:Int)=(AY AA c (a.nx c):Int)) by omega]
theorem YG {AA:List (List Dd)}(hb:AO AA=true){b:Bd}{a:Ab}{τ:Nat->Nat}{T:Nat}{z:Int}(M:MI AA b a τ T z)(hT:1<=T){c:Nat}(hc:c<AA.length)(hk:a.nx c<(AA.getD c []).length)(h3:(Ak AA c (a.nx c)).1=3)
  (hz:C3 AA c (a.nx c)=z) (hN0:a.N c=[]):
  ∃ τ',MI AA (Ai AA (AB AA) b c) (fO AA a c (Ak AA c (a.nx c)).2.1.toNat) τ' T z:=⟨_,MQ hb M hT hc hk h3 hz hN0⟩
theorem ME {AA:List (List Dd)}(hb:AO AA=true){b:Bd}{a:Ab}{τ:Nat->Nat}{T:Nat}{z:Int}(M:MI AA b a τ T z){c:Nat}(hc:c<AA.length){x:Nat}{rest:List Nat}(hN:a.N c=x::rest):
  MI AA (BA b c) (Qf a c ((Ao AA).pl x) x rest) (fun i=>if i=x then T+1 else τ i) (T+1) ((Ao AA).cs x):=by
 obtain⟨_,k,E,h1,h2,h3,h5⟩:=M.nt c x (by rw[hN];simp);obtain⟨s1,s2,s3,s4⟩:=DM hb E;obtain⟨p,hp,ep⟩:=It hb E.hc E.hk;have hpl:(Ao AA).pl x=p:=by rw[s2,ep,Int.toNat_natCast]
 have hst0:(Cm AA a τ).N (c:Int)=x::rest:=by rw[Hc];exact hN
 have I0:=M.inv.tick ((Ao AA).cs x) (fun i hi h3' e=>by
  obtain⟨c',k',i',E'⟩:=GV hb h3' hi.1.1;rw[(DM hb E').2.2.2,s4] at e;have hc':=(Ia (B8 hb E'.hc) (B8 hb E.hc) E'.hk E.hk E'.kind E.kind).1 e;obtain⟨rfl,hq⟩:=hc'
  have hkk:k'=k:=by
   rcases hq with hq|hq
   . exact hq
   . exact absurd (hq.2.trans h3) hq.1
  subst hkk;have e1:=(Mi E' (by omega)).1;have e2:=(Mi E (by omega)).1;have exx:i=x:=by omega
  subst exx
  exact hi.2 (by rw[s1,hst0];simp))
 have I:=I0.Cg (by omega) hst0 rfl;have hx:=Bs AA
 have hfl:BA b c=Dq { b with AG:=b.AG.set c (rest.map (X8 AA)) } p (JH AA x) (x:Int):=by
  unfold BA;rw[FL M.Bt hc,hN,List.map_cons];show Dq _ (iE AA x).toNat (JH AA x) (x:Int)=_;rw[(Tl hb E).1,ep,Int.toNat_natCast]
 rw[hpl]
 have hst:Cm AA { a with N:=fun c'=>if c'=c then rest else a.N c',R:=fun q=>if q=p then a.R q++[x] else a.R q } (fun i=>if i=x then T+1 else τ i)=(Cm AA a τ).Cg (Ao AA) (T+1) (c:Int) x rest:=by
  unfold Cm Ax.Cg;rw[hpl]
  congr 1
  funext c';show (if 0<=c' then (if c'.toNat=c then rest else a.N c'.toNat) else [])=if c'=(c:Int) then rest else (if 0<=c' then a.N c'.toNat else [])
  by_cases h0:0<=c'
  ·
   rw[if_pos h0];by_cases e:c'=(c:Int)
   . subst e;simp
   . rw[if_neg (by omega),if_neg e,if_pos h0]
  . rw[if_neg h0,if_neg (by omega),if_neg h0]
 have hla:∀q,Be { a with N:=fun c'=>if c'=c then rest else a.N c',R:=fun q=>if q=p then a.R q++[x] else a.R q } q=if q=p then x else Be a q:=by
  intro q;unfold Be;show ((if q=p then a.R q++[x] else a.R q).getLast?).getD q=_;split
  . simp
  . rfl
 rw[hfl];refine⟨⟨M.Bt.AK,?_,?_,?_,?_,M.Bt.fr,M.Bt.sn⟩,by rw[hst];exact I,M.WB,?_⟩
 ·
  show b.AG.set c _=_;rw[M.Bt.AG,DT];refine List.map_congr_left (fun i _=>?_);show _=(if i=c then rest else a.N i).map (X8 AA);split<;>rfl
 ·
  show b.rws.set p (b.rws.getD p []++[(x:Int)])=_;rw[(Gh M.Bt hp).2.2,M.Bt.rws,DT];refine List.map_congr_left (fun q _=>?_);show _=(if q=p then a.R q++[x] else a.R q).map Int.ofNat;split
  . rename_i e;subst e;rw[List.map_append];rfl
  . rfl
 ·
  show b.AQ.set p (x:Int)=_;rw[M.Bt.AQ,DT];refine List.map_congr_left (fun q _=>?_);rw[hla];split<;>rfl
 ·
  show b.AM.set p (JH AA x)=_;rw[M.Bt.AM,DT];refine List.map_congr_left (fun q _=>?_);rw[hla];split<;>rfl
 ·
  intro c' y hy;refine M.nt c' y ?_;change y∈(if c'=c then rest else a.N c') at hy;split at hy
  . rename_i e;subst e;rw[hN];exact List.mem_cons_of_mem _ hy
  . exact hy
theorem Xi {AA:List (List Dd)}(hb:AO AA=true){b:Bd}{a:Ab}{τ:Nat->Nat}{T:Nat}{z:Int}(M:MI AA b a τ T z){c:Nat}(hc:c<AA.length){x:Nat}{rest:List Nat}(hN:a.N c=x::rest):
  ∃ τ',MI AA (BA b c) (Qf a c ((Ao AA).pl x) x rest) τ' (T+1) ((Ao AA).cs x):=⟨_,ME hb M hc hN⟩
end Go.Proofs.YtnmelakgmgenjaaGreat
