/- Gathered texts. -/
import Derived.Test.YtnmelakgmgenjaaGreatMA
set_option maxRecDepth 100000
set_option maxHeartbeats 8000000
namespace Go.Proofs.YtnmelakgmgenjaaGreat
open Go.RowKit
theorem Fx.PT {S:TD}{s:BE}{T:Nat}{z:Int}(h:Fx S s T z){r:Nat}(hx:s.X r)(hr:S.rd r=true):s.D S r:=
 ⟨hx,fun hn=>by have:=(h.note _ _ hn).2.2.2;rw[hr] at this;cases this⟩
theorem Fx.tick {S:TD}{s:BE}{T:Nat}{z:Int}(h:Fx S s T z)(z':Int)(hz:∀i,s.D S i->3<=i->S.cs i≠z'):Fx S s (T+1) z':=
 { h with
  OS:=fun j hj=>Nat.le_succ_of_le (h.OS j hj)
  now:=fun i hi h3=>⟨fun e=>by have:=h.OS i hi;omega,fun e=>absurd e (hz i hi h3)⟩ }
def BE.FO (S:TD)(s:BE)(j:Nat):BE:={ s with X:=fun i=>s.X i\/i=j,N:=fun c=>if c=S.ck j then s.N c++[j] else s.N c }
def BE.DJ (s:BE)(T j f:Nat):BE:={ s with X:=fun i=>s.X i\/i=j,F:=fun i=>if i=j then f else s.F i,τ:=fun i=>if i=j then T else s.τ i }
def BE.Dm (S:TD)(s:BE)(T j:Nat):BE:={ s with X:=fun i=>s.X i\/i=j,R:=fun p=>if p=S.pl j then s.R p++[j] else s.R p,τ:=fun i=>if i=j then T else s.τ i }
def BE.Ck (S:TD)(s:BE)(T:Nat)(c:Int)(x:Nat)(rest:List Nat):BE:={ s with N:=fun c'=>if c'=c then rest else s.N c',R:=fun p=>if p=S.pl x then s.R p++[x] else s.R p,τ:=fun i=>if i=x then T else s.τ i }
theorem Fx.FO {S:TD}{s:BE}{T:Nat}{z:Int}(h:Fx S s T z){j:Nat}(hn:qB S s j)(hr:S.rd j=false):Fx S (s.FO S j) T z:=by
 have hne:∀i,s.X i->i≠j:=fun i hi e=>hn.new (by rw[<-e];exact hi)
 have OH:∀c x,x∈(s.FO S j).N c↔x∈s.N c\/(c=S.ck j/\x=j):=by
  intro c x;show x∈(if c=S.ck j then s.N c++[j] else s.N c)↔_;split
  . rename_i e;simp[e]
  . rename_i e;simp[e]
 have hD:∀i,(s.FO S j).D S i↔s.D S i:=by
  intro i;unfold BE.D;rw[OH];show ((s.X i\/i=j)/\_)↔_;constructor
  ·
   rintro⟨h1|rfl,h2⟩
   . exact⟨h1,fun hm=>h2 (.inl hm)⟩
   . exact absurd (.inr ⟨rfl,rfl⟩) h2
  ·
   rintro⟨h1,h2⟩;refine⟨.inl h1,?_⟩;rintro (hm|⟨_,e⟩)
   . exact h2 hm
   . exact hne i h1 e
 have hsub:∀c p,(s.L S c p).Sublist ((s.FO S j).L S c p):=by
  intro c p;refine List.Sublist.append (List.Sublist.refl _) ?_;show List.Sublist _ ((if c=S.ck j then s.N c++[j] else s.N c).filter _);split
  . rw[List.filter_append];exact List.sublist_append_left _ _
  . exact List.Sublist.refl _
 have hlast:(s.FO S j).L S (S.ck j) (S.pl j)=s.L S (S.ck j) (S.pl j)++[j]:=by
  unfold BE.L BE.FO;simp[List.filter_append]
 have hv:∀i,(s.FO S j).v S i=s.v S i:=fun i=>rfl
 have jW:s.v S j=j:=by unfold BE.v;rw[hr];rfl
 refine { h with FC:=fun i hi=>⟨.inl (h.FC i hi).1,(h.FC i hi).2⟩,lt:=?_,down:=?_,note:=?_,LQ:=?_,pend:=?_,rows:=?_,OS:=?_,tpos:=?_,same:=?_,QW:=?_,now:=?_,kept:=?_,src:=?_,MZ:=?_,Xn:=?_,fQ:=?_,TR:=?_ }
 ·
  rintro i (hi|rfl)
  . exact h.lt i hi
  . exact hn.lt
 ·
  rintro i k (hk|rfl) h3 hik hc
  . exact .inl (h.down i k hk h3 hik hc)
  . exact .inl (hn.all i h3 hik hc)
 ·
  intro c x hx;rcases (OH c x).1 hx with hx|⟨rfl,rfl⟩
  . exact⟨.inl (h.note c x hx).1,(h.note c x hx).2⟩
  . exact⟨.inr rfl,hn.three,rfl,hr⟩
 ·
  intro c;show (if c=S.ck j then s.N c++[j] else s.N c).Pairwise _;split
  ·
   rename_i e;rw[List.pairwise_append];refine⟨h.LQ c,by simp,fun x hx y hy=>?_⟩;have hy':y=j:=by simpa using hy
   subst hy';have hq:=h.note c x hx;exact hn.last x hq.1 hq.2.1 (by rw[hq.2.2.1,e])
  . exact h.LQ c
 ·
  intro c x k hx hk hxk hc;rcases (OH c x).1 hx with hx|⟨rfl,rfl⟩
  ·
   rcases hk with hk|rfl
   ·
    rcases h.pend c x k hx hk hxk hc with hp|hp
    . exact .inl hp
    . exact .inr ((OH c k).2 (.inl hp))
   . exact .inr ((OH c k).2 (.inr ⟨hc.symm,rfl⟩))
  ·
   rcases hk with hk|rfl
   . have:=hn.last k hk (by have:=hn.three;omega) hc;omega
   . omega
 . intro p x;rw[hD];exact h.rows p x
 . intro i hi;exact h.OS i ((hD i).1 hi)
 . intro i hi;exact h.tpos i ((hD i).1 hi)
 . intro i k hi hk;exact h.same i k ((hD i).1 hi) ((hD k).1 hk)
 . intro i k hi hk;exact h.QW i k ((hD i).1 hi) ((hD k).1 hk)
 . intro i hi;exact h.now i ((hD i).1 hi)
 . intro i k hi hk;exact h.kept i k ((hD i).1 hi) ((hD k).1 hk)
 ·
  rintro r (hx|rfl) hrd
  ·
   obtain⟨a,b,c,d⟩:=h.src r hx hrd;exact⟨.inl a,b,c,d.imp id (fun d=>⟨(hD _).2 d.1,d.2⟩)⟩
  . rw[hr] at hrd;cases hrd
 ·
  rintro r w p (hx|rfl) hrd hb
  . exact h.MZ r w p hx hrd hb
  . rw[hr] at hrd;cases hrd
 ·
  rintro i (hi|rfl) h3
  . exact (hsub _ _).subset (h.Xn i hi h3)
  . rw[hlast,hv,jW];simp
 ·
  rintro i k (hi|rfl) (hk|rfl) h3 hik hc hp
  . exact (h.fQ i k hi hk h3 hik hc hp).imp id (fun hb=>hb.trans (hsub _ _))
  ·
   refine .inr ?_;rw[hc,hp,hlast,hv,hv,jW,<-hc,<-hp];exact Md (h.Xn i hi h3)
  . have:=hn.last k hk (by omega) hc.symm;omega
  . omega
 ·
  rintro i k (hi|rfl) (hk|rfl) h3 hik hc hp h1 h2
  . exact h.TR i k hi hk h3 hik hc hp h1 h2
  . exact hne _ (h.src i hi h1).1
  . have:=hn.last k hk (by omega) hc.symm;omega
  . omega
theorem Fx.DJ {S:TD}{s:BE}{T:Nat}{z:Int}(h:Fx S s T z)(hT:1<=T){j f:Nat}(hn:qB S s j)(hr:S.rd j=true)(hz:S.cs j=z)(hex:∀x,x∈s.N (S.ck j)->S.ex x j=true)
  (hf:(s.L S (S.ck j) (S.pl j)).getLast? = some f):Fx S (s.DJ T j f) T z:=by
 have hne:∀i,s.X i->i≠j:=fun i hi e=>hn.new (by rw[<-e];exact hi)
 have hD:∀i,(s.DJ T j f).D S i↔s.D S i\/i=j:=by
  intro i;show ((s.X i\/i=j)/\i∉s.N (S.ck i))↔_;constructor
  ·
   rintro⟨h1|rfl,h2⟩
   . exact .inl ⟨h1,h2⟩
   . exact .inr rfl
  ·
   rintro (⟨h1,h2⟩|rfl)
   . exact⟨.inl h1,h2⟩
   . exact⟨.inr rfl,fun hm=>hn.new (h.note _ _ hm).1⟩
 have hτ:∀i,i≠j->(s.DJ T j f).τ i=s.τ i:=fun i hi=>by show (if i=j then T else s.τ i)=_;rw[if_neg hi]
 have O0:(s.DJ T j f).τ j=T:=by show (if j=j then T else s.τ j)=T;rw[if_pos rfl]
 have hF:∀i,i≠j->(s.DJ T j f).F i=s.F i:=fun i hi=>by show (if i=j then f else s.F i)=_;rw[if_neg hi]
 have yo:(s.DJ T j f).F j=f:=by show (if j=j then f else s.F j)=f;rw[if_pos rfl]
 have hv:∀i,i≠j->(s.DJ T j f).v S i=s.v S i:=fun i hi=>by unfold BE.v;rw[hF i hi]
 have jW:(s.DJ T j f).v S j=f:=by unfold BE.v;rw[hr,yo];rfl
 have hfm:f∈s.L S (S.ck j) (S.pl j):=List.mem_of_getLast? hf
 have hfX:s.X f/\S.rd f=false/\S.pl f=S.pl j/\((3<=f/\S.ck f=S.ck j/\f∈s.N (S.ck j))\/s.D S f):=by
  unfold BE.L at hfm;rw[List.mem_append,List.mem_filter] at hfm;rcases hfm with hm|⟨hm,hp⟩
  ·
   obtain⟨a,b,c⟩:=(h.rows _ _).1 hm;exact⟨a.1,b,c,.inr a⟩
  ·
   obtain⟨a,b,c,d⟩:=h.note _ _ hm;exact⟨a,d,by simpa using hp,.inl ⟨b,c,hm⟩⟩
 refine { h with FC:=fun i hi=>⟨.inl (h.FC i hi).1,(h.FC i hi).2.1,(h.FC i hi).2.2.1,(h.FC i hi).2.2.2.1,by rw[hτ i (hne i (h.FC i hi).1)];exact (h.FC i hi).2.2.2.2.1,(h.FC i hi).2.2.2.2.2⟩,lt:=?_,down:=?_,note:=?_,pend:=?_,rows:=?_,UE:=?_,OS:=?_,tpos:=?_,same:=?_,QW:=?_,now:=?_,kept:=?_,src:=?_,MZ:=?_,Xn:=?_,fQ:=?_,TR:=?_ }
 ·
  rintro i (hi|rfl)
  . exact h.lt i hi
  . exact hn.lt
 ·
  rintro i k (hk|rfl) h3 hik hc
  . exact .inl (h.down i k hk h3 hik hc)
  . exact .inl (hn.all i h3 hik hc)
 ·
  intro c x hx;exact⟨.inl (h.note c x hx).1,(h.note c x hx).2⟩
 ·
  rintro c x k hx (hk|rfl) hxk hc
  . exact h.pend c x k hx hk hxk hc
  . exact .inl ⟨hr,hex x (by rw[hc];exact hx)⟩
 ·
  intro p x;rw[hD];refine (h.rows p x).trans ⟨fun ⟨a,b⟩=>⟨.inl a,b⟩,fun ⟨a,b⟩=>⟨a.resolve_right (fun e=>?_),b⟩⟩;rw[e,hr] at b;cases b.1
 ·
  intro p;refine (h.UE p).imp_of_mem (fun {x y} hx hy hxy=>?_);rw[hτ x (hne x ((h.rows p x).1 hx).1.1),hτ y (hne y ((h.rows p y).1 hy).1.1)];exact hxy
 ·
  intro i hi;rcases (hD i).1 hi with hi|rfl
  . rw[hτ i (hne i hi.1)];exact h.OS i hi
  . rw[O0];exact Nat.le_refl _
 ·
  intro i hi h3;rcases (hD i).1 hi with hi|rfl
  . rw[hτ i (hne i hi.1)];exact h.tpos i hi h3
  . rw[O0];exact hT
 ·
  intro i k hi hk h3 h3' e;rcases (hD i).1 hi with ai|rfl<;>rcases (hD k).1 hk with ak|rfl
  . rw[hτ i (hne i ai.1),hτ k (hne k ak.1)] at e;exact h.same i k ai ak h3 h3' e
  . rw[hτ i (hne i ai.1),O0] at e;rw[hz];exact (h.now i ai h3).1 e
  . rw[hτ k (hne k ak.1),O0] at e;rw[hz];exact ((h.now k ak h3').1 e.symm).symm
  . rfl
 ·
  intro i k hi hk h3 h3' e;rcases (hD i).1 hi with ai|rfl<;>rcases (hD k).1 hk with ak|rfl
  . rw[hτ i (hne i ai.1),hτ k (hne k ak.1)];exact h.QW i k ai ak h3 h3' e
  . rw[hτ i (hne i ai.1),O0];exact (h.now i ai h3).2 (by rw[e,hz])
  . rw[hτ k (hne k ak.1),O0];exact ((h.now k ak h3').2 (by rw[<-e,hz])).symm
  . rfl
 ·
  intro i hi h3;rcases (hD i).1 hi with hi|rfl
  . rw[hτ i (hne i hi.1)];exact h.now i hi h3
  . rw[O0,hz];simp
 ·
  intro i k hi hk h3 hik hc hcs hx;rcases (hD i).1 hi with ai|rfl<;>rcases (hD k).1 hk with ak|rfl
  . rw[hτ i (hne i ai.1),hτ k (hne k ak.1)];exact h.kept i k ai ak h3 hik hc hcs hx
  ·
   rw[hτ i (hne i ai.1),O0];have h1:=h.OS i ai;have h2:s.τ i≠T:=fun e=>hcs (by rw[hz];exact (h.now i ai h3).1 e)
   omega
  . have:=hn.last k ak.1 (by omega) hc.symm;omega
  . omega
 ·
  rintro r (hx|rfl) hrd
  ·
   rw[hF r (hne r hx),hτ r (hne r hx)];obtain⟨a,b,c,d⟩:=h.src r hx hrd;exact⟨.inl a,b,c,d.imp id (fun d=>⟨(hD _).2 (.inl d.1),by rw[hτ _ (hne _ d.1.1)];exact d.2⟩)⟩
  ·
   rw[yo,O0];obtain⟨a,b,c,d⟩:=hfX;exact⟨.inl a,b,c,d.imp (fun d=>⟨d.1,d.2.1⟩) (fun d=>⟨(hD _).2 (.inl d),by rw[hτ _ (hne _ a)];exact h.OS _ d⟩)⟩
 ·
  rintro r w p (hx|rfl) hrd hb
  ·
   rw[hF r (hne r hx)] at hb;have hw:=(h.rows p w).1 (UV hb).2;rw[hτ r (hne r hx),hτ w (hne w hw.1.1)];exact h.MZ r w p hx hrd hb
  ·
   rw[yo] at hb;exfalso;have hm:f∈s.R p:=(UV hb).1;obtain⟨q1,q2,q3⟩:=(h.rows p f).1 hm;have hp:p=S.pl r:=by rw[<-q3];exact hfX.2.2.1
   subst hp
   have he:(s.N (S.ck r)).filter (fun x=>S.pl x==S.pl r)=[]:=by
    apply Classical.byContradiction;intro hne';unfold BE.L at hf
    have hf2:((s.N (S.ck r)).filter (fun x=>S.pl x==S.pl r)).getLast? = some f:=by
     rw[List.getLast?_append] at hf
     cases hq:((s.N (S.ck r)).filter (fun x=>S.pl x==S.pl r)).getLast? with
     |none=>exact absurd (List.getLast?_eq_none_iff.1 hq) hne'
     |some y=>rw[hq] at hf;exact hf
    have:=List.mem_of_getLast? hf2;rw[List.mem_filter] at this;have hq:=h.note _ _ this.1;exact q1.2 (by rw[hq.2.2.1];exact this.1)
   unfold BE.L at hf;rw[he,List.append_nil] at hf;obtain⟨L',e⟩:=List.getLast?_eq_some_iff.1 hf;have hnd:=h.OQ (S.pl r);change bU (s.R (S.pl r)) f w at hb;rw[e] at hb hnd;exact YN hnd hb
 ·
  rintro i (hi|rfl) h3
  . rw[hv i (hne i hi)];exact h.Xn i hi h3
  . rw[jW];exact hfm
 ·
  rintro i k (hi|rfl) (hk|rfl) h3 hik hc hp
  . rw[hv i (hne i hi),hv k (hne k hk)];exact h.fQ i k hi hk h3 hik hc hp
  ·
   rw[hv i (hne i hi),jW];have hm:=h.Xn i hi h3;rw[hc,hp] at hm ⊢;exact RZ hm hf
  . have:=hn.last k hk (by omega) hc.symm;omega
  . omega
 ·
  rintro i k (hi|rfl) (hk|rfl) h3 hik hc hp h1 h2
  . rw[hF i (hne i hi)];exact h.TR i k hi hk h3 hik hc hp h1 h2
  . rw[hr] at h2;cases h2
  . have:=hn.last k hk (by omega) hc.symm;omega
  . omega
theorem Fx.Dm {S:TD}{s:BE}{T:Nat}{z:Int}(h:Fx S s T z)(hT:1<=T){j:Nat}(hn:qB S s j)(hr:S.rd j=false)(hz:S.cs j=z)(hN:s.N (S.ck j)=[]):Fx S (s.Dm S T j) T z:=by
 have hne:∀i,s.X i->i≠j:=fun i hi e=>hn.new (by rw[<-e];exact hi)
 have hD:∀i,(s.Dm S T j).D S i↔s.D S i\/i=j:=by
  intro i;show ((s.X i\/i=j)/\i∉s.N (S.ck i))↔_;constructor
  ·
   rintro⟨h1|rfl,h2⟩
   . exact .inl ⟨h1,h2⟩
   . exact .inr rfl
  ·
   rintro (⟨h1,h2⟩|rfl)
   . exact⟨.inl h1,h2⟩
   . exact⟨.inr rfl,fun hm=>hn.new (h.note _ _ hm).1⟩
 have hτ:∀i,i≠j->(s.Dm S T j).τ i=s.τ i:=fun i hi=>by show (if i=j then T else s.τ i)=_;rw[if_neg hi]
 have O0:(s.Dm S T j).τ j=T:=by show (if j=j then T else s.τ j)=T;rw[if_pos rfl]
 have hR:∀p,(s.Dm S T j).R p=if p=S.pl j then s.R p++[j] else s.R p:=fun p=>rfl
 have hv:∀i,(s.Dm S T j).v S i=s.v S i:=fun i=>rfl
 have jW:s.v S j=j:=by unfold BE.v;rw[hr];rfl
 have hjR:∀p,j∉s.R p:=fun p hm=>hn.new ((h.rows p j).1 hm).1.1
 have hRs:∀p,(s.R p).Sublist ((s.Dm S T j).R p):=fun p=>by
  rw[hR];split
  . exact List.sublist_append_left _ _
  . exact List.Sublist.refl _
 have hsub:∀c p,(s.L S c p).Sublist ((s.Dm S T j).L S c p):=fun c p=>List.Sublist.append (hRs p) (List.Sublist.refl _)
 have hlast:(s.Dm S T j).L S (S.ck j) (S.pl j)=s.L S (S.ck j) (S.pl j)++[j]:=by
  unfold BE.L;rw[hR,if_pos rfl];show s.R (S.pl j)++[j]++(s.N (S.ck j)).filter _=s.R (S.pl j)++(s.N (S.ck j)).filter _++[j];rw[hN];simp
 refine { h with FC:=fun i hi=>⟨.inl (h.FC i hi).1,(h.FC i hi).2.1,(h.FC i hi).2.2.1,(h.FC i hi).2.2.2.1,by rw[hτ i (hne i (h.FC i hi).1)];exact (h.FC i hi).2.2.2.2.1,(h.FC i hi).2.2.2.2.2⟩,lt:=?_,down:=?_,note:=?_,pend:=?_,rows:=?_,OQ:=?_,UE:=?_,OS:=?_,tpos:=?_,same:=?_,QW:=?_,now:=?_,kept:=?_,src:=?_,MZ:=?_,Xn:=?_,fQ:=?_,TR:=?_ }
 ·
  rintro i (hi|rfl)
  . exact h.lt i hi
  . exact hn.lt
 ·
  rintro i k (hk|rfl) h3 hik hc
  . exact .inl (h.down i k hk h3 hik hc)
  . exact .inl (hn.all i h3 hik hc)
 ·
  intro c x hx;exact⟨.inl (h.note c x hx).1,(h.note c x hx).2⟩
 ·
  rintro c x k hx (hk|rfl) hxk hc
  . exact h.pend c x k hx hk hxk hc
  ·
   change x∈s.N c at hx;rw[<-hc,hN] at hx;cases hx
 ·
  intro p x;rw[hD,hR];by_cases hp:p=S.pl j
  ·
   rw[if_pos hp,List.mem_append,h.rows p x];constructor
   ·
    rintro (⟨a,b⟩|hx)
    . exact⟨.inl a,b⟩
    ·
     have e:x=j:=by simpa using hx
     exact⟨.inr e,by rw[e];exact hr,by rw[e,hp]⟩
   ·
    rintro⟨a|rfl,b⟩
    . exact .inl ⟨a,b⟩
    . exact .inr (by simp)
  ·
   rw[if_neg hp,h.rows p x];constructor
   . rintro⟨a,b⟩;exact⟨.inl a,b⟩
   ·
    rintro⟨a|rfl,b⟩
    . exact⟨a,b⟩
    . exact absurd b.2.symm hp
 ·
  intro p;rw[hR];split
  ·
   rw[List.nodup_append];refine⟨h.OQ p,by simp,fun x hx y hy e=>?_⟩;have:y=j:=by simpa using hy
   exact hjR p (by rw[<-this,<-e];exact hx)
  . exact h.OQ p
 ·
  intro p
  have old:(s.R p).Pairwise (fun x y=>(s.Dm S T j).τ x<=(s.Dm S T j).τ y):=(h.UE p).imp_of_mem (fun {x y} hx hy hxy=>by
   rw[hτ x (hne x ((h.rows p x).1 hx).1.1),hτ y (hne y ((h.rows p y).1 hy).1.1)]
   exact hxy)
  rw[hR];split
  ·
   rw[List.pairwise_append];refine⟨old,by simp,fun x hx y hy=>?_⟩;have:y=j:=by simpa using hy
   have hx':=((h.rows p x).1 hx).1;rw[this,O0,hτ x (hne x hx'.1)];exact h.OS x hx'
  . exact old
 ·
  intro i hi;rcases (hD i).1 hi with ai|rfl
  . rw[hτ i (hne i ai.1)];exact h.OS i ai
  . rw[O0];exact Nat.le_refl _
 ·
  intro i hi h3;rcases (hD i).1 hi with ai|rfl
  . rw[hτ i (hne i ai.1)];exact h.tpos i ai h3
  . rw[O0];exact hT
 ·
  intro i k hi hk h3 h3' e;rcases (hD i).1 hi with ai|rfl<;>rcases (hD k).1 hk with ak|rfl
  . rw[hτ i (hne i ai.1),hτ k (hne k ak.1)] at e;exact h.same i k ai ak h3 h3' e
  . rw[hτ i (hne i ai.1),O0] at e;rw[hz];exact (h.now i ai h3).1 e
  . rw[hτ k (hne k ak.1),O0] at e;rw[hz];exact ((h.now k ak h3').1 e.symm).symm
  . rfl
 ·
  intro i k hi hk h3 h3' e;rcases (hD i).1 hi with ai|rfl<;>rcases (hD k).1 hk with ak|rfl
  . rw[hτ i (hne i ai.1),hτ k (hne k ak.1)];exact h.QW i k ai ak h3 h3' e
  . rw[hτ i (hne i ai.1),O0];exact (h.now i ai h3).2 (by rw[e,hz])
  . rw[hτ k (hne k ak.1),O0];exact ((h.now k ak h3').2 (by rw[<-e,hz])).symm
  . rfl
 ·
  intro i hi h3;rcases (hD i).1 hi with ai|rfl
  . rw[hτ i (hne i ai.1)];exact h.now i ai h3
  . rw[O0,hz];simp
 ·
  intro i k hi hk h3 hik hc hcs hx;rcases (hD i).1 hi with ai|rfl<;>rcases (hD k).1 hk with ak|rfl
  . rw[hτ i (hne i ai.1),hτ k (hne k ak.1)];exact h.kept i k ai ak h3 hik hc hcs hx
  ·
   rw[hτ i (hne i ai.1),O0];have h1:=h.OS i ai;have h2:s.τ i≠T:=fun e=>hcs (by rw[hz];exact (h.now i ai h3).1 e)
   omega
  . have:=hn.last k ak.1 (by omega) hc.symm;omega
  . omega
 ·
  rintro r (hx|rfl) hrd
  ·
   rw[hτ r (hne r hx)];obtain⟨a,b,c,d⟩:=h.src r hx hrd;exact⟨.inl a,b,c,d.imp id (fun d=>⟨(hD _).2 (.inl d.1),by show (s.Dm S T j).τ (s.F r)<=_;rw[hτ _ (hne _ d.1.1)];exact d.2⟩)⟩
  . rw[hr] at hrd;cases hrd
 ·
  rintro r w p (hx|rfl) hrd hb
  ·
   rw[hτ r (hne r hx)];by_cases hw:w=j
   . rw[hw,O0];exact h.OS r (h.PT hx hrd)
   ·
    rw[hτ w hw];rw[hR] at hb;by_cases hp:p=S.pl j
    ·
     rw[if_pos hp] at hb;exact h.MZ r w p hx hrd (Jv hb hw)
    ·
     rw[if_neg hp] at hb;exact h.MZ r w p hx hrd hb
  . rw[hr] at hrd;cases hrd
 ·
  rintro i (hi|rfl) h3
  . exact (hsub _ _).subset (h.Xn i hi h3)
  . rw[hlast,hv,jW];simp
 ·
  rintro i k (hi|rfl) (hk|rfl) h3 hik hc hp
  . exact (h.fQ i k hi hk h3 hik hc hp).imp id (fun hb=>hb.trans (hsub _ _))
  ·
   refine .inr ?_;rw[hc,hp,hlast,hv,hv,jW,<-hc,<-hp];exact Md (h.Xn i hi h3)
  . have:=hn.last k hk (by omega) hc.symm;omega
  . omega
 ·
  rintro i k (hi|rfl) (hk|rfl) h3 hik hc hp h1 h2
  . exact h.TR i k hi hk h3 hik hc hp h1 h2
  . exact hne _ (h.src i hi h1).1
  . have:=hn.last k hk (by omega) hc.symm;omega
  . omega
theorem Fx.Ck {S:TD}{s:BE}{T:Nat}{z:Int}(h:Fx S s T z)(hT:1<=T){c:Int}{x:Nat}{rest:List Nat}(hN:s.N c=x::rest)(hz:S.cs x=z):Fx S (s.Ck S T c x rest) T z:=by
 have hx0:=h.note c x (by rw[hN];simp);obtain⟨hxX,hx3,hxc,rY⟩:=hx0;have gY:=h.LQ c;rw[hN,List.pairwise_cons] at gY;have mD:x∉rest:=fun hm=>by have:=gY.1 x hm;omega
 have hxN:x∈s.N (S.ck x):=by rw[hxc,hN];simp
 have hxD:¬s.D S x:=fun hd=>hd.2 hxN
 have hne:∀i,s.D S i->i≠x:=fun i hi e=>hxD (by rw[<-e];exact hi)
 have OH:∀c' y,y∈(s.Ck S T c x rest).N c'↔y∈s.N c'/\¬(c'=c/\y=x):=by
  intro c' y;show y∈(if c'=c then rest else s.N c')↔_;by_cases e:c'=c
  ·
   subst e;rw[if_pos rfl,hN];constructor
   ·
    intro hm;exact⟨List.mem_cons_of_mem _ hm,fun hq=>mD (by rw[<-hq.2];exact hm)⟩
   ·
    rintro⟨hm,hq⟩;rcases List.mem_cons.1 hm with rfl|hm
    . exact absurd ⟨rfl,rfl⟩ hq
    . exact hm
  ·
   rw[if_neg e];exact⟨fun hm=>⟨hm,fun hq=>e hq.1⟩,fun hm=>hm.1⟩
 have hD:∀i,(s.Ck S T c x rest).D S i↔s.D S i\/i=x:=by
  intro i;unfold BE.D;rw[OH];show (s.X i/\_)↔_;constructor
  ·
   rintro⟨h1,h2⟩;by_cases e:i=x
   . exact .inr e
   . exact .inl ⟨h1,fun hm=>h2 ⟨hm,fun hq=>e hq.2⟩⟩
  ·
   rintro (⟨h1,h2⟩|rfl)
   . exact⟨h1,fun hm=>h2 hm.1⟩
   . exact⟨hxX,fun hm=>hm.2 ⟨hxc,rfl⟩⟩
 have hτ:∀i,i≠x->(s.Ck S T c x rest).τ i=s.τ i:=fun i hi=>by show (if i=x then T else s.τ i)=_;rw[if_neg hi]
 have bK:(s.Ck S T c x rest).τ x=T:=by show (if x=x then T else s.τ x)=T;rw[if_pos rfl]
 have hR:∀p,(s.Ck S T c x rest).R p=if p=S.pl x then s.R p++[x] else s.R p:=fun p=>rfl
 have hxR:∀p,x∉s.R p:=fun p hm=>hxD ((h.rows p x).1 hm).1
 have hRs:∀p,(s.R p).Sublist ((s.Ck S T c x rest).R p):=fun p=>by
  rw[hR];split
  . exact List.sublist_append_left _ _
  . exact List.Sublist.refl _
 have rR:∀r,S.rd r=true->r≠x:=fun r hr e=>by rw[e,rY] at hr;cases hr
 have hsub:∀c' p,(s.L S c' p).Sublist ((s.Ck S T c x rest).L S c' p):=by
  intro c' p;by_cases e:c'=c
  ·
   subst e
   have:(s.Ck S T c' x rest).L S c' p=s.L S c' p:=by
    unfold BE.L;rw[hR];show _++(if c'=c' then rest else s.N c').filter _=_;rw[if_pos rfl,hN];by_cases hp:p=S.pl x
    ·
     rw[if_pos hp,List.filter_cons_of_pos (by simp[hp]),List.append_assoc];rfl
    . rw[if_neg hp,List.filter_cons_of_neg (by simp;exact fun e=>hp e.symm)]
   rw[this];exact List.Sublist.refl _
  ·
   refine List.Sublist.append (hRs p) ?_;show List.Sublist _ ((if c'=c then rest else s.N c').filter _);rw[if_neg e];exact List.Sublist.refl _
 refine { h with FC:=fun i hi=>⟨(h.FC i hi).1,(h.FC i hi).2.1,(h.FC i hi).2.2.1,(h.FC i hi).2.2.2.1,by rw[hτ i (by omega)];exact (h.FC i hi).2.2.2.2.1,(h.FC i hi).2.2.2.2.2⟩,note:=?_,LQ:=?_,pend:=?_,rows:=?_,OQ:=?_,UE:=?_,OS:=?_,tpos:=?_,same:=?_,QW:=?_,now:=?_,kept:=?_,src:=?_,MZ:=?_,Xn:=?_,fQ:=?_ }
 ·
  intro c' y hy;exact h.note c' y ((OH c' y).1 hy).1
 ·
  intro c';show (if c'=c then rest else s.N c').Pairwise _;split
  . exact gY.2
  . exact h.LQ c'
 ·
  intro c' y k hy hk hyk hc;obtain⟨hy1,hy2⟩:=(OH c' y).1 hy;rcases h.pend c' y k hy1 hk hyk hc with hp|hp
  . exact .inl hp
  ·
   refine .inr ((OH c' k).2 ⟨hp,?_⟩);rintro⟨rfl,rfl⟩;rw[hN] at hy1;rcases List.mem_cons.1 hy1 with rfl|hm
   . exact hy2 ⟨rfl,rfl⟩
   . have:=gY.1 y hm;omega
 ·
  intro p y;rw[hD,hR];by_cases hp:p=S.pl x
  ·
   rw[if_pos hp,List.mem_append,h.rows p y];constructor
   ·
    rintro (⟨a,b⟩|hy)
    . exact⟨.inl a,b⟩
    ·
     have e:y=x:=by simpa using hy
     exact⟨.inr e,by rw[e];exact rY,by rw[e,hp]⟩
   ·
    rintro⟨a|rfl,b⟩
    . exact .inl ⟨a,b⟩
    . exact .inr (by simp)
  ·
   rw[if_neg hp,h.rows p y];constructor
   . rintro⟨a,b⟩;exact⟨.inl a,b⟩
   ·
    rintro⟨a|rfl,b⟩
    . exact⟨a,b⟩
    . exact absurd b.2.symm hp
 ·
  intro p;rw[hR];split
  ·
   rw[List.nodup_append];refine⟨h.OQ p,by simp,fun y hy w hw e=>?_⟩;have:w=x:=by simpa using hw
   exact hxR p (by rw[<-this,<-e];exact hy)
  . exact h.OQ p
 ·
  intro p
  have old:(s.R p).Pairwise (fun y w=>(s.Ck S T c x rest).τ y<=(s.Ck S T c x rest).τ w):=(h.UE p).imp_of_mem (fun {y w} hy hw hyw=>by
   rw[hτ y (hne y ((h.rows p y).1 hy).1),hτ w (hne w ((h.rows p w).1 hw).1)]
   exact hyw)
  rw[hR];split
  ·
   rw[List.pairwise_append];refine⟨old,by simp,fun y hy w hw=>?_⟩;have:w=x:=by simpa using hw
   have hy':=((h.rows p y).1 hy).1;rw[this,bK,hτ y (hne y hy')];exact h.OS y hy'
  . exact old
 ·
  intro i hi;rcases (hD i).1 hi with ai|rfl
  . rw[hτ i (hne i ai)];exact h.OS i ai
  . rw[bK];exact Nat.le_refl _
 ·
  intro i hi h3;rcases (hD i).1 hi with ai|rfl
  . rw[hτ i (hne i ai)];exact h.tpos i ai h3
  . rw[bK];exact hT
 ·
  intro i k hi hk h3 h3' e;rcases (hD i).1 hi with ai|rfl<;>rcases (hD k).1 hk with ak|rfl
  . rw[hτ i (hne i ai),hτ k (hne k ak)] at e;exact h.same i k ai ak h3 h3' e
  . rw[hτ i (hne i ai),bK] at e;rw[hz];exact (h.now i ai h3).1 e
  . rw[hτ k (hne k ak),bK] at e;rw[hz];exact ((h.now k ak h3').1 e.symm).symm
  . rfl
 ·
  intro i k hi hk h3 h3' e;rcases (hD i).1 hi with ai|rfl<;>rcases (hD k).1 hk with ak|rfl
  . rw[hτ i (hne i ai),hτ k (hne k ak)];exact h.QW i k ai ak h3 h3' e
  . rw[hτ i (hne i ai),bK];exact (h.now i ai h3).2 (by rw[e,hz])
  . rw[hτ k (hne k ak),bK];exact ((h.now k ak h3').2 (by rw[<-e,hz])).symm
  . rfl
 ·
  intro i hi h3;rcases (hD i).1 hi with ai|rfl
  . rw[hτ i (hne i ai)];exact h.now i ai h3
  . rw[bK,hz];simp
 ·
  intro i k hi hk h3 hik hc hcs hx;rcases (hD i).1 hi with ai|rfl<;>rcases (hD k).1 hk with ak|rfl
  . rw[hτ i (hne i ai),hτ k (hne k ak)];exact h.kept i k ai ak h3 hik hc hcs hx
  ·
   rw[hτ i (hne i ai),bK];have h1:=h.OS i ai;have h2:s.τ i≠T:=fun e=>hcs (by rw[hz];exact (h.now i ai h3).1 e)
   omega
  ·
   rcases h.pend _ _ _ hxN ak.1 hik hc.symm with hp|hp
   . rw[hx] at hp;cases hp.2
   . exact absurd (by rw[<-hc];exact hp) ak.2
  . omega
 ·
  intro r hx hrd;rw[hτ r (rR r hrd)];obtain⟨a,b,e,d⟩:=h.src r hx hrd;exact⟨a,b,e,d.imp id (fun d=>⟨(hD _).2 (.inl d.1),by show (s.Ck S T c x rest).τ (s.F r)<=_;rw[hτ _ (hne _ d.1)];exact d.2⟩)⟩
 ·
  intro r w p hx hrd hb;rw[hτ r (rR r hrd)];by_cases hw:w=x
  . rw[hw,bK];exact h.OS r (h.PT hx hrd)
  ·
   rw[hτ w hw];rw[hR] at hb;by_cases hp:p=S.pl x
   ·
    rw[if_pos hp] at hb;exact h.MZ r w p hx hrd (Jv hb hw)
   ·
    rw[if_neg hp] at hb;exact h.MZ r w p hx hrd hb
 ·
  intro i hi h3;exact (hsub _ _).subset (h.Xn i hi h3)
 ·
  intro i k hi hk h3 hik hc hp;exact (h.fQ i k hi hk h3 hik hc hp).imp id (fun hb=>hb.trans (hsub _ _))
structure Ab where
 nx:Nat->Nat
 N:Nat->List Nat
 R:Nat->List Nat
 F:Nat->Nat
def Bk (AA:List (List Dd)):TD:=
 { n:=(AB AA).length,ck:=fun j=>((AB AA).getD j zE).1,pl:=fun j=>((AB AA).getD j zE).2.2.2.1.toNat,rd:=fun j=>((AB AA).getD j zE).2.2.1,cs:=fun j=>bH ((AB AA).getD j zE),ex:=mI AA (AB AA) }
def ET (AA:List (List Dd))(a:Ab)(j:Nat):Bool:=decide (j<3)||decide (((AB AA).getD j zE).2.1.toNat<a.nx ((AB AA).getD j zE).1.toNat)
def C3 (AA:List (List Dd))(a:Ab)(τ:Nat->Nat):BE:=
 { X:=fun j=>j<(AB AA).length/\ET AA a j=true,N:=fun c=>if 0<=c then a.N c.toNat else [],R:=a.R,F:=a.F,τ:=τ }
abbrev JG (AA:List (List Dd))(x:Nat):Int:=((AB AA).getD x zE).2.2.2.2.1
abbrev bO (AA:List (List Dd))(x:Nat):Int:=((AB AA).getD x zE).2.2.2.1
def Wa (AA:List (List Dd))(x:Nat):Nt:=(bO AA x,JG AA x,(x:Int))
def BW (a:Ab)(p:Nat):Nat:=(a.R p).getLast?.getD p
structure YB (AA:List (List Dd))(b:Bd)(a:Ab):Prop where
 AL:b.AL=(List.range AA.length).map (fun c=>(a.nx c:Int))
 AG:b.AG=(List.range AA.length).map (fun c=>(a.N c).map (Wa AA))
 rws:b.rws=(List.range 3).map (fun p=>(a.R p).map Int.ofNat)
 AO:b.AO=(List.range 3).map (fun p=>(BW a p:Int))
 AM:b.AM=(List.range 3).map (fun p=>JG AA (BW a p))
 fr:b.fr=(AX Ah (AB AA)).map (fun r=>if ET AA a r.toNat=true then (a.F r.toNat:Int) else -1)
 sn:b.sn=(AX Ah (AB AA)).map (fun r=>if ET AA a r.toNat=true then JG AA (a.F r.toNat) else -1)
theorem DU {α:Type}(f:Nat->α)(m c:Nat)(y:α):((List.range m).map f).set c y=(List.range m).map (fun i=>if i=c then y else f i):=by
 apply List.ext_getElem?;intro i;rw[List.getElem?_set];simp only[List.length_map,List.length_range,List.getElem?_map];by_cases hi:i<m
 ·
  rw[List.getElem?_range hi];by_cases e:c=i
  . subst e;simp[hi]
  . rw[if_neg e];simp[show ¬i=c from fun h=>e h.symm]
 ·
  have:(List.range m)[i]? = none:=List.getElem?_eq_none (by simp;omega);rw[this];by_cases e:c=i
  . subst e;simp[hi]
  . rw[if_neg e];rfl
theorem Cr {α:Type}(f:Nat->α){m c:Nat}(z:α)(hc:c<m):((List.range m).map f).getD c z=f c:=by
 rw[List.getD_eq_getElem?_getD,List.getElem?_map,List.getElem?_range hc];rfl
theorem Kn (rs:List Int)(ev v:Int)(g:Int->Int):G3 rs ev v (rs.map g)=rs.map (fun r=>if r=ev then v else g r):=by
 unfold G3
 induction rs with
 |nil=>rfl
 |cons r rs ih=>rw[List.map_cons,List.zipWith_cons_cons,ih,List.map_cons]
theorem DK {AA:List (List Dd)}(hb:AQ AA=true){j c k i:Nat}(E:Dz AA j c k i):(Bk AA).ck j=(c:Int)/\(Bk AA).pl j=(Al AA c k).2.1.toNat/\(Bk AA).rd j=Kh (Al AA c k) i/\(Bk AA).cs j=Cz AA c k:=by
 unfold Bk bH;simp only;rw[E.at hb];exact⟨rfl,rfl,rfl,rfl⟩
theorem J8 {AA:List (List Dd)}(hb:AQ AA=true){j c k i:Nat}(E:Dz AA j c k i)(a:Ab):ET AA a j=decide (k<a.nx c):=by
 unfold ET;rw[E.at hb];have:=(E.lt hb).1;simp[show ¬j<3 by omega]
def BN (a:Ab)(c:Nat):Ab:={ a with nx:=fun c'=>if c'=c then a.nx c+1 else a.nx c' }
theorem EO {AA:List (List Dd)}(hb:AQ AA=true)(a:Ab){c:Nat}(hc:c<AA.length)(hk:a.nx c<(AA.getD c []).length){j:Nat}(hj:j<(AB AA).length):
  ET AA (BN a c) j=true↔ET AA a j=true\/∃i,Dz AA j c (a.nx c) i:=by
 by_cases h3:j<3
 ·
  have e1:ET AA a j=true:=by unfold ET;simp[h3]
  have e2:ET AA (BN a c) j=true:=by unfold ET;simp[h3]
  simp[e1,e2]
 ·
  obtain⟨c',k',i',E⟩:=Gn hb (by omega) hj;rw[J8 hb E,J8 hb E,decide_eq_true_eq,decide_eq_true_eq];show (k'<if c'=c then a.nx c+1 else a.nx c')↔_;by_cases e:c'=c
  ·
   subst e;rw[if_pos rfl];constructor
   ·
    intro h;by_cases h2:k'<a.nx c'
    . exact .inl h2
    ·
     obtain rfl:k'=a.nx c':=by omega
     exact .inr ⟨i',E⟩
   ·
    rintro (h|⟨i,E2⟩)
    . omega
    . have:=(E.one E2).2.1;omega
  ·
   rw[if_neg e];refine⟨fun h => .inl h,?_⟩;rintro (h|⟨i,E2⟩)
   . exact h
   . exact absurd (E.one E2).1 e
theorem Cl {AA:List (List Dd)}{c k:Nat}(hc:c<AA.length)(hk:k<(AA.getD c []).length)(h4:(Al AA c k).1≠4):Dz AA (Ac AA c k) c k 0:=⟨hc,hk,Kc h4,rfl⟩
theorem Ic {AA:List (List Dd)}{c k:Nat}(hc:c<AA.length)(hk:k<(AA.getD c []).length)(h3:(Al AA c k).1=3):Dz AA (Ac AA c k+1) c k 1:=⟨hc,hk,by unfold FY;rw[if_neg (by omega),if_pos h3];omega,rfl⟩
theorem MN {AA:List (List Dd)}{c k j i:Nat}(E:Dz AA j c k i)(h3:(Al AA c k).1≠3):j=Ac AA c k/\i=0:=by
 have h1:=E.hi;have h2:=E.hj;unfold FY at h1;rw[if_neg E.kind,if_neg h3] at h1;omega
theorem FH {AA:List (List Dd)}(hb:AQ AA=true)(a:Ab)(τ:Nat->Nat){c:Nat}(hc:c<AA.length)(hk:a.nx c<(AA.getD c []).length)(h4:(Al AA c (a.nx c)).1≠4):qB (Bk AA) (C3 AA a τ) (Ac AA c (a.nx c)):=by
 have E:=Cl hc hk h4;have hl:=E.lt hb;refine⟨hl.1,hl.2,?_,?_,?_⟩
 ·
  rintro⟨_,h⟩;rw[J8 hb E,decide_eq_true_eq] at h;omega
 ·
  intro i h3 hi hck;have hin:i<(AB AA).length:=by omega
  obtain⟨c',k',i',E'⟩:=Gn hb h3 hin;rw[(DK hb E').1,(DK hb E).1] at hck;obtain rfl:c'=c:=by omega
  refine⟨hin,?_⟩;rw[J8 hb E',decide_eq_true_eq];rcases (E'.ord E).1 hi with h|⟨_,h|⟨_,h⟩⟩<;>omega
 ·
  rintro i ⟨hin,hX⟩ h3 hck;obtain⟨c',k',i',E'⟩:=Gn hb h3 hin;rw[(DK hb E').1,(DK hb E).1] at hck;obtain rfl:c'=c:=by omega
  rw[J8 hb E',decide_eq_true_eq] at hX;exact (E'.ord E).2 (.inr ⟨rfl,.inl hX⟩)
theorem JX {AA:List (List Dd)}(hb:AQ AA=true){c k:Nat}(hc:c<AA.length)(hk:k<(AA.getD c []).length)(h4:(Al AA c k).1≠4):Kq (AB AA) c k=(Ac AA c k:Int):=by
 have E:=Cl hc hk h4;have hl:=E.lt hb
 have hx:(List.range (AB AA).length).find? (fun i=>decide (3<=i)&&(((AB AA).getD i zE).1==(c:Int))&&(((AB AA).getD i zE).2.1==(k:Int)))=some (Ac AA c k):=by
  rw[List.find?_range_eq_some];refine⟨?_,by simpa using hl.2,?_⟩
  ·
   rw[E.at hb];simp[hl.1]
  ·
   intro j hj;by_cases h3:3<=j
   ·
    obtain⟨c',k',i',E'⟩:=Gn hb h3 (by omega);rw[E'.at hb];simp only[h3,decide_true,Bool.true_and,Bool.not_eq_true',Bool.and_eq_false_iff,beq_eq_false_iff_ne,ne_eq];rcases (E'.ord E).1 hj with h|⟨_,h|⟨_,h⟩⟩
    . exact .inl (by omega)
    . exact .inr (by omega)
    . omega
   . simp[h3]
 unfold Kq;rw[hx]
theorem Ih {l:List Int}{n:Int}(h:Gv l n=true):n∈l:=by
 unfold Gv at h;rw[List.any_eq_true] at h;obtain⟨x,hx,e⟩:=h;rw[beq_iff_eq] at e;rw[<-e];exact hx
theorem KI (f:Ev->Bool)(l:List Ev):∀(k:Nat) (x:Int),x∈Bi f l k->f (l.getD x.toNat zE)=true
 | 0,x,h=>by simp[Bi] at h
 |k+1,x,h=>by
  rw[Bi] at h;split at h
  ·
   rename_i hf;rcases List.mem_append.1 h with h|h
   . exact KI f l k x h
   ·
    simp only[List.mem_cons,List.not_mem_nil,or_false] at h;rw[h,Int.toNat_natCast];exact hf
  . exact KI f l k x h
structure MI (AA:List (List Dd))(b:Bd)(a:Ab)(τ:Nat->Nat)(T:Nat)(z:Int):Prop where
 Bz:YB AA b a
 inv:Fx (Bk AA) (C3 AA a τ) T z
 VB:∀c,c<AA.length->a.nx c<=(AA.getD c []).length
 nt:∀c x,x∈a.N c->c<AA.length/\∃k,Dz AA x c k 0/\k<a.nx c/\(Al AA c k).1=2/\BP AA c k=0/\∀k',k<k'->k'<a.nx c->(Al AA c k').1≠4/\Eu (Al AA c k')=false
theorem Hh (AA:List (List Dd))(a:Ab)(τ:Nat->Nat)(c:Nat):(C3 AA a τ).N (c:Int)=a.N c:=by
 show (if 0<=(c:Int) then a.N (c:Int).toNat else [])=_;rw[if_pos (by omega),Int.toNat_natCast]
theorem D9 {AA:List (List Dd)}{b:Bd}{a:Ab}(h:YB AA b a){c:Nat}(hc:c<AA.length):b.AL.getD c 0=(a.nx c:Int)/\Ao b c=a.nx c:=by
 have e:b.AL.getD c 0=(a.nx c:Int):=by rw[h.AL,Cr _ _ hc]
 exact⟨e,by unfold Ao;rw[e,Int.toNat_natCast]⟩
theorem El {AA:List (List Dd)}{b:Bd}{a:Ab}(h:YB AA b a){c:Nat}(hc:c<AA.length):b.AG.getD c []=(a.N c).map (Wa AA):=by rw[h.AG,Cr _ _ hc]
theorem LO {AA:List (List Dd)}{b:Bd}{a:Ab}(h:YB AA b a){p:Nat}(hp:p<3):b.AO.getD p 0=(BW a p:Int)/\b.AM.getD p 0=JG AA (BW a p)/\b.rws.getD p []=(a.R p).map Int.ofNat:=by
 refine⟨by rw[h.AO,Cr _ _ hp],by rw[h.AM,Cr _ _ hp],by rw[h.rws,Cr _ _ hp]⟩
theorem PC {AA:List (List Dd)}{a:Ab}{τ:Nat->Nat}{T:Nat}{z:Int}(h:Fx (Bk AA) (C3 AA a τ) T z){p:Nat}(hp:p<3):(a.R p).getLast? = some (BW a p):=by
 obtain⟨h1,h2,h3,h4,_⟩:=h.FC p hp;have hm:p∈a.R p:=(h.rows p p).2 ⟨⟨h1,fun hn=>by have:=(h.note _ _ hn).2.1;omega⟩,h2,h3⟩;unfold BW
 cases hl:(a.R p).getLast? with
 |none=>rw[List.getLast?_eq_none_iff.1 hl] at hm;cases hm
 |some y=>rfl
theorem Iw {AA:List (List Dd)}(hb:AQ AA=true){c k:Nat}(hc:c<AA.length)(hk:k<(AA.getD c []).length):∃p:Nat,p<3/\(Al AA c k).2.1=(p:Int):=by
 have hd:=Ch (CG hb hc k hk);obtain⟨p,hp⟩:=Int.eq_ofNat_of_zero_le hd.1;exact⟨p,by have:=hd.2.1;omega,hp⟩
theorem nC {AA:List (List Dd)}(hb:AQ AA=true){b:Bd}{a:Ab}{τ:Nat->Nat}{T:Nat}{z:Int}(M:MI AA b a τ T z){c p:Nat}(hc:c<AA.length)(hp:p<3):
  ∃f:Nat,((C3 AA a τ).L (Bk AA) (c:Int) p).getLast? = some f/\Ct b c p=(JG AA f,(f:Int)):=by
 have hl:=PC M.inv hp;obtain⟨e1,e2,_⟩:=LO M.Bz hp
 have hfil:((a.N c).map (Wa AA)).reverse.find? (fun x=>x.1==(p:Int))=(((a.N c).filter (fun x=>(Bk AA).pl x==p)).getLast?).map (Wa AA):=by
  rw[<-List.head?_filter,List.filter_reverse,List.head?_reverse,List.filter_map,List.getLast?_map]
  have:(a.N c).filter ((fun x:Nt=>x.1==(p:Int)) ∘ Wa AA)=(a.N c).filter (fun x=>(Bk AA).pl x==p):=by
   refine List.filter_congr (fun x hx=>?_);obtain⟨_,k,E,_⟩:=M.nt c x hx;obtain⟨q,_,hq⟩:=Iw hb E.hc E.hk;show (bO AA x==(p:Int))=((Bk AA).pl x==p);rw[(DK hb E).2.1];unfold bO;rw[E.at hb];show ((Al AA c k).2.1==(p:Int))=_;rw[hq,Int.toNat_natCast];by_cases e:q=p
   . subst e;simp
   ·
    have:¬((q:Int)=(p:Int)):=by omega
    rw[beq_eq_false_iff_ne.2 this,beq_eq_false_iff_ne.2 e]
  rw[this]
 unfold Ct;rw[El M.Bz hc,hfil];unfold BE.L;rw[Hh];show ∃f,(a.R p++(a.N c).filter (fun x=>(Bk AA).pl x==p)).getLast? = some f/\_;rw[List.getLast?_append]
 cases hq:((a.N c).filter (fun x=>(Bk AA).pl x==p)).getLast? with
 |none=>
  refine⟨BW a p,by rw[hl];rfl,?_⟩;simp only[Option.map_none];rw[e1,e2]
 |some y=>
  exact⟨y,rfl,rfl⟩
theorem VS {AA:List (List Dd)}(hb:AQ AA=true)(a:Ab)(τ:Nat->Nat){c:Nat}(hc:c<AA.length)(hk:a.nx c<(AA.getD c []).length)(h4:(Al AA c (a.nx c)).1=4):C3 AA (BN a c) τ=C3 AA a τ:=by
 unfold C3
 congr 1
 funext j;apply propext;constructor
 ·
  rintro⟨h1,h2⟩;refine⟨h1,?_⟩;rcases (EO hb a hc hk h1).1 h2 with h|⟨i,E⟩
  . exact h
  . exact absurd h4 E.kind
 ·
  rintro⟨h1,h2⟩;exact⟨h1,(EO hb a hc hk h1).2 (.inl h2)⟩
theorem Ll {AA:List (List Dd)}(hb:AQ AA=true)(a:Ab){c:Nat}(hc:c<AA.length)(hk:a.nx c<(AA.getD c []).length)(h4:(Al AA c (a.nx c)).1≠4)(h3:(Al AA c (a.nx c)).1≠3)(j:Nat):
  (j<(AB AA).length/\ET AA (BN a c) j=true)↔(j<(AB AA).length/\ET AA a j=true)\/j=Ac AA c (a.nx c):=by
 constructor
 ·
  rintro⟨h1,h2⟩;rcases (EO hb a hc hk h1).1 h2 with h|⟨i,E⟩
  . exact .inl ⟨h1,h⟩
  . exact .inr (MN E h3).1
 ·
  rintro (⟨h1,h2⟩|rfl)
  . exact⟨h1,(EO hb a hc hk h1).2 (.inl h2)⟩
  ·
   have E:=Cl hc hk h4;exact⟨(E.lt hb).2,(EO hb a hc hk (E.lt hb).2).2 (.inr ⟨0,E⟩)⟩
theorem YE {AA:List (List Dd)}(hb:AQ AA=true)(a:Ab){c:Nat}(hc:c<AA.length)(hk:a.nx c<(AA.getD c []).length)(h3:(Al AA c (a.nx c)).1=3)(j:Nat):
  (j<(AB AA).length/\ET AA (BN a c) j=true)↔((j<(AB AA).length/\ET AA a j=true)\/j=Ac AA c (a.nx c))\/j=Ac AA c (a.nx c)+1:=by
 have E1:=Cl hc hk (by omega:(Al AA c (a.nx c)).1≠4);have E2:=Ic hc hk h3;constructor
 ·
  rintro⟨h1,h2⟩;rcases (EO hb a hc hk h1).1 h2 with h|⟨i,E⟩
  . exact .inl (.inl ⟨h1,h⟩)
  ·
   have hi:=E.hi;have hj:=E.hj;unfold FY at hi;rw[if_neg (by omega),if_pos h3] at hi;rcases (by omega:i=0\/i=1) with rfl|rfl
   . exact .inl (.inr hj)
   . exact .inr hj
 ·
  rintro ((⟨h1,h2⟩|rfl)|rfl)
  . exact⟨h1,(EO hb a hc hk h1).2 (.inl h2)⟩
  . exact⟨(E1.lt hb).2,(EO hb a hc hk (E1.lt hb).2).2 (.inr ⟨0,E1⟩)⟩
  . exact⟨(E2.lt hb).2,(EO hb a hc hk (E2.lt hb).2).2 (.inr ⟨1,E2⟩)⟩
theorem GY {es:List Ev}(hx:es.length<=12){r:Int}(h:r∈AX Ah es):∃j:Nat,r=(j:Int)/\j<es.length/\(es.getD j zE).2.2.1=true:=by
 unfold AX at h;rw[if_pos hx] at h;have h1:=Ig _ _ _ _ h;have h2:=KI _ _ _ _ h;obtain⟨j,hj⟩:=Int.eq_ofNat_of_zero_le h1.1;rw[hj,Int.toNat_natCast] at h2;exact⟨j,hj,by omega,h2⟩
theorem Ij {l:List Int}{n:Int}(h:n∈l):Gv l n=true:=by
 unfold Gv;rw[List.any_eq_true];exact⟨n,h,by simp⟩
theorem Cp (AA:List (List Dd)):(AB AA).length<=12:=by
 unfold AB;split
 ·
  rename_i hb;exact (Mq hb).1
 . simp
theorem Iz {d:Dd}(h:d.1=2)(i:Nat):Kh d i=false:=by unfold Kh;simp[h]
theorem LU {d:Dd}(h:d.1≠2):Kh d 0=true:=by unfold Kh;simp[h]
theorem Jf (d:Dd):Kh d 1=false:=by unfold Kh;simp
theorem Kk {AA:List (List Dd)}{b:Bd}{a:Ab}(h:YB AA b a){c:Nat}(hc:c<AA.length):b.AL.set c (b.AL.getD c 0+1)=(List.range AA.length).map (fun c'=>((BN a c).nx c':Int)):=by
 rw[(D9 h hc).1,h.AL,DU];refine List.map_congr_left (fun i _=>?_);show _=((if i=c then a.nx c+1 else a.nx i:Nat):Int);split
 . rename_i e;subst e;omega
 . rfl
theorem C2 (a:Ab)(c c':Nat):(BN a c).nx c'=if c'=c then a.nx c+1 else a.nx c':=rfl
theorem IM {AA:List (List Dd)}{a:Ab}(h:∀c,c<AA.length->a.nx c<=(AA.getD c []).length){c:Nat}(hk:a.nx c<(AA.getD c []).length):∀c',c'<AA.length->(BN a c).nx c'<=(AA.getD c' []).length:=by
 intro c' hc';rw[C2];split
 . rename_i e;subst e;omega
 . exact h c' hc'
theorem Kb {AA:List (List Dd)}{b:Bd}{a:Ab}{τ:Nat->Nat}{T:Nat}{z:Int}(M:MI AA b a τ T z){c:Nat}(hp:a.N c≠[]->(Al AA c (a.nx c)).1≠4/\Eu (Al AA c (a.nx c))=false):
  ∀c' x,x∈a.N c'->c'<AA.length/\∃k,Dz AA x c' k 0/\k<(BN a c).nx c'/\(Al AA c' k).1=2/\BP AA c' k=0/\∀k',k<k'->k'<(BN a c).nx c'->(Al AA c' k').1≠4/\Eu (Al AA c' k')=false:=by
 intro c' x hx;obtain⟨h1,k,E,h2,h3,h4,h5⟩:=M.nt c' x hx;refine⟨h1,k,E,?_,h3,h4,fun k' hk hk'=>?_⟩
 ·
  rw[C2];split
  . rename_i e;subst e;omega
  . exact h2
 ·
  rw[C2] at hk';split at hk'
  ·
   rename_i e;subst e;by_cases e2:k'=a.nx c'
   ·
    subst e2;exact hp (fun e=>by rw[e] at hx;cases hx)
   . exact h5 k' hk (by omega)
  . exact h5 k' hk hk'
theorem PO {AA:List (List Dd)}(hb:AQ AA=true){b:Bd}{a:Ab}{τ:Nat->Nat}{T:Nat}{z:Int}(M:MI AA b a τ T z){c:Nat}(hc:c<AA.length)(hk:a.nx c<(AA.getD c []).length)(h4:(Al AA c (a.nx c)).1=4)(hN:a.N c=[]):
  MI AA (Aj AA (AB AA) b c) (BN a c) τ T z:=by
 have hd:BL AA (AB AA) b c (Ao b c)=b:=by
  rw[(D9 M.Bz hc).2];unfold BL;rw[if_neg (by omega),if_neg (by omega),if_neg (by omega),if_neg (by omega)]
 have hex:∀j,j<(AB AA).length->ET AA (BN a c) j=ET AA a j:=by
  intro j hj;have:=EO hb a hc hk hj
  cases h1:ET AA a j with
  |true=>exact this.2 (.inl h1)
  |false=>
   cases h2:ET AA (BN a c) j with
   |false=>rfl
   |true=>
    rcases this.1 h2 with h|⟨i,E⟩
    . rw[h1] at h;cases h
    . exact absurd h4 E.kind
 have hx:=Cp AA;unfold Aj;rw[hd];refine⟨⟨Kk M.Bz hc,M.Bz.AG,M.Bz.rws,M.Bz.AO,M.Bz.AM,?_,?_⟩,by rw[VS hb a τ hc hk h4];exact M.inv,IM M.VB hk,Kb M (fun h=>absurd hN h)⟩
 ·
  show b.fr=_;rw[M.Bz.fr];refine List.map_congr_left (fun r hr=>?_);obtain⟨j,rfl,hj,_⟩:=GY hx hr;rw[Int.toNat_natCast,hex j hj];rfl
 ·
  show b.sn=_;rw[M.Bz.sn];refine List.map_congr_left (fun r hr=>?_);obtain⟨j,rfl,hj,_⟩:=GY hx hr;rw[Int.toNat_natCast,hex j hj];rfl
theorem iC {AA:List (List Dd)}(hb:AQ AA=true){b:Bd}{a:Ab}{τ:Nat->Nat}{T:Nat}{z:Int}(M:MI AA b a τ T z){c x:Nat}(hc:c<AA.length)(hk:a.nx c<(AA.getD c []).length)(h1:(Al AA c (a.nx c)).1=1)(hg:BP AA c (a.nx c)=0)(hx:x∈a.N c):
  mI AA (AB AA) x (Ac AA c (a.nx c))=true:=by
 obtain⟨_,k,E,h2,h3,h4,h5⟩:=M.nt c x hx;have Ej:=Cl hc hk (by omega:(Al AA c (a.nx c)).1≠4);have hlt:x<Ac AA c (a.nx c):=(E.ord Ej).2 (.inr ⟨rfl,.inl h2⟩);have hx3:=(E.lt hb).1
 have hcls:Cz AA c k≠Cz AA c (a.nx c):=by
  intro e;rcases ((Ib (CG hb hc) (CG hb hc) E.hk hk E.kind Ej.kind).1 e).2 with h|h
  . omega
  . exact h.1 h4
 have hb1:kX (AB AA) x (Ac AA c (a.nx c))=true:=by
  unfold kX;rw[E.at hb,Ej.at hb];simp[hlt,hx3]
 have hw1:Eu (Al AA c k)=false:=by
  unfold Eu;rw[h3,show (Al AA c k).2.2.2=0 from h4];rfl
 have hw2:Eu (Al AA c (a.nx c))=false:=by
  unfold Eu;rw[h1,show (Al AA c (a.nx c)).2.2.2=0 from hg];rfl
 have hwt:Q0 (AA.getD c []) k (a.nx c)=false:=Xa (fun j hj1 hj2=>(h5 j hj1 hj2).1);unfold mI;rw[hb1];unfold sD;have e1:oM AA ((AB AA).getD x zE)=Al AA c k:=by unfold oM;rw[E.at hb];simp only[Int.toNat_natCast]
 have e2:oM AA ((AB AA).getD (Ac AA c (a.nx c)) zE)=Al AA c (a.nx c):=by unfold oM;rw[Ej.at hb];simp only[Int.toNat_natCast]
 rw[e1,e2,hw1,hw2];unfold Ah bH;rw[E.at hb,Ej.at hb];simp only[Int.toNat_natCast];rw[hwt];have r1:Kh (Al AA c k) 0=false:=Iz h3 0;have r2:Kh (Al AA c (a.nx c)) 0=true:=LU (by omega);rw[r1,r2];simp[hx3,hcls]
abbrev Zu (AA:List (List Dd))(a:Ab)(c f:Nat):Ab:={ BN a c with F:=fun i=>if i=Ac AA c (a.nx c) then f else a.F i }
theorem Lw {AA:List (List Dd)}(hb:AQ AA=true){b:Bd}{a:Ab}{τ:Nat->Nat}{T:Nat}{z:Int}(M:MI AA b a τ T z)(hT:1<=T){c:Nat}(hc:c<AA.length)(hk:a.nx c<(AA.getD c []).length)(h1:(Al AA c (a.nx c)).1=1)
  (hz:Cz AA c (a.nx c)=z) (hcan:BP AA c (a.nx c)=0\/a.N c=[]):
  ∃f,((C3 AA a τ).L (Bk AA) (c:Int) (Al AA c (a.nx c)).2.1.toNat).getLast? = some f/\MI AA (Aj AA (AB AA) b c) (Zu AA a c f) (fun i=>if i=Ac AA c (a.nx c) then T else τ i) T z:=by
 have h4:(Al AA c (a.nx c)).1≠4:=by omega
 have h3:(Al AA c (a.nx c)).1≠3:=by omega
 have E:=Cl hc hk h4;obtain⟨s1,s2,s3,s4⟩:=DK hb E;obtain⟨p,hp,ep⟩:=Iw hb hc hk;obtain⟨f,hf,er⟩:=nC hb M hc hp;have hN:=FH hb a τ hc hk h4;have hrd:(Bk AA).rd (Ac AA c (a.nx c))=true:=by rw[s3];exact LU (by omega)
 have hpl:(Bk AA).pl (Ac AA c (a.nx c))=p:=by rw[s2,ep,Int.toNat_natCast]
 have I:=M.inv.DJ hT hN hrd (by rw[s4];exact hz) (fun x hx=>by
  rw[s1,Hh] at hx;rcases hcan with hg|hg
  . exact iC hb M hc hk h1 hg hx
  . rw[hg] at hx;cases hx) (f:=f) (by rw[s1,hpl];exact hf)
 have hx:=Cp AA
 have hd:BL AA (AB AA) b c (Ao b c)=Fo (AX Ah (AB AA)) b (Ac AA c (a.nx c):Int) (JG AA f) (f:Int):=by
  rw[(D9 M.Bz hc).2];unfold BL;rw[if_pos h1,JX hb hc hk h4,ep,Int.toNat_natCast,er]
 refine⟨f,by rw[ep,Int.toNat_natCast];exact hf,?_⟩
 have hst:C3 AA { BN a c with F:=fun i=>if i=Ac AA c (a.nx c) then f else a.F i } (fun i=>if i=Ac AA c (a.nx c) then T else τ i)=(C3 AA a τ).DJ T (Ac AA c (a.nx c)) f:=by
  unfold C3 BE.DJ
  congr 1
  funext j;apply propext;exact Ll hb a hc hk h4 h3 j
 have Y9:∀j,j<(AB AA).length->ET AA { BN a c with F:=fun i=>if i=Ac AA c (a.nx c) then f else a.F i } j=(decide (j=Ac AA c (a.nx c))||ET AA a j):=by
  intro j hj;show ET AA (BN a c) j=_;have:=Ll hb a hc hk h4 h3 j
  cases q:ET AA (BN a c) j with
  |true=>
   rcases this.1 ⟨hj,q⟩ with h|h
   . rw[h.2];simp
   . simp[h]
  |false=>
   have n1:¬j=Ac AA c (a.nx c):=fun e=>by have:=(this.2 (.inr e)).2;rw[q] at this;cases this
   have n2:ET AA a j=false:=by
    cases q2:ET AA a j with
    |false=>rfl
    |true=>have:=(this.2 (.inl ⟨hj,q2⟩)).2;rw[q] at this;cases this
   simp[n1,n2]
 unfold Aj;rw[hd];refine⟨⟨Kk M.Bz hc,M.Bz.AG,M.Bz.rws,M.Bz.AO,M.Bz.AM,?_,?_⟩,by rw[hst];exact I,IM M.VB hk,Kb M (fun h=>⟨h4,?_⟩)⟩
 ·
  show G3 (AX Ah (AB AA)) _ _ b.fr=_;rw[M.Bz.fr,Kn];refine List.map_congr_left (fun r hr=>?_);obtain⟨j,rfl,hj,_⟩:=GY hx hr;rw[Int.toNat_natCast,Y9 j hj];show _=if _ then ((if j=Ac AA c (a.nx c) then f else a.F j:Nat):Int) else -1
  by_cases e:j=Ac AA c (a.nx c)
  . simp[e]
  . simp[e,show ¬((j:Int)=(Ac AA c (a.nx c):Int)) by omega]
 ·
  show G3 (AX Ah (AB AA)) _ _ b.sn=_;rw[M.Bz.sn,Kn];refine List.map_congr_left (fun r hr=>?_);obtain⟨j,rfl,hj,_⟩:=GY hx hr;rw[Int.toNat_natCast,Y9 j hj];show _=if _ then JG AA (if j=Ac AA c (a.nx c) then f else a.F j) else -1
  by_cases e:j=Ac AA c (a.nx c)
  . simp[e]
  . simp[e,show ¬((j:Int)=(Ac AA c (a.nx c):Int)) by omega]
 ·
  rcases hcan with hg|hg
  ·
   unfold Eu;rw[h1,show (Al AA c (a.nx c)).2.2.2=0 from hg];rfl
  . exact absurd hg h
theorem Wg {AA:List (List Dd)}(hb:AQ AA=true){b:Bd}{a:Ab}{τ:Nat->Nat}{T:Nat}{z:Int}(M:MI AA b a τ T z)(hT:1<=T){c:Nat}(hc:c<AA.length)(hk:a.nx c<(AA.getD c []).length)(h1:(Al AA c (a.nx c)).1=1)
  (hz:Cz AA c (a.nx c)=z) (hcan:BP AA c (a.nx c)=0\/a.N c=[]):
  ∃f τ',((C3 AA a τ).L (Bk AA) (c:Int) (Al AA c (a.nx c)).2.1.toNat).getLast? = some f/\MI AA (Aj AA (AB AA) b c) (Zu AA a c f) τ' T z:=by
 obtain⟨f,h,M'⟩:=Lw hb M hT hc hk h1 hz hcan;exact⟨f,_,h,M'⟩
theorem Su {AA:List (List Dd)}(hb:AQ AA=true){j c k i:Nat}(E:Dz AA j c k i):bO AA j=(Al AA c k).2.1/\JG AA j=XI (Al AA c k) i:=by
 unfold bO JG;rw[E.at hb];exact⟨rfl,rfl⟩
theorem aO {d:Dd}{i:Nat}(h:Kh d i=false):XI d i=d.2.2.1:=by unfold XI;rw[h];rfl
theorem gB {AA:List (List Dd)}(hb:AQ AA=true)(a:Ab){c:Nat}(hc:c<AA.length)(hk:a.nx c<(AA.getD c []).length)(h2:(Al AA c (a.nx c)).1=2){j:Nat}(hj:j<(AB AA).length)(hr:((AB AA).getD j zE).2.2.1=true):
  ET AA (BN a c) j=ET AA a j:=by
 have this:=Ll hb a hc hk (by omega) (by omega) j
 have hne:j≠Ac AA c (a.nx c):=by
  intro e;have E:=Cl hc hk (by omega:(Al AA c (a.nx c)).1≠4);rw[e,E.at hb] at hr;rw[show Kh (Al AA c (a.nx c)) 0=false from Iz h2 0] at hr;cases hr
 cases q2:ET AA a j with
 |true=>exact (this.2 (.inl ⟨hj,q2⟩)).2
 |false=>
  cases q:ET AA (BN a c) j with
  |false=>rfl
  |true=>
   rcases this.1 ⟨hj,q⟩ with h|h
   . rw[q2] at h;cases h.2
   . exact absurd h hne
theorem aU {d:Dd}(h:d.1≠3)(hg:d.2.2.2=0):Eu d=false:=by
 unfold Eu;rw[beq_eq_false_iff_ne.2 h,hg];rfl
abbrev SR (AA:List (List Dd))(a:Ab)(c:Nat):Ab:={ BN a c with N:=fun c'=>if c'=c then a.N c'++[Ac AA c (a.nx c)] else a.N c' }
abbrev mG (AA:List (List Dd))(a:Ab)(c p:Nat):Ab:={ BN a c with R:=fun q=>if q=p then a.R q++[Ac AA c (a.nx c)] else a.R q }
theorem PM {AA:List (List Dd)}(hb:AQ AA=true){b:Bd}{a:Ab}{τ:Nat->Nat}{T:Nat}{z:Int}(M:MI AA b a τ T z){c:Nat}(hc:c<AA.length)(hk:a.nx c<(AA.getD c []).length)(h2:(Al AA c (a.nx c)).1=2)(hg:BP AA c (a.nx c)=0):
  MI AA (Aj AA (AB AA) b c) (SR AA a c) τ T z:=by
 have h4:(Al AA c (a.nx c)).1≠4:=by omega
 have h3:(Al AA c (a.nx c)).1≠3:=by omega
 have E:=Cl hc hk h4;obtain⟨s1,s2,s3,s4⟩:=DK hb E;have hN:=FH hb a τ hc hk h4;have hrd:(Bk AA).rd (Ac AA c (a.nx c))=false:=by rw[s3];exact Iz h2 0
 have I:=M.inv.FO hN hrd;have hx:=Cp AA
 have hd:BL AA (AB AA) b c (Ao b c)={ b with AG:=b.AG.set c (b.AG.getD c []++[((Al AA c (a.nx c)).2.1,(Al AA c (a.nx c)).2.2.1,(Ac AA c (a.nx c):Int))]) }:=by
  rw[(D9 M.Bz hc).2];unfold BL;rw[if_neg (by omega),if_neg (by omega),if_neg (by omega),if_pos h2,JX hb hc hk h4]
 have hst:C3 AA { BN a c with N:=fun c'=>if c'=c then a.N c'++[Ac AA c (a.nx c)] else a.N c' } τ=(C3 AA a τ).FO (Bk AA) (Ac AA c (a.nx c)):=by
  unfold C3 BE.FO
  congr 1
  ·
   funext j;apply propext;exact Ll hb a hc hk h4 h3 j
  ·
   funext c';rw[s1];show (if 0<=c' then (if c'.toNat=c then a.N c'.toNat++[Ac AA c (a.nx c)] else a.N c'.toNat) else [])=if c'=(c:Int) then (if 0<=c' then a.N c'.toNat else [])++[Ac AA c (a.nx c)] else (if 0<=c' then a.N c'.toNat else [])
   by_cases h0:0<=c'
   ·
    rw[if_pos h0];by_cases e:c'=(c:Int)
    . subst e;simp
    . rw[if_neg (by omega),if_neg e,if_pos h0]
   . rw[if_neg h0,if_neg (by omega),if_neg h0]
 unfold Aj;rw[hd];refine⟨⟨Kk M.Bz hc,?_,M.Bz.rws,M.Bz.AO,M.Bz.AM,?_,?_⟩,by rw[hst];exact I,IM M.VB hk,?_⟩
 ·
  show b.AG.set c _=_;rw[El M.Bz hc,M.Bz.AG,DU];refine List.map_congr_left (fun i _=>?_);show _=(if i=c then a.N i++[Ac AA c (a.nx c)] else a.N i).map (Wa AA);split
  ·
   rename_i e;subst e;rw[List.map_append]
   congr 1
   show _=[Wa AA _];unfold Wa;rw[(Su hb E).1,(Su hb E).2,aO (Iz h2 0)]
  . rfl
 ·
  show b.fr=_;rw[M.Bz.fr];refine List.map_congr_left (fun r hr=>?_);obtain⟨j,rfl,hj,hjr⟩:=GY hx hr;rw[Int.toNat_natCast];show _=if ET AA (BN a c) j=true then _ else _
  rw[gB hb a hc hk h2 hj hjr];rfl
 ·
  show b.sn=_;rw[M.Bz.sn];refine List.map_congr_left (fun r hr=>?_);obtain⟨j,rfl,hj,hjr⟩:=GY hx hr;rw[Int.toNat_natCast];show _=if ET AA (BN a c) j=true then _ else _
  rw[gB hb a hc hk h2 hj hjr];rfl
 ·
  intro c' x hxm;have old:=Kb M (c:=c) (fun _=>⟨h4,aU h3 hg⟩);change x∈(if c'=c then a.N c'++[Ac AA c (a.nx c)] else a.N c') at hxm;by_cases e:c'=c
  ·
   rw[if_pos e,List.mem_append] at hxm;rcases hxm with hxm|hxm
   . exact old c' x hxm
   ·
    have ex:x=Ac AA c (a.nx c):=by simpa using hxm
    subst e;refine⟨hc,a.nx c',by rw[ex];exact E,?_,h2,hg,fun k' h1 h2'=>?_⟩
    ·
     show a.nx c'<(BN a c').nx c';rw[C2,if_pos rfl];omega
    ·
     change k'<(BN a c').nx c' at h2';rw[C2,if_pos rfl] at h2';omega
  ·
   rw[if_neg e] at hxm;exact old c' x hxm
theorem NU {AA:List (List Dd)}(hb:AQ AA=true){b:Bd}{a:Ab}{τ:Nat->Nat}{T:Nat}{z:Int}(M:MI AA b a τ T z)(hT:1<=T){c:Nat}(hc:c<AA.length)(hk:a.nx c<(AA.getD c []).length)(h2:(Al AA c (a.nx c)).1=2)(hg:BP AA c (a.nx c)≠0)
  (hz:Cz AA c (a.nx c)=z) (hN0:a.N c=[]):
  MI AA (Aj AA (AB AA) b c) (mG AA a c (Al AA c (a.nx c)).2.1.toNat) (fun i=>if i=Ac AA c (a.nx c) then T else τ i) T z:=by
 have h4:(Al AA c (a.nx c)).1≠4:=by omega
 have h3:(Al AA c (a.nx c)).1≠3:=by omega
 have E:=Cl hc hk h4;obtain⟨s1,s2,s3,s4⟩:=DK hb E;obtain⟨p,hp,ep⟩:=Iw hb hc hk;have hN:=FH hb a τ hc hk h4;have hrd:(Bk AA).rd (Ac AA c (a.nx c))=false:=by rw[s3];exact Iz h2 0
 have hpl:(Bk AA).pl (Ac AA c (a.nx c))=p:=by rw[s2,ep,Int.toNat_natCast]
 have I:=M.inv.Dm hT hN hrd (by rw[s4];exact hz) (by rw[s1,Hh];exact hN0);have hx:=Cp AA;have hg0:0<BP AA c (a.nx c):=by have:=(Yy (CG hb hc) hk).1;omega
 have hd:BL AA (AB AA) b c (Ao b c)=Dn b p (Al AA c (a.nx c)).2.2.1 (Ac AA c (a.nx c):Int):=by
  rw[(D9 M.Bz hc).2];unfold BL;rw[if_neg (by omega),if_neg (by omega),if_pos ⟨h2,hg0⟩,JX hb hc hk h4,ep,Int.toNat_natCast]
 rw[ep,Int.toNat_natCast]
 have hst:C3 AA { BN a c with R:=fun q=>if q=p then a.R q++[Ac AA c (a.nx c)] else a.R q } (fun i=>if i=Ac AA c (a.nx c) then T else τ i)=(C3 AA a τ).Dm (Bk AA) T (Ac AA c (a.nx c)):=by
  unfold C3 BE.Dm;rw[hpl]
  congr 1
  funext j;apply propext;exact Ll hb a hc hk h4 h3 j
 have hla:∀q,BW { BN a c with R:=fun q=>if q=p then a.R q++[Ac AA c (a.nx c)] else a.R q } q=if q=p then Ac AA c (a.nx c) else BW a q:=by
  intro q;unfold BW;show ((if q=p then a.R q++[Ac AA c (a.nx c)] else a.R q).getLast?).getD q=_;split
  . simp
  . rfl
 unfold Aj;rw[hd];refine⟨⟨Kk M.Bz hc,M.Bz.AG,?_,?_,?_,?_,?_⟩,by rw[hst];exact I,IM M.VB hk,Kb M (fun h=>absurd hN0 h)⟩
 ·
  show b.rws.set p (b.rws.getD p []++[(Ac AA c (a.nx c):Int)])=_;rw[(LO M.Bz hp).2.2,M.Bz.rws,DU];refine List.map_congr_left (fun q _=>?_);show _=(if q=p then a.R q++[Ac AA c (a.nx c)] else a.R q).map Int.ofNat;split
  . rename_i e;subst e;rw[List.map_append];rfl
  . rfl
 ·
  show b.AO.set p (Ac AA c (a.nx c):Int)=_;rw[M.Bz.AO,DU];refine List.map_congr_left (fun q _=>?_);rw[hla];split<;>rfl
 ·
  show b.AM.set p (Al AA c (a.nx c)).2.2.1=_;rw[M.Bz.AM,DU];refine List.map_congr_left (fun q _=>?_);rw[hla];split
  . rw[(Su hb E).2,aO (Iz h2 0)]
  . rfl
 ·
  show b.fr=_;rw[M.Bz.fr];refine List.map_congr_left (fun r hr=>?_);obtain⟨j,rfl,hj,hjr⟩:=GY hx hr;rw[Int.toNat_natCast];show _=if ET AA (BN a c) j=true then _ else _
  rw[gB hb a hc hk h2 hj hjr];rfl
 ·
  show b.sn=_;rw[M.Bz.sn];refine List.map_congr_left (fun r hr=>?_);obtain⟨j,rfl,hj,hjr⟩:=GY hx hr;rw[Int.toNat_natCast];show _=if ET AA (BN a c) j=true then _ else _
  rw[gB hb a hc hk h2 hj hjr];rfl
theorem Zk {AA:List (List Dd)}(hb:AQ AA=true){b:Bd}{a:Ab}{τ:Nat->Nat}{T:Nat}{z:Int}(M:MI AA b a τ T z)(hT:1<=T){c:Nat}(hc:c<AA.length)(hk:a.nx c<(AA.getD c []).length)(h2:(Al AA c (a.nx c)).1=2)(hg:BP AA c (a.nx c)≠0)
  (hz:Cz AA c (a.nx c)=z) (hN0:a.N c=[]):
  ∃ τ',MI AA (Aj AA (AB AA) b c) (mG AA a c (Al AA c (a.nx c)).2.1.toNat) τ' T z:=⟨_,NU hb M hT hc hk h2 hg hz hN0⟩
abbrev aA (AA:List (List Dd))(a:Ab)(c p:Nat):Ab:={ BN a c with F:=fun i=>if i=Ac AA c (a.nx c) then BW a p else a.F i,R:=fun q=>if q=p then a.R q++[Ac AA c (a.nx c)+1] else a.R q }
abbrev Py (a:Ab)(c p x:Nat)(rest:List Nat):Ab:={ a with N:=fun c'=>if c'=c then rest else a.N c',R:=fun q=>if q=p then a.R q++[x] else a.R q }
theorem Lx {AA:List (List Dd)}(hb:AQ AA=true){b:Bd}{a:Ab}{τ:Nat->Nat}{T:Nat}{z:Int}(M:MI AA b a τ T z)(hT:1<=T){c:Nat}(hc:c<AA.length)(hk:a.nx c<(AA.getD c []).length)(h3:(Al AA c (a.nx c)).1=3)
  (hz:Cz AA c (a.nx c)=z) (hN0:a.N c=[]):
  MI AA (Aj AA (AB AA) b c) (aA AA a c (Al AA c (a.nx c)).2.1.toNat) (fun i=>if i=Ac AA c (a.nx c)+1 then T else if i=Ac AA c (a.nx c) then T else τ i) T z:=by
 have h4:(Al AA c (a.nx c)).1≠4:=by omega
 have E:=Cl hc hk h4;have E2:=Ic hc hk h3;obtain⟨s1,s2,s3,s4⟩:=DK hb E;obtain⟨r1,r2,r3,r4⟩:=DK hb E2;obtain⟨p,hp,ep⟩:=Iw hb hc hk;have hN:=FH hb a τ hc hk h4;have hrd:(Bk AA).rd (Ac AA c (a.nx c))=true:=by rw[s3];exact LU (by omega)
 have hrd2:(Bk AA).rd (Ac AA c (a.nx c)+1)=false:=by rw[r3];exact Jf _
 have hpl:(Bk AA).pl (Ac AA c (a.nx c))=p:=by rw[s2,ep,Int.toNat_natCast]
 have hpl2:(Bk AA).pl (Ac AA c (a.nx c)+1)=p:=by rw[r2,ep,Int.toNat_natCast]
 have hlast:=PC M.inv hp
 have I1:=M.inv.DJ hT hN hrd (by rw[s4];exact hz) (fun x hx=>by rw[s1,Hh,hN0] at hx;cases hx) (f:=BW a p) (by
  rw[s1,hpl];unfold BE.L;rw[Hh,hN0];show (a.R p++[].filter _).getLast? = _;rw[List.filter_nil,List.append_nil]
  exact hlast)
 have hN2:qB (Bk AA) ((C3 AA a τ).DJ T (Ac AA c (a.nx c)) (BW a p)) (Ac AA c (a.nx c)+1):=by
  have hl:=E2.lt hb;refine⟨hl.1,hl.2,?_,?_,?_⟩
  ·
   rintro (⟨_,h⟩|h)
   . rw[J8 hb E2,decide_eq_true_eq] at h;omega
   . omega
  ·
   intro i h3' hi hck;by_cases e:i=Ac AA c (a.nx c)
   . exact .inr e
   . exact .inl (hN.all i h3' (by omega) (by rw[hck,r1,s1]))
  ·
   rintro i (h|h) h3' hck
   . have:=hN.last i h h3' (by rw[hck,r1,s1]);omega
   . omega
 have I:=I1.Dm hT hN2 hrd2 (by rw[r4];exact hz) (by rw[r1];show (C3 AA a τ).N (c:Int)=[];rw[Hh];exact hN0);have hx:=Cp AA;obtain⟨l1,l2,l3⟩:=LO M.Bz hp
 have hd:BL AA (AB AA) b c (Ao b c)=Dn (Fo (AX Ah (AB AA)) b (Ac AA c (a.nx c):Int) (JG AA (BW a p)) (BW a p:Int)) p (Al AA c (a.nx c)).2.2.1 ((Ac AA c (a.nx c):Int)+1):=by
  rw[(D9 M.Bz hc).2];unfold BL;rw[if_neg (by omega),if_pos h3,JX hb hc hk h4,ep,Int.toNat_natCast,l1,l2]
 rw[ep,Int.toNat_natCast]
 have hst:C3 AA { BN a c with F:=fun i=>if i=Ac AA c (a.nx c) then BW a p else a.F i,R:=fun q=>if q=p then a.R q++[Ac AA c (a.nx c)+1] else a.R q } (fun i=>if i=Ac AA c (a.nx c)+1 then T else if i=Ac AA c (a.nx c) then T else τ i) =
   ((C3 AA a τ).DJ T (Ac AA c (a.nx c)) (BW a p)).Dm (Bk AA) T (Ac AA c (a.nx c)+1):=by
  unfold C3 BE.Dm BE.DJ;rw[hpl2]
  congr 1
  funext j;apply propext;exact YE hb a hc hk h3 j
 have Y9:∀j,j<(AB AA).length->((AB AA).getD j zE).2.2.1=true->ET AA (BN a c) j=(decide (j=Ac AA c (a.nx c))||ET AA a j):=by
  intro j hj hjr;have this:=YE hb a hc hk h3 j
  have hne:j≠Ac AA c (a.nx c)+1:=by
   intro e;rw[e,E2.at hb,show Kh (Al AA c (a.nx c)) 1=false from Jf _] at hjr;cases hjr
  cases q:ET AA (BN a c) j with
  |true=>
   rcases this.1 ⟨hj,q⟩ with (h|h)|h
   . rw[h.2];simp
   . simp[h]
   . exact absurd h hne
  |false=>
   have n1:¬j=Ac AA c (a.nx c):=fun e=>by have:=(this.2 (.inl (.inr e))).2;rw[q] at this;cases this
   have n2:ET AA a j=false:=by
    cases q2:ET AA a j with
    |false=>rfl
    |true=>have:=(this.2 (.inl (.inl ⟨hj,q2⟩))).2;rw[q] at this;cases this
   simp[n1,n2]
 have hla:∀q,BW { BN a c with F:=fun i=>if i=Ac AA c (a.nx c) then BW a p else a.F i,R:=fun q=>if q=p then a.R q++[Ac AA c (a.nx c)+1] else a.R q } q=if q=p then Ac AA c (a.nx c)+1 else BW a q:=by
  intro q;unfold BW;show ((if q=p then a.R q++[Ac AA c (a.nx c)+1] else a.R q).getLast?).getD q=_;split
  . simp
  . rfl
 unfold Aj;rw[hd];refine⟨⟨Kk M.Bz hc,M.Bz.AG,?_,?_,?_,?_,?_⟩,by rw[hst];exact I,IM M.VB hk,Kb M (fun h=>absurd hN0 h)⟩
 ·
  show b.rws.set p (b.rws.getD p []++[(Ac AA c (a.nx c):Int)+1])=_;rw[l3,M.Bz.rws,DU];refine List.map_congr_left (fun q _=>?_);show _=(if q=p then a.R q++[Ac AA c (a.nx c)+1] else a.R q).map Int.ofNat;split
  . rename_i e;subst e;rw[List.map_append];rfl
  . rfl
 ·
  show b.AO.set p ((Ac AA c (a.nx c):Int)+1)=_;rw[M.Bz.AO,DU];refine List.map_congr_left (fun q _=>?_);rw[hla];split<;>rfl
 ·
  show b.AM.set p (Al AA c (a.nx c)).2.2.1=_;rw[M.Bz.AM,DU];refine List.map_congr_left (fun q _=>?_);rw[hla];split
  . rw[(Su hb E2).2,aO (Jf _)]
  . rfl
 ·
  show G3 (AX Ah (AB AA)) _ _ b.fr=_;rw[M.Bz.fr,Kn];refine List.map_congr_left (fun r hr=>?_);obtain⟨j,rfl,hj,hjr⟩:=GY hx hr;rw[Int.toNat_natCast];show _=if ET AA (BN a c) j=true then ((if j=Ac AA c (a.nx c) then BW a p else a.F j:Nat):Int) else -1
  rw[Y9 j hj hjr];by_cases e:j=Ac AA c (a.nx c)
  . simp[e]
  . simp[e,show ¬((j:Int)=(Ac AA c (a.nx c):Int)) by omega]
 ·
  show G3 (AX Ah (AB AA)) _ _ b.sn=_;rw[M.Bz.sn,Kn];refine List.map_congr_left (fun r hr=>?_);obtain⟨j,rfl,hj,hjr⟩:=GY hx hr;rw[Int.toNat_natCast];show _=if ET AA (BN a c) j=true then JG AA (if j=Ac AA c (a.nx c) then BW a p else a.F j) else -1
  rw[Y9 j hj hjr];by_cases e:j=Ac AA c (a.nx c)
  . simp[e]
  . simp[e,show ¬((j:Int)=(Ac AA c (a.nx c):Int)) by omega]
theorem Wh {AA:List (List Dd)}(hb:AQ AA=true){b:Bd}{a:Ab}{τ:Nat->Nat}{T:Nat}{z:Int}(M:MI AA b a τ T z)(hT:1<=T){c:Nat}(hc:c<AA.length)(hk:a.nx c<(AA.getD c []).length)(h3:(Al AA c (a.nx c)).1=3)
  (hz:Cz AA c (a.nx c)=z) (hN0:a.N c=[]):
  ∃ τ',MI AA (Aj AA (AB AA) b c) (aA AA a c (Al AA c (a.nx c)).2.1.toNat) τ' T z:=⟨_,Lx hb M hT hc hk h3 hz hN0⟩
theorem Lp {AA:List (List Dd)}(hb:AQ AA=true){b:Bd}{a:Ab}{τ:Nat->Nat}{T:Nat}{z:Int}(M:MI AA b a τ T z){c:Nat}(hc:c<AA.length){x:Nat}{rest:List Nat}(hN:a.N c=x::rest):
  MI AA (BT b c) (Py a c ((Bk AA).pl x) x rest) (fun i=>if i=x then T+1 else τ i) (T+1) ((Bk AA).cs x):=by
 obtain⟨_,k,E,h1,h2,h3,h5⟩:=M.nt c x (by rw[hN];simp);obtain⟨s1,s2,s3,s4⟩:=DK hb E;obtain⟨p,hp,ep⟩:=Iw hb E.hc E.hk;have hpl:(Bk AA).pl x=p:=by rw[s2,ep,Int.toNat_natCast]
 have hst0:(C3 AA a τ).N (c:Int)=x::rest:=by rw[Hh];exact hN
 have I0:=M.inv.tick ((Bk AA).cs x) (fun i hi h3' e=>by
  obtain⟨c',k',i',E'⟩:=Gn hb h3' hi.1.1;rw[(DK hb E').2.2.2,s4] at e;have hc':=(Ib (CG hb E'.hc) (CG hb E.hc) E'.hk E.hk E'.kind E.kind).1 e;obtain⟨rfl,hq⟩:=hc'
  have hkk:k'=k:=by
   rcases hq with hq|hq
   . exact hq
   . exact absurd (hq.2.trans h3) hq.1
  subst hkk;have e1:=(MN E' (by omega)).1;have e2:=(MN E (by omega)).1;have exx:i=x:=by omega
  subst exx
  exact hi.2 (by rw[s1,hst0];simp))
 have I:=I0.Ck (by omega) hst0 rfl;have hx:=Cp AA
 have hfl:BT b c=Dn { b with AG:=b.AG.set c (rest.map (Wa AA)) } p (JG AA x) (x:Int):=by
  unfold BT;rw[El M.Bz hc,hN,List.map_cons];show Dn _ (bO AA x).toNat (JG AA x) (x:Int)=_;rw[(Su hb E).1,ep,Int.toNat_natCast]
 rw[hpl]
 have hst:C3 AA { a with N:=fun c'=>if c'=c then rest else a.N c',R:=fun q=>if q=p then a.R q++[x] else a.R q } (fun i=>if i=x then T+1 else τ i)=(C3 AA a τ).Ck (Bk AA) (T+1) (c:Int) x rest:=by
  unfold C3 BE.Ck;rw[hpl]
  congr 1
  funext c';show (if 0<=c' then (if c'.toNat=c then rest else a.N c'.toNat) else [])=if c'=(c:Int) then rest else (if 0<=c' then a.N c'.toNat else [])
  by_cases h0:0<=c'
  ·
   rw[if_pos h0];by_cases e:c'=(c:Int)
   . subst e;simp
   . rw[if_neg (by omega),if_neg e,if_pos h0]
  . rw[if_neg h0,if_neg (by omega),if_neg h0]
 have hla:∀q,BW { a with N:=fun c'=>if c'=c then rest else a.N c',R:=fun q=>if q=p then a.R q++[x] else a.R q } q=if q=p then x else BW a q:=by
  intro q;unfold BW;show ((if q=p then a.R q++[x] else a.R q).getLast?).getD q=_;split
  . simp
  . rfl
 rw[hfl];refine⟨⟨M.Bz.AL,?_,?_,?_,?_,M.Bz.fr,M.Bz.sn⟩,by rw[hst];exact I,M.VB,?_⟩
 ·
  show b.AG.set c _=_;rw[M.Bz.AG,DU];refine List.map_congr_left (fun i _=>?_);show _=(if i=c then rest else a.N i).map (Wa AA);split<;>rfl
 ·
  show b.rws.set p (b.rws.getD p []++[(x:Int)])=_;rw[(LO M.Bz hp).2.2,M.Bz.rws,DU];refine List.map_congr_left (fun q _=>?_);show _=(if q=p then a.R q++[x] else a.R q).map Int.ofNat;split
  . rename_i e;subst e;rw[List.map_append];rfl
  . rfl
 ·
  show b.AO.set p (x:Int)=_;rw[M.Bz.AO,DU];refine List.map_congr_left (fun q _=>?_);rw[hla];split<;>rfl
 ·
  show b.AM.set p (JG AA x)=_;rw[M.Bz.AM,DU];refine List.map_congr_left (fun q _=>?_);rw[hla];split<;>rfl
 ·
  intro c' y hy;refine M.nt c' y ?_;change y∈(if c'=c then rest else a.N c') at hy;split at hy
  . rename_i e;subst e;rw[hN];exact List.mem_cons_of_mem _ hy
  . exact hy
theorem WL {AA:List (List Dd)}(hb:AQ AA=true){b:Bd}{a:Ab}{τ:Nat->Nat}{T:Nat}{z:Int}(M:MI AA b a τ T z){c:Nat}(hc:c<AA.length){x:Nat}{rest:List Nat}(hN:a.N c=x::rest):
  ∃ τ',MI AA (BT b c) (Py a c ((Bk AA).pl x) x rest) τ' (T+1) ((Bk AA).cs x):=⟨_,Lp hb M hc hN⟩
theorem OI {a b:List Int}(h:a.Nodup)(hs:∀x∈a,x∈b):a.length<=b.length:=by
 induction a generalizing b with
 |nil=>simp
 |cons x a ih=>
  rw[List.nodup_cons] at h;have hx:=hs x (by simp);have:=ih (b:=b.erase x) h.2 (fun y hy=>(List.mem_erase_of_ne (fun e=>h.1 (by rw[<-e];exact hy))).2 (hs y (by simp[hy])));rw[List.length_erase_of_mem hx] at this;have:=List.length_pos_of_mem hx;simp;omega
theorem TM {AA:List (List Dd)}(hb:AQ AA=true):3<=(AB AA).length/\(AB AA).getD 0 zE=(-1,-1,false,0,0,0)/\(AB AA).getD 1 zE=(-1,-1,false,1,0,1)/\(AB AA).getD 2 zE=(-1,-1,false,2,0,2):=by
 have e1:AB AA=BA AA AA.length:=by rw[AB,if_pos hb]
 obtain⟨t,ht⟩:=Gp AA 0 AA.length (Nat.zero_le _);have ht':BA AA AA.length=CZ++t:=ht;rw[e1];refine⟨by rw[ht'];simp[CZ],Pn ht'⟩
theorem Kt {AA:List (List Dd)}(hb:AQ AA=true){i:Nat}(hi:i<3):((AB AA).getD i zE).2.2.2.1=(i:Int)/\((AB AA).getD i zE).2.2.1=false/\bH ((AB AA).getD i zE)=(i:Int)/\((AB AA).getD i zE).1=-1:=by
 obtain⟨_,h0,h1,h2⟩:=TM hb;rcases (by omega:i=0\/i=1\/i=2) with rfl|rfl|rfl
 . rw[h0];exact⟨rfl,rfl,rfl,rfl⟩
 . rw[h1];exact⟨rfl,rfl,rfl,rfl⟩
 . rw[h2];exact⟨rfl,rfl,rfl,rfl⟩
theorem V7 {AA:List (List Dd)}(hb:AQ AA=true){c k:Nat}(hc:c<AA.length)(hk:k<(AA.getD c []).length)(h4:(Al AA c k).1≠4):3<=Cz AA c k:=by
 rcases Kw (CG hb hc) hk h4 with ⟨_,e⟩|⟨_,j,_,_,_,e⟩
 . have:=Iu AA c k;omega
 . have:=Iu AA c j;omega
theorem iM {AA:List (List Dd)}(hb:AQ AA=true){b:Bd}{a:Ab}{τ:Nat->Nat}{T:Nat}{z:Int}(M:MI AA b a τ T z)(hT:1<=T){c:Nat}(hc:c<AA.length)(hk:a.nx c<(AA.getD c []).length)
  (hz:(Al AA c (a.nx c)).1≠4->Cz AA c (a.nx c)=z) (hcan:((Al AA c (a.nx c)).1<=2/\BP AA c (a.nx c)=0)\/a.N c=[]):
  ∃a' τ',MI AA (Aj AA (AB AA) b c) a' τ' T z/\a'.nx=(BN a c).nx/\(BP AA c (a.nx c)≠0->a'.N c=[]):=by
 have hkd:=CM (CG hb hc _ hk);rcases hkd with h|h|h|h
 ·
  obtain⟨f,τ',_,h1⟩:=Wg hb M hT hc hk h (hz (by omega)) (hcan.imp (fun h=>h.2) id);exact⟨_,τ',h1,rfl,fun hg=>hcan.resolve_left (fun h=>hg h.2)⟩
 ·
  by_cases hg:BP AA c (a.nx c)=0
  . exact⟨_,τ,PM hb M hc hk h hg,rfl,fun h=>absurd hg h⟩
  ·
   have hN:=hcan.resolve_left (fun h=>hg h.2);obtain⟨τ',h1⟩:=Zk hb M hT hc hk h hg (hz (by omega)) hN;exact⟨_,τ',h1,rfl,fun _=>hN⟩
 ·
  have hN:=hcan.resolve_left (fun h=>by omega);obtain⟨τ',h1⟩:=Wh hb M hT hc hk h (hz (by omega)) hN;exact⟨_,τ',h1,rfl,fun _=>hN⟩
 ·
  have hN:=hcan.resolve_left (fun h=>by omega);exact⟨BN a c,τ,PO hb M hc hk h hN,rfl,fun _=>hN⟩
def BD (AA:List (List Dd))(a:Ab):Prop:=∀c,c<AA.length->0<a.nx c->a.nx c<(AA.getD c []).length->BP AA c (a.nx c)≠0->BP AA c (a.nx c-1)≠BP AA c (a.nx c)
theorem Y0 {AA:List (List Dd)}(hb:AQ AA=true){c:Nat}(hc:c<AA.length)(g:Int){T:Nat}(hT:1<=T){z:Int}:∀(m:Nat) (b:Bd) (a:Ab) (τ:Nat->Nat),MI AA b a τ T z->a.nx c<(AA.getD c []).length->(AA.getD c []).length<=a.nx c+m->BP AA c (a.nx c)=g ->
  ((Al AA c (a.nx c)).1≠4->Cz AA c (a.nx c)=z)->(((Al AA c (a.nx c)).1<=2/\BP AA c (a.nx c)=0)\/a.N c=[]) ->
  ∃a' τ',MI AA (Ef AA (AB AA) g c m b) a' τ' T z/\a.nx c<a'.nx c/\(∀c',c'≠c->a'.nx c'=a.nx c')/\(a'.nx c<(AA.getD c []).length->BP AA c (a'.nx c)≠0->BP AA c (a'.nx c-1)≠BP AA c (a'.nx c))
 | 0,b,a,τ,M,hk,hm,_,_,_=>by omega
 |m+1,b,a,τ,M,hk,hm,hg,hz,hcan=>by
  obtain⟨a1,τ1,M1,e1,e2⟩:=iM hb M hT hc hk hz hcan;have hn1:a1.nx c=a.nx c+1:=by rw[e1,C2,if_pos rfl]
  have ho1:∀c',c'≠c->a1.nx c'=a.nx c':=fun c' h=>by rw[e1,C2,if_neg h]
  rw[Ef,(D9 M1.Bz hc).2,hn1];by_cases hs:g=0\/a.nx c+1=(AA.getD c []).length\/BP AA c (a.nx c+1)≠g
  ·
   rw[if_pos hs];refine⟨a1,τ1,M1,by omega,ho1,?_⟩;rw[hn1];intro hl hg0;rw[show a.nx c+1-1=a.nx c by omega,hg];rcases hs with hs|hs|hs
   . rw[hs];exact fun e=>hg0 e.symm
   . omega
   . exact fun e=>hs e.symm
  ·
   rw[if_neg hs];have hs0:¬g=0:=fun h=>hs (.inl h)
   have hs1:¬a.nx c+1=(AA.getD c []).length:=fun h=>hs (.inr (.inl h))
   have hs2:BP AA c (a.nx c+1)=g:=Classical.byContradiction (fun h=>hs (.inr (.inr h)));have hl:=M1.VB c hc;have hk1:a.nx c+1<(AA.getD c []).length:=by omega
   have hok:=CG hb hc;have n1:=FB hok hk (by rw[hg];exact hs0);have n2:=FB hok hk1 (by rw[hs2];exact hs0);have hcl:Cz AA c (a.nx c+1)=Cz AA c (a.nx c):=(Ib hok hok hk1 hk n2.1 n1.1).2 ⟨rfl,.inr ⟨by rw[hs2];exact hs0,by rw[hs2,hg]⟩⟩;obtain⟨a',τ',M',q1,q2,q3⟩:=Y0 hb hc g hT m (Aj AA (AB AA) b c) a1 τ1 M1 (by omega) (by omega) (by rw[hn1];exact hs2) (by rw[hn1,hcl];exact fun _=>hz n1.1) (.inr (e2 (by rw[hg];exact hs0)));exact⟨a',τ',M',by omega,fun c' h=>by rw[q2 c' h,ho1 c' h],q3⟩
theorem Yh {AA:List (List Dd)}(hb:AQ AA=true){a:Ab}{τ:Nat->Nat}{i:Nat}(hi:(C3 AA a τ).D (Bk AA) i)(h3:3<=i):∃c k i',Dz AA i c k i'/\k<a.nx c/\(Bk AA).cs i=Cz AA c k/\3<=Cz AA c k:=by
 obtain⟨c,k,i',E⟩:=Gn hb h3 hi.1.1;have hX:=hi.1.2;rw[J8 hb E,decide_eq_true_eq] at hX;exact⟨c,k,i',E,hX,(DK hb E).2.2.2,V7 hb E.hc E.hk E.kind⟩
theorem Sp {AA:List (List Dd)}(hb:AQ AA=true){b:Bd}{a:Ab}{τ:Nat->Nat}{T:Nat}{z:Int}(M:MI AA b a τ T z)(B:BD AA a){s:Int}(hs:Gv (Ad AA b) s=true):
  ∃a' τ' z',MI AA (Am AA (AB AA) b s) a' τ' (T+1) z'/\BD AA a':=by
 have hm:=Ih hs;unfold Ad at hm;rw[List.mem_append,List.mem_map,List.mem_map] at hm;rcases hm with ⟨c,hc,e⟩|⟨c,hc,e⟩
 ·
  rw[List.mem_filter,List.mem_range] at hc;obtain⟨hc,hcan⟩:=hc
  have hl3:AA.length<=3:=by
   simp only[AQ,Bool.and_eq_true,decide_eq_true_eq] at hb;exact hb.1.1.1.1.2
  unfold Bh at hcan;rw[(D9 M.Bz hc).2,El M.Bz hc] at hcan;simp only[Bool.and_eq_true,Bool.or_eq_true,decide_eq_true_eq,List.isEmpty_iff,List.map_eq_nil_iff] at hcan;obtain⟨hk,hcan⟩:=hcan;have hok:=CG hb hc
  have M1:MI AA b a τ (T+1) (if (Al AA c (a.nx c)).1=4 then -1 else Cz AA c (a.nx c)):=by
   refine⟨M.Bz,M.inv.tick _ (fun i hi h3 e=>?_),M.VB,M.nt⟩;obtain⟨c',k',i',E,hX,e1,e2⟩:=Yh hb hi h3;rw[e1] at e;split at e
   . omega
   ·
    rename_i h4;obtain⟨rfl,hq⟩:=(Ib (CG hb E.hc) hok E.hk hk E.kind h4).1 e;rcases hq with hq|⟨g1,g2⟩
    . omega
    ·
     have h0:BP AA c' (a.nx c')≠0:=by rw[<-g2];exact g1
     refine B c' hc (by omega) hk h0 ?_;exact Lq hb hc (j:=k') (k:=a.nx c'-1) (l:=a.nx c') (by omega) (by omega) hk h0 g2
  have hst:Am AA (AB AA) b s=Ef AA (AB AA) (BP AA c (a.nx c)) c (AA.getD c []).length b:=by
   unfold Am;rw[if_neg (by omega),show s.toNat=c by omega,(D9 M.Bz hc).2]
  rw[hst];obtain⟨a',τ',M',q1,q2,q3⟩:=Y0 hb hc (BP AA c (a.nx c)) (T:=T+1) (by omega) (AA.getD c []).length b a τ M1 hk (by omega) rfl (fun h=>by rw[if_neg h]) hcan;refine⟨a',τ',_,M',fun c' hc' h0 hl hg=>?_⟩;by_cases e:c'=c
  . subst e;exact q3 hl hg
  ·
   rw[q2 c' e] at h0 hl hg ⊢;exact B c' hc' h0 hl hg
 ·
  rw[List.mem_filter,List.mem_range] at hc;obtain⟨hc,hne⟩:=hc;rw[El M.Bz hc] at hne
  have hst:Am AA (AB AA) b s=BT b c:=by
   unfold Am;rw[if_pos (by omega),show (s-10).toNat=c by omega]
  rw[hst]
  cases hN:a.N c with
  |nil=>rw[hN] at hne;simp at hne
  |cons x rest=>
   obtain⟨τ',M'⟩:=WL hb M hc hN;exact⟨_,τ',_,M',fun c' hc'=>B c' hc'⟩
def Jd:Ab:={ nx:=fun _=>0,N:=fun _=>[],R:=fun p=>if p<3 then [p] else [],F:=fun _=>0 }
theorem KY {AA:List (List Dd)}(hb:AQ AA=true):MI AA (Cd AA) Jd (fun _=>0) 0 (-1)/\BD AA Jd:=by
 have hX:∀j,(C3 AA Jd (fun _=>0)).X j↔j<3:=by
  intro j;show (j<(AB AA).length/\ET AA Jd j=true)↔_;unfold ET Jd;simp;have:=(TM hb).1;omega
 have hN:∀c,(C3 AA Jd (fun _=>0)).N c=[]:=fun c=>by show (if 0<=c then [] else [])=[];split<;>rfl
 have hD:∀j,(C3 AA Jd (fun _=>0)).D (Bk AA) j↔j<3:=fun j=>by
  unfold BE.D;rw[hX,hN];simp
 have hR:∀p,(C3 AA Jd (fun _=>0)).R p=if p<3 then [p] else []:=fun p=>rfl
 have N1:∀j,j<3->(Bk AA).rd j=false/\(Bk AA).pl j=j/\(Bk AA).ck j=-1/\(Bk AA).cs j=(j:Int):=by
  intro j hj;obtain⟨h1,h2,h3,h4⟩:=Kt hb hj;refine⟨h2,?_,h4,h3⟩;show ((AB AA).getD j zE).2.2.2.1.toNat=j;rw[h1,Int.toNat_natCast]
 have hno:∀j,(C3 AA Jd (fun _=>0)).X j->¬ 3<=j:=fun j h1 h2=>by have:=(hX j).1 h1;omega
 refine⟨⟨?_,?_,fun c hc=>Nat.zero_le _,fun c x hx=>by cases hx⟩,fun c _ h=>absurd h (Nat.lt_irrefl _)⟩
 ·
  have hrep:∀(α:Type) (m:Nat) (x:α),List.replicate m x=(List.range m).map (fun _=>x):=by
   intro α m x;rw[List.map_const',List.length_range]
  have hrep2:∀(α β:Type) (l:List β) (x:α),List.replicate l.length x=l.map (fun _=>x):=by
   intro α β l x;rw[List.map_const']
  obtain⟨h3,b0,b1,b2⟩:=TM hb;refine⟨hrep _ _ _,hrep _ _ _,rfl,rfl,?_,?_,?_⟩
  ·
   show [0,0,0]=(List.range 3).map (fun p=>JG AA (BW Jd p));have e0:JG AA 0=0:=by unfold JG;rw[b0]
   have e1:JG AA 1=0:=by unfold JG;rw[b1]
   have e2:JG AA 2=0:=by unfold JG;rw[b2]
   have r3:List.range 3=[0,1,2]:=rfl;rw[r3];show [0,0,0]=[JG AA 0,JG AA 1,JG AA 2];rw[e0,e1,e2]
  ·
   show List.replicate _ (-1)=_;rw[hrep2];refine List.map_congr_left (fun r hr=>?_);obtain⟨j,rfl,hj,hjr⟩:=GY (Cp AA) hr
   have:¬ET AA Jd j=true:=by
    intro h;have h3:=(hX j).1 ⟨hj,h⟩;rw[(Kt hb h3).2.1] at hjr;cases hjr
   rw[Int.toNat_natCast,if_neg this]
  ·
   show List.replicate _ (-1)=_;rw[hrep2];refine List.map_congr_left (fun r hr=>?_);obtain⟨j,rfl,hj,hjr⟩:=GY (Cp AA) hr
   have:¬ET AA Jd j=true:=by
    intro h;have h3:=(hX j).1 ⟨hj,h⟩;rw[(Kt hb h3).2.1] at hjr;cases hjr
   rw[Int.toNat_natCast,if_neg this]
 ·
  constructor;case FC=>exact fun j hj=>⟨(hX j).2 hj,(N1 j hj).1,(N1 j hj).2.1,(N1 j hj).2.2.1,rfl,(N1 j hj).2.2.2⟩
  case lt=>exact fun j hj=>hj.1
  case down=>exact fun i j hj h3 hij _=>absurd ((hX j).1 hj) (by omega)
  case note=>exact fun c x hx=>by rw[hN] at hx;cases hx
  case LQ=>exact fun c=>by rw[hN];simp
  case pend=>exact fun c x j hx=>by rw[hN] at hx;cases hx
  case rows=>
   intro p x;rw[hR,hD];by_cases hp:p<3
   ·
    rw[if_pos hp];constructor
    ·
     intro hx;have e:x=p:=by simpa using hx
     subst e;exact⟨hp,(N1 x hp).1,(N1 x hp).2.1⟩
    ·
     rintro⟨h1,h2,h3⟩;rw[(N1 x h1).2.1] at h3;simp[h3]
   ·
    rw[if_neg hp];constructor
    . intro hx;cases hx
    ·
     rintro⟨h1,h2,h3⟩;rw[(N1 x h1).2.1] at h3;omega
  case OQ=>exact fun p=>by rw[hR];split<;>simp
  case UE=>exact fun p=>by rw[hR];split<;>simp
  case OS=>exact fun j _=>Nat.le_refl _
  case tpos=>exact fun j hj h3=>absurd h3 (hno j hj.1)
  case same=>exact fun i j hi _ h3=>absurd h3 (hno i hi.1)
  case QW=>exact fun i j hi _ h3=>absurd h3 (hno i hi.1)
  case now=>exact fun i hi h3=>absurd h3 (hno i hi.1)
  case kept=>exact fun i j hi _ h3=>absurd h3 (hno i hi.1)
  case src=>
   intro r hr hrd;rw[(N1 r ((hX r).1 hr)).1] at hrd;cases hrd
  case MZ=>
   intro r w p hr hrd;rw[(N1 r ((hX r).1 hr)).1] at hrd;cases hrd
  case Xn=>exact fun i hi h3=>absurd h3 (hno i hi)
  case fQ=>exact fun i j hi _ h3=>absurd h3 (hno i hi)
  case TR=>exact fun i j hi _ h3=>absurd h3 (hno i hi)
structure wM (AA:List (List Dd))(a:Ab)(τ:Nat->Nat)(T:Nat)(z:Int)(b:Bd):Prop where
 inv:Fx (Bk AA) (C3 AA a τ) T z
 Bz:YB AA b a
 none:∀c,(C3 AA a τ).N c=[]
 all:∀j,j<(AB AA).length->(C3 AA a τ).D (Bk AA) j
theorem lQ {AA:List (List Dd)}(hb:AQ AA=true){b:Bd}{a:Ab}{τ:Nat->Nat}{T:Nat}{z:Int}(M:MI AA b a τ T z)(he:Co AA b=true):wM AA a τ T z b:=by
 unfold Co at he;rw[List.all_eq_true] at he
 have hc:∀c,c<AA.length->a.nx c=(AA.getD c []).length/\a.N c=[]:=by
  intro c hc;have h1:=he c (List.mem_range.2 hc);rw[(D9 M.Bz hc).2,El M.Bz hc] at h1;simp only[Bool.and_eq_true,decide_eq_true_eq,List.isEmpty_iff,List.map_eq_nil_iff] at h1;have:=M.VB c hc;exact⟨by omega,h1.2⟩
 have hN:∀c,a.N c=[]:=by
  intro c;by_cases h:c<AA.length
  . exact (hc c h).2
  ·
   cases hN:a.N c with
   |nil=>rfl
   |cons x r=>exact absurd (M.nt c x (by rw[hN];simp)).1 h
 have hst:∀c,(C3 AA a τ).N c=[]:=fun c=>by
  show (if 0<=c then a.N c.toNat else [])=[];split
  . exact hN _
  . rfl
 refine⟨M.inv,M.Bz,hst,fun j hj=>⟨⟨hj,?_⟩,by rw[hst];simp⟩⟩;by_cases h3:j<3
 . unfold ET;simp[h3]
 ·
  obtain⟨c,k,i,E⟩:=Gn hb (by omega) hj;rw[J8 hb E,decide_eq_true_eq,(hc c E.hc).1];exact E.hk
theorem wM.frs {AA:List (List Dd)}{a:Ab}{τ:Nat->Nat}{T:Nat}{z:Int}{b:Bd}(h:wM AA a τ T z b):b.fr=(AX Ah (AB AA)).map (fun r=>(a.F r.toNat:Int))/\b.sn=(AX Ah (AB AA)).map (fun r=>JG AA (a.F r.toNat)):=by
 have hx:=Cp AA;rw[h.Bz.fr,h.Bz.sn]
 constructor <;>
 ·
  refine List.map_congr_left (fun r hr=>?_);obtain⟨j,rfl,hj,_⟩:=GY hx hr;rw[Int.toNat_natCast,if_pos (h.all j hj).1.2]
theorem kS {AA:List (List Dd)}(hb:AQ AA=true)(a:Ab)(τ τ':Nat->Nat){c:Nat}(hc:c<AA.length)(hk:a.nx c<(AA.getD c []).length)(h1:(Al AA c (a.nx c)).1=1)(f j:Nat):(C3 AA (Zu AA a c f) τ').X j↔(C3 AA a τ).X j\/j=Ac AA c (a.nx c):=
 Ll hb a hc hk (by omega) (by omega) j
theorem kR {AA:List (List Dd)}(hb:AQ AA=true)(a:Ab)(τ τ':Nat->Nat){c:Nat}(hc:c<AA.length)(hk:a.nx c<(AA.getD c []).length)(h2:(Al AA c (a.nx c)).1=2)(j:Nat):(C3 AA (SR AA a c) τ').X j↔(C3 AA a τ).X j\/j=Ac AA c (a.nx c):=
 Ll hb a hc hk (by omega) (by omega) j
theorem qK {AA:List (List Dd)}(hb:AQ AA=true)(a:Ab)(τ τ':Nat->Nat){c:Nat}(hc:c<AA.length)(hk:a.nx c<(AA.getD c []).length)(h2:(Al AA c (a.nx c)).1=2)(p j:Nat):(C3 AA (mG AA a c p) τ').X j↔(C3 AA a τ).X j\/j=Ac AA c (a.nx c):=
 Ll hb a hc hk (by omega) (by omega) j
theorem kT {AA:List (List Dd)}(hb:AQ AA=true)(a:Ab)(τ τ':Nat->Nat){c:Nat}(hc:c<AA.length)(hk:a.nx c<(AA.getD c []).length)(h3:(Al AA c (a.nx c)).1=3)(p j:Nat):(C3 AA (aA AA a c p) τ').X j↔((C3 AA a τ).X j\/j=Ac AA c (a.nx c))\/j=Ac AA c (a.nx c)+1:=
 YE hb a hc hk h3 j
end Go.Proofs.YtnmelakgmgenjaaGreat
