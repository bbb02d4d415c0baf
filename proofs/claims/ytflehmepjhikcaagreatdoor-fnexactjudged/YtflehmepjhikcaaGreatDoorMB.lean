/- Gathered texts. -/
import Derived.Test.YtflehmepjhikcaaGreatDoorMA
set_option maxRecDepth 100000
set_option maxHeartbeats 8000000
namespace Go.Proofs.YtflehmepjhikcaaGreatDoor
open Go.RowKit
theorem FE.OG {S:Rt}{s:A6}{T:Nat}{z:Int}(h:FE S s T z){r:Nat}(hx:s.X r)(hr:S.rd r=true):s.D S r:=
 ⟨hx,fun hn=>by have:=(h.note _ _ hn).2.2.2;rw[hr] at this;cases this⟩
theorem FE.tick {S:Rt}{s:A6}{T:Nat}{z:Int}(h:FE S s T z)(z':Int)(hz:∀i,s.D S i->3<=i->S.cs i≠z'):FE S s (T+1) z':=
 { h with
  NG:=fun j hj=>Nat.le_succ_of_le (h.NG j hj)
  now:=fun i hi h3=>⟨fun e=>by have:=h.NG i hi;omega,fun e=>absurd e (hz i hi h3)⟩ }
def A6.Ed (S:Rt)(s:A6)(j:Nat):A6:={ s with X:=fun i=>s.X i\/i=j,N:=fun c=>if c=S.ck j then s.N c++[j] else s.N c }
def A6.DC (s:A6)(T j f:Nat):A6:={ s with X:=fun i=>s.X i\/i=j,F:=fun i=>if i=j then f else s.F i,τ:=fun i=>if i=j then T else s.τ i }
def A6.Da (S:Rt)(s:A6)(T j:Nat):A6:={ s with X:=fun i=>s.X i\/i=j,R:=fun p=>if p=S.pl j then s.R p++[j] else s.R p,τ:=fun i=>if i=j then T else s.τ i }
def A6.CQ (S:Rt)(s:A6)(T:Nat)(c:Int)(x:Nat)(rest:List Nat):A6:={ s with N:=fun c'=>if c'=c then rest else s.N c',R:=fun p=>if p=S.pl x then s.R p++[x] else s.R p,τ:=fun i=>if i=x then T else s.τ i }
theorem FE.Ed {S:Rt}{s:A6}{T:Nat}{z:Int}(h:FE S s T z){j:Nat}(hn:mH S s j)(hr:S.rd j=false):FE S (s.Ed S j) T z:=by
 have hne:∀i,s.X i->i≠j:=fun i hi e=>hn.new (by rw[<-e];exact hi)
 have M5:∀c x,x∈(s.Ed S j).N c↔x∈s.N c\/(c=S.ck j/\x=j):=by
  intro c x;show x∈(if c=S.ck j then s.N c++[j] else s.N c)↔_;split
  . rename_i e;simp[e]
  . rename_i e;simp[e]
 have hD:∀i,(s.Ed S j).D S i↔s.D S i:=by
  intro i;unfold A6.D;rw[M5];show ((s.X i\/i=j)/\_)↔_;constructor
  ·
   rintro⟨h1|rfl,h2⟩
   . exact⟨h1,fun hm=>h2 (.inl hm)⟩
   . exact absurd (.inr ⟨rfl,rfl⟩) h2
  ·
   rintro⟨h1,h2⟩;refine⟨.inl h1,?_⟩;rintro (hm|⟨_,e⟩)
   . exact h2 hm
   . exact hne i h1 e
 have hsub:∀c p,(s.L S c p).Sublist ((s.Ed S j).L S c p):=by
  intro c p;refine List.Sublist.append (List.Sublist.refl _) ?_;show List.Sublist _ ((if c=S.ck j then s.N c++[j] else s.N c).filter _);split
  . rw[List.filter_append];exact List.sublist_append_left _ _
  . exact List.Sublist.refl _
 have hlast:(s.Ed S j).L S (S.ck j) (S.pl j)=s.L S (S.ck j) (S.pl j)++[j]:=by
  unfold A6.L A6.Ed;simp[List.filter_append]
 have hv:∀i,(s.Ed S j).v S i=s.v S i:=fun i=>rfl
 have gN:s.v S j=j:=by unfold A6.v;rw[hr];rfl
 refine { h with ES:=fun i hi=>⟨.inl (h.ES i hi).1,(h.ES i hi).2⟩,lt:=?_,down:=?_,note:=?_,Kz:=?_,pend:=?_,rows:=?_,NG:=?_,tpos:=?_,same:=?_,PQ:=?_,now:=?_,kept:=?_,src:=?_,Lb:=?_,WM:=?_,Z6:=?_,R9:=?_ }
 ·
  rintro i (hi|rfl)
  . exact h.lt i hi
  . exact hn.lt
 ·
  rintro i k (hk|rfl) h3 hik hc
  . exact .inl (h.down i k hk h3 hik hc)
  . exact .inl (hn.all i h3 hik hc)
 ·
  intro c x hx;rcases (M5 c x).1 hx with hx|⟨rfl,rfl⟩
  . exact⟨.inl (h.note c x hx).1,(h.note c x hx).2⟩
  . exact⟨.inr rfl,hn.three,rfl,hr⟩
 ·
  intro c;show (if c=S.ck j then s.N c++[j] else s.N c).Pairwise _;split
  ·
   rename_i e;rw[List.pairwise_append];refine⟨h.Kz c,by simp,fun x hx y hy=>?_⟩;have hy':y=j:=by simpa using hy
   subst hy';have hq:=h.note c x hx;exact hn.last x hq.1 hq.2.1 (by rw[hq.2.2.1,e])
  . exact h.Kz c
 ·
  intro c x k hx hk hxk hc;rcases (M5 c x).1 hx with hx|⟨rfl,rfl⟩
  ·
   rcases hk with hk|rfl
   ·
    rcases h.pend c x k hx hk hxk hc with hp|hp
    . exact .inl hp
    . exact .inr ((M5 c k).2 (.inl hp))
   . exact .inr ((M5 c k).2 (.inr ⟨hc.symm,rfl⟩))
  ·
   rcases hk with hk|rfl
   . have:=hn.last k hk (by have:=hn.three;omega) hc;omega
   . omega
 . intro p x;rw[hD];exact h.rows p x
 . intro i hi;exact h.NG i ((hD i).1 hi)
 . intro i hi;exact h.tpos i ((hD i).1 hi)
 . intro i k hi hk;exact h.same i k ((hD i).1 hi) ((hD k).1 hk)
 . intro i k hi hk;exact h.PQ i k ((hD i).1 hi) ((hD k).1 hk)
 . intro i hi;exact h.now i ((hD i).1 hi)
 . intro i k hi hk;exact h.kept i k ((hD i).1 hi) ((hD k).1 hk)
 ·
  rintro r (hx|rfl) hrd
  ·
   obtain⟨a,b,c,d⟩:=h.src r hx hrd;exact⟨.inl a,b,c,d.imp id (fun d=>⟨(hD _).2 d.1,d.2⟩)⟩
  . rw[hr] at hrd;cases hrd
 ·
  rintro r w p (hx|rfl) hrd hb
  . exact h.Lb r w p hx hrd hb
  . rw[hr] at hrd;cases hrd
 ·
  rintro i (hi|rfl) h3
  . exact (hsub _ _).subset (h.WM i hi h3)
  . rw[hlast,hv,gN];simp
 ·
  rintro i k (hi|rfl) (hk|rfl) h3 hik hc hp
  . exact (h.Z6 i k hi hk h3 hik hc hp).imp id (fun hb=>hb.trans (hsub _ _))
  ·
   refine .inr ?_;rw[hc,hp,hlast,hv,hv,gN,<-hc,<-hp];exact Lf (h.WM i hi h3)
  . have:=hn.last k hk (by omega) hc.symm;omega
  . omega
 ·
  rintro i k (hi|rfl) (hk|rfl) h3 hik hc hp h1 h2
  . exact h.R9 i k hi hk h3 hik hc hp h1 h2
  . exact hne _ (h.src i hi h1).1
  . have:=hn.last k hk (by omega) hc.symm;omega
  . omega
theorem FE.DC {S:Rt}{s:A6}{T:Nat}{z:Int}(h:FE S s T z)(hT:1<=T){j f:Nat}(hn:mH S s j)(hr:S.rd j=true)(hz:S.cs j=z)(hex:∀x,x∈s.N (S.ck j)->S.ex x j=true)
  (hf:(s.L S (S.ck j) (S.pl j)).getLast? = some f):FE S (s.DC T j f) T z:=by
 have hne:∀i,s.X i->i≠j:=fun i hi e=>hn.new (by rw[<-e];exact hi)
 have hD:∀i,(s.DC T j f).D S i↔s.D S i\/i=j:=by
  intro i;show ((s.X i\/i=j)/\i∉s.N (S.ck i))↔_;constructor
  ·
   rintro⟨h1|rfl,h2⟩
   . exact .inl ⟨h1,h2⟩
   . exact .inr rfl
  ·
   rintro (⟨h1,h2⟩|rfl)
   . exact⟨.inl h1,h2⟩
   . exact⟨.inr rfl,fun hm=>hn.new (h.note _ _ hm).1⟩
 have hτ:∀i,i≠j->(s.DC T j f).τ i=s.τ i:=fun i hi=>by show (if i=j then T else s.τ i)=_;rw[if_neg hi]
 have Nk:(s.DC T j f).τ j=T:=by show (if j=j then T else s.τ j)=T;rw[if_pos rfl]
 have hF:∀i,i≠j->(s.DC T j f).F i=s.F i:=fun i hi=>by show (if i=j then f else s.F i)=_;rw[if_neg hi]
 have uT:(s.DC T j f).F j=f:=by show (if j=j then f else s.F j)=f;rw[if_pos rfl]
 have hv:∀i,i≠j->(s.DC T j f).v S i=s.v S i:=fun i hi=>by unfold A6.v;rw[hF i hi]
 have gN:(s.DC T j f).v S j=f:=by unfold A6.v;rw[hr,uT];rfl
 have hfm:f∈s.L S (S.ck j) (S.pl j):=List.mem_of_getLast? hf
 have hfX:s.X f/\S.rd f=false/\S.pl f=S.pl j/\((3<=f/\S.ck f=S.ck j/\f∈s.N (S.ck j))\/s.D S f):=by
  unfold A6.L at hfm;rw[List.mem_append,List.mem_filter] at hfm;rcases hfm with hm|⟨hm,hp⟩
  ·
   obtain⟨a,b,c⟩:=(h.rows _ _).1 hm;exact⟨a.1,b,c,.inr a⟩
  ·
   obtain⟨a,b,c,d⟩:=h.note _ _ hm;exact⟨a,d,by simpa using hp,.inl ⟨b,c,hm⟩⟩
 refine { h with ES:=fun i hi=>⟨.inl (h.ES i hi).1,(h.ES i hi).2.1,(h.ES i hi).2.2.1,(h.ES i hi).2.2.2.1,by rw[hτ i (hne i (h.ES i hi).1)];exact (h.ES i hi).2.2.2.2.1,(h.ES i hi).2.2.2.2.2⟩,lt:=?_,down:=?_,note:=?_,pend:=?_,rows:=?_,Sv:=?_,NG:=?_,tpos:=?_,same:=?_,PQ:=?_,now:=?_,kept:=?_,src:=?_,Lb:=?_,WM:=?_,Z6:=?_,R9:=?_ }
 ·
  rintro i (hi|rfl)
  . exact h.lt i hi
  . exact hn.lt
 ·
  rintro i k (hk|rfl) h3 hik hc
  . exact .inl (h.down i k hk h3 hik hc)
  . exact .inl (hn.all i h3 hik hc)
 ·
  intro c x hx;exact⟨.inl (h.note c x hx).1,(h.note c x hx).2⟩
 ·
  rintro c x k hx (hk|rfl) hxk hc
  . exact h.pend c x k hx hk hxk hc
  . exact .inl ⟨hr,hex x (by rw[hc];exact hx)⟩
 ·
  intro p x;rw[hD];refine (h.rows p x).trans ⟨fun ⟨a,b⟩=>⟨.inl a,b⟩,fun ⟨a,b⟩=>⟨a.resolve_right (fun e=>?_),b⟩⟩;rw[e,hr] at b;cases b.1
 ·
  intro p;refine (h.Sv p).imp_of_mem (fun {x y} hx hy hxy=>?_);rw[hτ x (hne x ((h.rows p x).1 hx).1.1),hτ y (hne y ((h.rows p y).1 hy).1.1)];exact hxy
 ·
  intro i hi;rcases (hD i).1 hi with hi|rfl
  . rw[hτ i (hne i hi.1)];exact h.NG i hi
  . rw[Nk];exact Nat.le_refl _
 ·
  intro i hi h3;rcases (hD i).1 hi with hi|rfl
  . rw[hτ i (hne i hi.1)];exact h.tpos i hi h3
  . rw[Nk];exact hT
 ·
  intro i k hi hk h3 h3' e;rcases (hD i).1 hi with ai|rfl<;>rcases (hD k).1 hk with ak|rfl
  . rw[hτ i (hne i ai.1),hτ k (hne k ak.1)] at e;exact h.same i k ai ak h3 h3' e
  . rw[hτ i (hne i ai.1),Nk] at e;rw[hz];exact (h.now i ai h3).1 e
  . rw[hτ k (hne k ak.1),Nk] at e;rw[hz];exact ((h.now k ak h3').1 e.symm).symm
  . rfl
 ·
  intro i k hi hk h3 h3' e;rcases (hD i).1 hi with ai|rfl<;>rcases (hD k).1 hk with ak|rfl
  . rw[hτ i (hne i ai.1),hτ k (hne k ak.1)];exact h.PQ i k ai ak h3 h3' e
  . rw[hτ i (hne i ai.1),Nk];exact (h.now i ai h3).2 (by rw[e,hz])
  . rw[hτ k (hne k ak.1),Nk];exact ((h.now k ak h3').2 (by rw[<-e,hz])).symm
  . rfl
 ·
  intro i hi h3;rcases (hD i).1 hi with hi|rfl
  . rw[hτ i (hne i hi.1)];exact h.now i hi h3
  . rw[Nk,hz];simp
 ·
  intro i k hi hk h3 hik hc hcs hx;rcases (hD i).1 hi with ai|rfl<;>rcases (hD k).1 hk with ak|rfl
  . rw[hτ i (hne i ai.1),hτ k (hne k ak.1)];exact h.kept i k ai ak h3 hik hc hcs hx
  ·
   rw[hτ i (hne i ai.1),Nk];have h1:=h.NG i ai;have h2:s.τ i≠T:=fun e=>hcs (by rw[hz];exact (h.now i ai h3).1 e)
   omega
  . have:=hn.last k ak.1 (by omega) hc.symm;omega
  . omega
 ·
  rintro r (hx|rfl) hrd
  ·
   rw[hF r (hne r hx),hτ r (hne r hx)];obtain⟨a,b,c,d⟩:=h.src r hx hrd;exact⟨.inl a,b,c,d.imp id (fun d=>⟨(hD _).2 (.inl d.1),by rw[hτ _ (hne _ d.1.1)];exact d.2⟩)⟩
  ·
   rw[uT,Nk];obtain⟨a,b,c,d⟩:=hfX;exact⟨.inl a,b,c,d.imp (fun d=>⟨d.1,d.2.1⟩) (fun d=>⟨(hD _).2 (.inl d),by rw[hτ _ (hne _ a)];exact h.NG _ d⟩)⟩
 ·
  rintro r w p (hx|rfl) hrd hb
  ·
   rw[hF r (hne r hx)] at hb;have hw:=(h.rows p w).1 (TR hb).2;rw[hτ r (hne r hx),hτ w (hne w hw.1.1)];exact h.Lb r w p hx hrd hb
  ·
   rw[uT] at hb;exfalso;have hm:f∈s.R p:=(TR hb).1;obtain⟨q1,q2,q3⟩:=(h.rows p f).1 hm;have hp:p=S.pl r:=by rw[<-q3];exact hfX.2.2.1
   subst hp
   have he:(s.N (S.ck r)).filter (fun x=>S.pl x==S.pl r)=[]:=by
    apply Classical.byContradiction;intro hne';unfold A6.L at hf
    have hf2:((s.N (S.ck r)).filter (fun x=>S.pl x==S.pl r)).getLast? = some f:=by
     rw[List.getLast?_append] at hf
     cases hq:((s.N (S.ck r)).filter (fun x=>S.pl x==S.pl r)).getLast? with
     |none=>exact absurd (List.getLast?_eq_none_iff.1 hq) hne'
     |some y=>rw[hq] at hf;exact hf
    have:=List.mem_of_getLast? hf2;rw[List.mem_filter] at this;have hq:=h.note _ _ this.1;exact q1.2 (by rw[hq.2.2.1];exact this.1)
   unfold A6.L at hf;rw[he,List.append_nil] at hf;obtain⟨L',e⟩:=List.getLast?_eq_some_iff.1 hf;have hnd:=h.Ph (S.pl r);change Zd (s.R (S.pl r)) f w at hb;rw[e] at hb hnd;exact Ww hnd hb
 ·
  rintro i (hi|rfl) h3
  . rw[hv i (hne i hi)];exact h.WM i hi h3
  . rw[gN];exact hfm
 ·
  rintro i k (hi|rfl) (hk|rfl) h3 hik hc hp
  . rw[hv i (hne i hi),hv k (hne k hk)];exact h.Z6 i k hi hk h3 hik hc hp
  ·
   rw[hv i (hne i hi),gN];have hm:=h.WM i hi h3;rw[hc,hp] at hm ⊢;exact QN hm hf
  . have:=hn.last k hk (by omega) hc.symm;omega
  . omega
 ·
  rintro i k (hi|rfl) (hk|rfl) h3 hik hc hp h1 h2
  . rw[hF i (hne i hi)];exact h.R9 i k hi hk h3 hik hc hp h1 h2
  . rw[hr] at h2;cases h2
  . have:=hn.last k hk (by omega) hc.symm;omega
  . omega
theorem FE.Da {S:Rt}{s:A6}{T:Nat}{z:Int}(h:FE S s T z)(hT:1<=T){j:Nat}(hn:mH S s j)(hr:S.rd j=false)(hz:S.cs j=z)(hN:s.N (S.ck j)=[]):FE S (s.Da S T j) T z:=by
 have hne:∀i,s.X i->i≠j:=fun i hi e=>hn.new (by rw[<-e];exact hi)
 have hD:∀i,(s.Da S T j).D S i↔s.D S i\/i=j:=by
  intro i;show ((s.X i\/i=j)/\i∉s.N (S.ck i))↔_;constructor
  ·
   rintro⟨h1|rfl,h2⟩
   . exact .inl ⟨h1,h2⟩
   . exact .inr rfl
  ·
   rintro (⟨h1,h2⟩|rfl)
   . exact⟨.inl h1,h2⟩
   . exact⟨.inr rfl,fun hm=>hn.new (h.note _ _ hm).1⟩
 have hτ:∀i,i≠j->(s.Da S T j).τ i=s.τ i:=fun i hi=>by show (if i=j then T else s.τ i)=_;rw[if_neg hi]
 have Nk:(s.Da S T j).τ j=T:=by show (if j=j then T else s.τ j)=T;rw[if_pos rfl]
 have hR:∀p,(s.Da S T j).R p=if p=S.pl j then s.R p++[j] else s.R p:=fun p=>rfl
 have hv:∀i,(s.Da S T j).v S i=s.v S i:=fun i=>rfl
 have gN:s.v S j=j:=by unfold A6.v;rw[hr];rfl
 have hjR:∀p,j∉s.R p:=fun p hm=>hn.new ((h.rows p j).1 hm).1.1
 have hRs:∀p,(s.R p).Sublist ((s.Da S T j).R p):=fun p=>by
  rw[hR];split
  . exact List.sublist_append_left _ _
  . exact List.Sublist.refl _
 have hsub:∀c p,(s.L S c p).Sublist ((s.Da S T j).L S c p):=fun c p=>List.Sublist.append (hRs p) (List.Sublist.refl _)
 have hlast:(s.Da S T j).L S (S.ck j) (S.pl j)=s.L S (S.ck j) (S.pl j)++[j]:=by
  unfold A6.L;rw[hR,if_pos rfl];show s.R (S.pl j)++[j]++(s.N (S.ck j)).filter _=s.R (S.pl j)++(s.N (S.ck j)).filter _++[j];rw[hN];simp
 refine { h with ES:=fun i hi=>⟨.inl (h.ES i hi).1,(h.ES i hi).2.1,(h.ES i hi).2.2.1,(h.ES i hi).2.2.2.1,by rw[hτ i (hne i (h.ES i hi).1)];exact (h.ES i hi).2.2.2.2.1,(h.ES i hi).2.2.2.2.2⟩,lt:=?_,down:=?_,note:=?_,pend:=?_,rows:=?_,Ph:=?_,Sv:=?_,NG:=?_,tpos:=?_,same:=?_,PQ:=?_,now:=?_,kept:=?_,src:=?_,Lb:=?_,WM:=?_,Z6:=?_,R9:=?_ }
 ·
  rintro i (hi|rfl)
  . exact h.lt i hi
  . exact hn.lt
 ·
  rintro i k (hk|rfl) h3 hik hc
  . exact .inl (h.down i k hk h3 hik hc)
  . exact .inl (hn.all i h3 hik hc)
 ·
  intro c x hx;exact⟨.inl (h.note c x hx).1,(h.note c x hx).2⟩
 ·
  rintro c x k hx (hk|rfl) hxk hc
  . exact h.pend c x k hx hk hxk hc
  ·
   change x∈s.N c at hx;rw[<-hc,hN] at hx;cases hx
 ·
  intro p x;rw[hD,hR];by_cases hp:p=S.pl j
  ·
   rw[if_pos hp,List.mem_append,h.rows p x];constructor
   ·
    rintro (⟨a,b⟩|hx)
    . exact⟨.inl a,b⟩
    ·
     have e:x=j:=by simpa using hx
     exact⟨.inr e,by rw[e];exact hr,by rw[e,hp]⟩
   ·
    rintro⟨a|rfl,b⟩
    . exact .inl ⟨a,b⟩
    . exact .inr (by simp)
  ·
   rw[if_neg hp,h.rows p x];constructor
   . rintro⟨a,b⟩;exact⟨.inl a,b⟩
   ·
    rintro⟨a|rfl,b⟩
    . exact⟨a,b⟩
    . exact absurd b.2.symm hp
 ·
  intro p;rw[hR];split
  ·
   rw[List.nodup_append];refine⟨h.Ph p,by simp,fun x hx y hy e=>?_⟩;have:y=j:=by simpa using hy
   exact hjR p (by rw[<-this,<-e];exact hx)
  . exact h.Ph p
 ·
  intro p
  have old:(s.R p).Pairwise (fun x y=>(s.Da S T j).τ x<=(s.Da S T j).τ y):=(h.Sv p).imp_of_mem (fun {x y} hx hy hxy=>by
   rw[hτ x (hne x ((h.rows p x).1 hx).1.1),hτ y (hne y ((h.rows p y).1 hy).1.1)]
   exact hxy)
  rw[hR];split
  ·
   rw[List.pairwise_append];refine⟨old,by simp,fun x hx y hy=>?_⟩;have:y=j:=by simpa using hy
   have hx':=((h.rows p x).1 hx).1;rw[this,Nk,hτ x (hne x hx'.1)];exact h.NG x hx'
  . exact old
 ·
  intro i hi;rcases (hD i).1 hi with ai|rfl
  . rw[hτ i (hne i ai.1)];exact h.NG i ai
  . rw[Nk];exact Nat.le_refl _
 ·
  intro i hi h3;rcases (hD i).1 hi with ai|rfl
  . rw[hτ i (hne i ai.1)];exact h.tpos i ai h3
  . rw[Nk];exact hT
 ·
  intro i k hi hk h3 h3' e;rcases (hD i).1 hi with ai|rfl<;>rcases (hD k).1 hk with ak|rfl
  . rw[hτ i (hne i ai.1),hτ k (hne k ak.1)] at e;exact h.same i k ai ak h3 h3' e
  . rw[hτ i (hne i ai.1),Nk] at e;rw[hz];exact (h.now i ai h3).1 e
  . rw[hτ k (hne k ak.1),Nk] at e;rw[hz];exact ((h.now k ak h3').1 e.symm).symm
  . rfl
 ·
  intro i k hi hk h3 h3' e;rcases (hD i).1 hi with ai|rfl<;>rcases (hD k).1 hk with ak|rfl
  . rw[hτ i (hne i ai.1),hτ k (hne k ak.1)];exact h.PQ i k ai ak h3 h3' e
  . rw[hτ i (hne i ai.1),Nk];exact (h.now i ai h3).2 (by rw[e,hz])
  . rw[hτ k (hne k ak.1),Nk];exact ((h.now k ak h3').2 (by rw[<-e,hz])).symm
  . rfl
 ·
  intro i hi h3;rcases (hD i).1 hi with ai|rfl
  . rw[hτ i (hne i ai.1)];exact h.now i ai h3
  . rw[Nk,hz];simp
 ·
  intro i k hi hk h3 hik hc hcs hx;rcases (hD i).1 hi with ai|rfl<;>rcases (hD k).1 hk with ak|rfl
  . rw[hτ i (hne i ai.1),hτ k (hne k ak.1)];exact h.kept i k ai ak h3 hik hc hcs hx
  ·
   rw[hτ i (hne i ai.1),Nk];have h1:=h.NG i ai;have h2:s.τ i≠T:=fun e=>hcs (by rw[hz];exact (h.now i ai h3).1 e)
   omega
  . have:=hn.last k ak.1 (by omega) hc.symm;omega
  . omega
 ·
  rintro r (hx|rfl) hrd
  ·
   rw[hτ r (hne r hx)];obtain⟨a,b,c,d⟩:=h.src r hx hrd;exact⟨.inl a,b,c,d.imp id (fun d=>⟨(hD _).2 (.inl d.1),by show (s.Da S T j).τ (s.F r)<=_;rw[hτ _ (hne _ d.1.1)];exact d.2⟩)⟩
  . rw[hr] at hrd;cases hrd
 ·
  rintro r w p (hx|rfl) hrd hb
  ·
   rw[hτ r (hne r hx)];by_cases hw:w=j
   . rw[hw,Nk];exact h.NG r (h.OG hx hrd)
   ·
    rw[hτ w hw];rw[hR] at hb;by_cases hp:p=S.pl j
    ·
     rw[if_pos hp] at hb;exact h.Lb r w p hx hrd (JK hb hw)
    ·
     rw[if_neg hp] at hb;exact h.Lb r w p hx hrd hb
  . rw[hr] at hrd;cases hrd
 ·
  rintro i (hi|rfl) h3
  . exact (hsub _ _).subset (h.WM i hi h3)
  . rw[hlast,hv,gN];simp
 ·
  rintro i k (hi|rfl) (hk|rfl) h3 hik hc hp
  . exact (h.Z6 i k hi hk h3 hik hc hp).imp id (fun hb=>hb.trans (hsub _ _))
  ·
   refine .inr ?_;rw[hc,hp,hlast,hv,hv,gN,<-hc,<-hp];exact Lf (h.WM i hi h3)
  . have:=hn.last k hk (by omega) hc.symm;omega
  . omega
 ·
  rintro i k (hi|rfl) (hk|rfl) h3 hik hc hp h1 h2
  . exact h.R9 i k hi hk h3 hik hc hp h1 h2
  . exact hne _ (h.src i hi h1).1
  . have:=hn.last k hk (by omega) hc.symm;omega
  . omega
theorem FE.CQ {S:Rt}{s:A6}{T:Nat}{z:Int}(h:FE S s T z)(hT:1<=T){c:Int}{x:Nat}{rest:List Nat}(hN:s.N c=x::rest)(hz:S.cs x=z):FE S (s.CQ S T c x rest) T z:=by
 have hx0:=h.note c x (by rw[hN];simp);obtain⟨hxX,hx3,hxc,o9⟩:=hx0;have bH:=h.Kz c;rw[hN,List.pairwise_cons] at bH;have jL:x∉rest:=fun hm=>by have:=bH.1 x hm;omega
 have yM:x∈s.N (S.ck x):=by rw[hxc,hN];simp
 have yK:¬s.D S x:=fun hd=>hd.2 yM
 have hne:∀i,s.D S i->i≠x:=fun i hi e=>yK (by rw[<-e];exact hi)
 have M5:∀c' y,y∈(s.CQ S T c x rest).N c'↔y∈s.N c'/\¬(c'=c/\y=x):=by
  intro c' y;show y∈(if c'=c then rest else s.N c')↔_;by_cases e:c'=c
  ·
   subst e;rw[if_pos rfl,hN];constructor
   ·
    intro hm;exact⟨List.mem_cons_of_mem _ hm,fun hq=>jL (by rw[<-hq.2];exact hm)⟩
   ·
    rintro⟨hm,hq⟩;rcases List.mem_cons.1 hm with rfl|hm
    . exact absurd ⟨rfl,rfl⟩ hq
    . exact hm
  ·
   rw[if_neg e];exact⟨fun hm=>⟨hm,fun hq=>e hq.1⟩,fun hm=>hm.1⟩
 have hD:∀i,(s.CQ S T c x rest).D S i↔s.D S i\/i=x:=by
  intro i;unfold A6.D;rw[M5];show (s.X i/\_)↔_;constructor
  ·
   rintro⟨h1,h2⟩;by_cases e:i=x
   . exact .inr e
   . exact .inl ⟨h1,fun hm=>h2 ⟨hm,fun hq=>e hq.2⟩⟩
  ·
   rintro (⟨h1,h2⟩|rfl)
   . exact⟨h1,fun hm=>h2 hm.1⟩
   . exact⟨hxX,fun hm=>hm.2 ⟨hxc,rfl⟩⟩
 have hτ:∀i,i≠x->(s.CQ S T c x rest).τ i=s.τ i:=fun i hi=>by show (if i=x then T else s.τ i)=_;rw[if_neg hi]
 have ZY:(s.CQ S T c x rest).τ x=T:=by show (if x=x then T else s.τ x)=T;rw[if_pos rfl]
 have hR:∀p,(s.CQ S T c x rest).R p=if p=S.pl x then s.R p++[x] else s.R p:=fun p=>rfl
 have hxR:∀p,x∉s.R p:=fun p hm=>yK ((h.rows p x).1 hm).1
 have hRs:∀p,(s.R p).Sublist ((s.CQ S T c x rest).R p):=fun p=>by
  rw[hR];split
  . exact List.sublist_append_left _ _
  . exact List.Sublist.refl _
 have oU:∀r,S.rd r=true->r≠x:=fun r hr e=>by rw[e,o9] at hr;cases hr
 have hsub:∀c' p,(s.L S c' p).Sublist ((s.CQ S T c x rest).L S c' p):=by
  intro c' p;by_cases e:c'=c
  ·
   subst e
   have:(s.CQ S T c' x rest).L S c' p=s.L S c' p:=by
    unfold A6.L;rw[hR];show _++(if c'=c' then rest else s.N c').filter _=_;rw[if_pos rfl,hN];by_cases hp:p=S.pl x
    ·
     rw[if_pos hp,List.filter_cons_of_pos (by simp[hp]),List.append_assoc];rfl
    . rw[if_neg hp,List.filter_cons_of_neg (by simp;exact fun e=>hp e.symm)]
   rw[this];exact List.Sublist.refl _
  ·
   refine List.Sublist.append (hRs p) ?_;show List.Sublist _ ((if c'=c then rest else s.N c').filter _);rw[if_neg e];exact List.Sublist.refl _
 refine { h with ES:=fun i hi=>⟨(h.ES i hi).1,(h.ES i hi).2.1,(h.ES i hi).2.2.1,(h.ES i hi).2.2.2.1,by rw[hτ i (by omega)];exact (h.ES i hi).2.2.2.2.1,(h.ES i hi).2.2.2.2.2⟩,note:=?_,Kz:=?_,pend:=?_,rows:=?_,Ph:=?_,Sv:=?_,NG:=?_,tpos:=?_,same:=?_,PQ:=?_,now:=?_,kept:=?_,src:=?_,Lb:=?_,WM:=?_,Z6:=?_ }
 ·
  intro c' y hy;exact h.note c' y ((M5 c' y).1 hy).1
 ·
  intro c';show (if c'=c then rest else s.N c').Pairwise _;split
  . exact bH.2
  . exact h.Kz c'
 ·
  intro c' y k hy hk hyk hc;obtain⟨hy1,hy2⟩:=(M5 c' y).1 hy;rcases h.pend c' y k hy1 hk hyk hc with hp|hp
  . exact .inl hp
  ·
   refine .inr ((M5 c' k).2 ⟨hp,?_⟩);rintro⟨rfl,rfl⟩;rw[hN] at hy1;rcases List.mem_cons.1 hy1 with rfl|hm
   . exact hy2 ⟨rfl,rfl⟩
   . have:=bH.1 y hm;omega
 ·
  intro p y;rw[hD,hR];by_cases hp:p=S.pl x
  ·
   rw[if_pos hp,List.mem_append,h.rows p y];constructor
   ·
    rintro (⟨a,b⟩|hy)
    . exact⟨.inl a,b⟩
    ·
     have e:y=x:=by simpa using hy
     exact⟨.inr e,by rw[e];exact o9,by rw[e,hp]⟩
   ·
    rintro⟨a|rfl,b⟩
    . exact .inl ⟨a,b⟩
    . exact .inr (by simp)
  ·
   rw[if_neg hp,h.rows p y];constructor
   . rintro⟨a,b⟩;exact⟨.inl a,b⟩
   ·
    rintro⟨a|rfl,b⟩
    . exact⟨a,b⟩
    . exact absurd b.2.symm hp
 ·
  intro p;rw[hR];split
  ·
   rw[List.nodup_append];refine⟨h.Ph p,by simp,fun y hy w hw e=>?_⟩;have:w=x:=by simpa using hw
   exact hxR p (by rw[<-this,<-e];exact hy)
  . exact h.Ph p
 ·
  intro p
  have old:(s.R p).Pairwise (fun y w=>(s.CQ S T c x rest).τ y<=(s.CQ S T c x rest).τ w):=(h.Sv p).imp_of_mem (fun {y w} hy hw hyw=>by
   rw[hτ y (hne y ((h.rows p y).1 hy).1),hτ w (hne w ((h.rows p w).1 hw).1)]
   exact hyw)
  rw[hR];split
  ·
   rw[List.pairwise_append];refine⟨old,by simp,fun y hy w hw=>?_⟩;have:w=x:=by simpa using hw
   have hy':=((h.rows p y).1 hy).1;rw[this,ZY,hτ y (hne y hy')];exact h.NG y hy'
  . exact old
 ·
  intro i hi;rcases (hD i).1 hi with ai|rfl
  . rw[hτ i (hne i ai)];exact h.NG i ai
  . rw[ZY];exact Nat.le_refl _
 ·
  intro i hi h3;rcases (hD i).1 hi with ai|rfl
  . rw[hτ i (hne i ai)];exact h.tpos i ai h3
  . rw[ZY];exact hT
 ·
  intro i k hi hk h3 h3' e;rcases (hD i).1 hi with ai|rfl<;>rcases (hD k).1 hk with ak|rfl
  . rw[hτ i (hne i ai),hτ k (hne k ak)] at e;exact h.same i k ai ak h3 h3' e
  . rw[hτ i (hne i ai),ZY] at e;rw[hz];exact (h.now i ai h3).1 e
  . rw[hτ k (hne k ak),ZY] at e;rw[hz];exact ((h.now k ak h3').1 e.symm).symm
  . rfl
 ·
  intro i k hi hk h3 h3' e;rcases (hD i).1 hi with ai|rfl<;>rcases (hD k).1 hk with ak|rfl
  . rw[hτ i (hne i ai),hτ k (hne k ak)];exact h.PQ i k ai ak h3 h3' e
  . rw[hτ i (hne i ai),ZY];exact (h.now i ai h3).2 (by rw[e,hz])
  . rw[hτ k (hne k ak),ZY];exact ((h.now k ak h3').2 (by rw[<-e,hz])).symm
  . rfl
 ·
  intro i hi h3;rcases (hD i).1 hi with ai|rfl
  . rw[hτ i (hne i ai)];exact h.now i ai h3
  . rw[ZY,hz];simp
 ·
  intro i k hi hk h3 hik hc hcs hx;rcases (hD i).1 hi with ai|rfl<;>rcases (hD k).1 hk with ak|rfl
  . rw[hτ i (hne i ai),hτ k (hne k ak)];exact h.kept i k ai ak h3 hik hc hcs hx
  ·
   rw[hτ i (hne i ai),ZY];have h1:=h.NG i ai;have h2:s.τ i≠T:=fun e=>hcs (by rw[hz];exact (h.now i ai h3).1 e)
   omega
  ·
   rcases h.pend _ _ _ yM ak.1 hik hc.symm with hp|hp
   . rw[hx] at hp;cases hp.2
   . exact absurd (by rw[<-hc];exact hp) ak.2
  . omega
 ·
  intro r hx hrd;rw[hτ r (oU r hrd)];obtain⟨a,b,e,d⟩:=h.src r hx hrd;exact⟨a,b,e,d.imp id (fun d=>⟨(hD _).2 (.inl d.1),by show (s.CQ S T c x rest).τ (s.F r)<=_;rw[hτ _ (hne _ d.1)];exact d.2⟩)⟩
 ·
  intro r w p hx hrd hb;rw[hτ r (oU r hrd)];by_cases hw:w=x
  . rw[hw,ZY];exact h.NG r (h.OG hx hrd)
  ·
   rw[hτ w hw];rw[hR] at hb;by_cases hp:p=S.pl x
   ·
    rw[if_pos hp] at hb;exact h.Lb r w p hx hrd (JK hb hw)
   ·
    rw[if_neg hp] at hb;exact h.Lb r w p hx hrd hb
 ·
  intro i hi h3;exact (hsub _ _).subset (h.WM i hi h3)
 ·
  intro i k hi hk h3 hik hc hp;exact (h.Z6 i k hi hk h3 hik hc hp).imp id (fun hb=>hb.trans (hsub _ _))
structure Ab where
 nx:Nat->Nat
 N:Nat->List Nat
 R:Nat->List Nat
 F:Nat->Nat
def BT (AA:List (List Dd)):Rt:=
 { n:=(AB AA).length,ck:=fun j=>((AB AA).getD j zE).1,pl:=fun j=>((AB AA).getD j zE).2.2.2.1.toNat,rd:=fun j=>((AB AA).getD j zE).2.2.1,cs:=fun j=>ZW ((AB AA).getD j zE),ex:=jQ AA (AB AA) }
def D2 (AA:List (List Dd))(a:Ab)(j:Nat):Bool:=decide (j<3)||decide (((AB AA).getD j zE).2.1.toNat<a.nx ((AB AA).getD j zE).1.toNat)
def Cr (AA:List (List Dd))(a:Ab)(τ:Nat->Nat):A6:=
 { X:=fun j=>j<(AB AA).length/\D2 AA a j=true,N:=fun c=>if 0<=c then a.N c.toNat else [],R:=a.R,F:=a.F,τ:=τ }
abbrev IQ (AA:List (List Dd))(x:Nat):Int:=((AB AA).getD x zE).2.2.2.2.1
abbrev Zb (AA:List (List Dd))(x:Nat):Int:=((AB AA).getD x zE).2.2.2.1
def Va (AA:List (List Dd))(x:Nat):Nt:=(Zb AA x,IQ AA x,(x:Int))
def BM (a:Ab)(p:Nat):Nat:=(a.R p).getLast?.getD p
structure Wh (AA:List (List Dd))(b:Bd)(a:Ab):Prop where
 AK:b.AK=(List.range AA.length).map (fun c=>(a.nx c:Int))
 AJ:b.AJ=(List.range AA.length).map (fun c=>(a.N c).map (Va AA))
 rws:b.rws=(List.range 3).map (fun p=>(a.R p).map Int.ofNat)
 AO:b.AO=(List.range 3).map (fun p=>(BM a p:Int))
 AM:b.AM=(List.range 3).map (fun p=>IQ AA (BM a p))
 fr:b.fr=(AX Ae (AB AA)).map (fun r=>if D2 AA a r.toNat=true then (a.F r.toNat:Int) else -1)
 sn:b.sn=(AX Ae (AB AA)).map (fun r=>if D2 AA a r.toNat=true then IQ AA (a.F r.toNat) else -1)
theorem DK {α:Type}(f:Nat->α)(m c:Nat)(y:α):((List.range m).map f).set c y=(List.range m).map (fun i=>if i=c then y else f i):=by
 apply List.ext_getElem?;intro i;rw[List.getElem?_set];simp only[List.length_map,List.length_range,List.getElem?_map];by_cases hi:i<m
 ·
  rw[List.getElem?_range hi];by_cases e:c=i
  . subst e;simp[hi]
  . rw[if_neg e];simp[show ¬i=c from fun h=>e h.symm]
 ·
  have:(List.range m)[i]? = none:=List.getElem?_eq_none (by simp;omega);rw[this];by_cases e:c=i
  . subst e;simp[hi]
  . rw[if_neg e];rfl
theorem Cw {α:Type}(f:Nat->α){m c:Nat}(z:α)(hc:c<m):((List.range m).map f).getD c z=f c:=by
 rw[List.getD_eq_getElem?_getD,List.getElem?_map,List.getElem?_range hc];rfl
theorem Jr (rs:List Int)(ev v:Int)(g:Int->Int):GI rs ev v (rs.map g)=rs.map (fun r=>if r=ev then v else g r):=by
 unfold GI
 induction rs with
 |nil=>rfl
 |cons r rs ih=>rw[List.map_cons,List.zipWith_cons_cons,ih,List.map_cons]
theorem DD {AA:List (List Dd)}(hb:AL AA=true){j c k i:Nat}(E:Dm AA j c k i):(BT AA).ck j=(c:Int)/\(BT AA).pl j=(Ai AA c k).2.1.toNat/\(BT AA).rd j=LB (Ai AA c k) i/\(BT AA).cs j=Co AA c k:=by
 unfold BT ZW;simp only;rw[E.at hb];exact⟨rfl,rfl,rfl,rfl⟩
theorem JU {AA:List (List Dd)}(hb:AL AA=true){j c k i:Nat}(E:Dm AA j c k i)(a:Ab):D2 AA a j=decide (k<a.nx c):=by
 unfold D2;rw[E.at hb];have:=(E.lt hb).1;simp[show ¬j<3 by omega]
def BB (a:Ab)(c:Nat):Ab:={ a with nx:=fun c'=>if c'=c then a.nx c+1 else a.nx c' }
theorem Dw {AA:List (List Dd)}(hb:AL AA=true)(a:Ab){c:Nat}(hc:c<AA.length)(hk:a.nx c<(AA.getD c []).length){j:Nat}(hj:j<(AB AA).length):
  D2 AA (BB a c) j=true↔D2 AA a j=true\/∃i,Dm AA j c (a.nx c) i:=by
 by_cases h3:j<3
 ·
  have e1:D2 AA a j=true:=by unfold D2;simp[h3]
  have e2:D2 AA (BB a c) j=true:=by unfold D2;simp[h3]
  simp[e1,e2]
 ·
  obtain⟨c',k',i',E⟩:=Fu hb (by omega) hj;rw[JU hb E,JU hb E,decide_eq_true_eq,decide_eq_true_eq];show (k'<if c'=c then a.nx c+1 else a.nx c')↔_;by_cases e:c'=c
  ·
   subst e;rw[if_pos rfl];constructor
   ·
    intro h;by_cases h2:k'<a.nx c'
    . exact .inl h2
    ·
     obtain rfl:k'=a.nx c':=by omega
     exact .inr ⟨i',E⟩
   ·
    rintro (h|⟨i,E2⟩)
    . omega
    . have:=(E.one E2).2.1;omega
  ·
   rw[if_neg e];refine⟨fun h => .inl h,?_⟩;rintro (h|⟨i,E2⟩)
   . exact h
   . exact absurd (E.one E2).1 e
theorem CU {AA:List (List Dd)}{c k:Nat}(hc:c<AA.length)(hk:k<(AA.getD c []).length)(h4:(Ai AA c k).1≠4):Dm AA (AZ AA c k) c k 0:=⟨hc,hk,Jk h4,rfl⟩
theorem Hm {AA:List (List Dd)}{c k:Nat}(hc:c<AA.length)(hk:k<(AA.getD c []).length)(h3:(Ai AA c k).1=3):Dm AA (AZ AA c k+1) c k 1:=⟨hc,hk,by unfold El;rw[if_neg (by omega),if_pos h3];omega,rfl⟩
theorem LH {AA:List (List Dd)}{c k j i:Nat}(E:Dm AA j c k i)(h3:(Ai AA c k).1≠3):j=AZ AA c k/\i=0:=by
 have h1:=E.hi;have h2:=E.hj;unfold El at h1;rw[if_neg E.kind,if_neg h3] at h1;omega
theorem EU {AA:List (List Dd)}(hb:AL AA=true)(a:Ab)(τ:Nat->Nat){c:Nat}(hc:c<AA.length)(hk:a.nx c<(AA.getD c []).length)(h4:(Ai AA c (a.nx c)).1≠4):mH (BT AA) (Cr AA a τ) (AZ AA c (a.nx c)):=by
 have E:=CU hc hk h4;have hl:=E.lt hb;refine⟨hl.1,hl.2,?_,?_,?_⟩
 ·
  rintro⟨_,h⟩;rw[JU hb E,decide_eq_true_eq] at h;omega
 ·
  intro i h3 hi hck;have hin:i<(AB AA).length:=by omega
  obtain⟨c',k',i',E'⟩:=Fu hb h3 hin;rw[(DD hb E').1,(DD hb E).1] at hck;obtain rfl:c'=c:=by omega
  refine⟨hin,?_⟩;rw[JU hb E',decide_eq_true_eq];rcases (E'.ord E).1 hi with h|⟨_,h|⟨_,h⟩⟩<;>omega
 ·
  rintro i ⟨hin,hX⟩ h3 hck;obtain⟨c',k',i',E'⟩:=Fu hb h3 hin;rw[(DD hb E').1,(DD hb E).1] at hck;obtain rfl:c'=c:=by omega
  rw[JU hb E',decide_eq_true_eq] at hX;exact (E'.ord E).2 (.inr ⟨rfl,.inl hX⟩)
theorem Ij {AA:List (List Dd)}(hb:AL AA=true){c k:Nat}(hc:c<AA.length)(hk:k<(AA.getD c []).length)(h4:(Ai AA c k).1≠4):Jv (AB AA) c k=(AZ AA c k:Int):=by
 have E:=CU hc hk h4;have hl:=E.lt hb
 have hx:(List.range (AB AA).length).find? (fun i=>decide (3<=i)&&(((AB AA).getD i zE).1==(c:Int))&&(((AB AA).getD i zE).2.1==(k:Int)))=some (AZ AA c k):=by
  rw[List.find?_range_eq_some];refine⟨?_,by simpa using hl.2,?_⟩
  ·
   rw[E.at hb];simp[hl.1]
  ·
   intro j hj;by_cases h3:3<=j
   ·
    obtain⟨c',k',i',E'⟩:=Fu hb h3 (by omega);rw[E'.at hb];simp only[h3,decide_true,Bool.true_and,Bool.not_eq_true',Bool.and_eq_false_iff,beq_eq_false_iff_ne,ne_eq];rcases (E'.ord E).1 hj with h|⟨_,h|⟨_,h⟩⟩
    . exact .inl (by omega)
    . exact .inr (by omega)
    . omega
   . simp[h3]
 unfold Jv;rw[hx]
theorem LM {l:List Int}{n:Int}(h:Mx l n=true):n∈l:=by
 unfold Mx at h;rw[List.any_eq_true] at h;obtain⟨x,hx,e⟩:=h;rw[beq_iff_eq] at e;rw[<-e];exact hx
theorem JZ (f:Ev->Bool)(l:List Ev):∀(k:Nat) (x:Int),x∈BR f l k->f (l.getD x.toNat zE)=true
 | 0,x,h=>by simp[BR] at h
 |k+1,x,h=>by
  rw[BR] at h;split at h
  ·
   rename_i hf;rcases List.mem_append.1 h with h|h
   . exact JZ f l k x h
   ·
    simp only[List.mem_cons,List.not_mem_nil,or_false] at h;rw[h,Int.toNat_natCast];exact hf
  . exact JZ f l k x h
structure MI (AA:List (List Dd))(b:Bd)(a:Ab)(τ:Nat->Nat)(T:Nat)(z:Int):Prop where
 Bo:Wh AA b a
 inv:FE (BT AA) (Cr AA a τ) T z
 UD:∀c,c<AA.length->a.nx c<=(AA.getD c []).length
 nt:∀c x,x∈a.N c->c<AA.length/\∃k,Dm AA x c k 0/\k<a.nx c/\(Ai AA c k).1=2/\BE AA c k=0/\∀k',k<k'->k'<a.nx c->(Ai AA c k').1≠4/\EL (Ai AA c k')=false
theorem IP (AA:List (List Dd))(a:Ab)(τ:Nat->Nat)(c:Nat):(Cr AA a τ).N (c:Int)=a.N c:=by
 show (if 0<=(c:Int) then a.N (c:Int).toNat else [])=_;rw[if_pos (by omega),Int.toNat_natCast]
theorem Dp {AA:List (List Dd)}{b:Bd}{a:Ab}(h:Wh AA b a){c:Nat}(hc:c<AA.length):b.AK.getD c 0=(a.nx c:Int)/\Aj b c=a.nx c:=by
 have e:b.AK.getD c 0=(a.nx c:Int):=by rw[h.AK,Cw _ _ hc]
 exact⟨e,by unfold Aj;rw[e,Int.toNat_natCast]⟩
theorem Ek {AA:List (List Dd)}{b:Bd}{a:Ab}(h:Wh AA b a){c:Nat}(hc:c<AA.length):b.AJ.getD c []=(a.N c).map (Va AA):=by rw[h.AJ,Cw _ _ hc]
theorem KH {AA:List (List Dd)}{b:Bd}{a:Ab}(h:Wh AA b a){p:Nat}(hp:p<3):b.AO.getD p 0=(BM a p:Int)/\b.AM.getD p 0=IQ AA (BM a p)/\b.rws.getD p []=(a.R p).map Int.ofNat:=by
 refine⟨by rw[h.AO,Cw _ _ hp],by rw[h.AM,Cw _ _ hp],by rw[h.rws,Cw _ _ hp]⟩
theorem Nm {AA:List (List Dd)}{a:Ab}{τ:Nat->Nat}{T:Nat}{z:Int}(h:FE (BT AA) (Cr AA a τ) T z){p:Nat}(hp:p<3):(a.R p).getLast? = some (BM a p):=by
 obtain⟨h1,h2,h3,h4,_⟩:=h.ES p hp;have hm:p∈a.R p:=(h.rows p p).2 ⟨⟨h1,fun hn=>by have:=(h.note _ _ hn).2.1;omega⟩,h2,h3⟩;unfold BM
 cases hl:(a.R p).getLast? with
 |none=>rw[List.getLast?_eq_none_iff.1 hl] at hm;cases hm
 |some y=>rfl
theorem Hz {AA:List (List Dd)}(hb:AL AA=true){c k:Nat}(hc:c<AA.length)(hk:k<(AA.getD c []).length):∃p:Nat,p<3/\(Ai AA c k).2.1=(p:Int):=by
 have hd:=B8 (Bu hb hc k hk);obtain⟨p,hp⟩:=Int.eq_ofNat_of_zero_le hd.1;exact⟨p,by have:=hd.2.1;omega,hp⟩
theorem jg {AA:List (List Dd)}(hb:AL AA=true){b:Bd}{a:Ab}{τ:Nat->Nat}{T:Nat}{z:Int}(M:MI AA b a τ T z){c p:Nat}(hc:c<AA.length)(hp:p<3):
  ∃f:Nat,((Cr AA a τ).L (BT AA) (c:Int) p).getLast? = some f/\Ck b c p=(IQ AA f,(f:Int)):=by
 have hl:=Nm M.inv hp;obtain⟨e1,e2,_⟩:=KH M.Bo hp
 have hfil:((a.N c).map (Va AA)).reverse.find? (fun x=>x.1==(p:Int))=(((a.N c).filter (fun x=>(BT AA).pl x==p)).getLast?).map (Va AA):=by
  rw[<-List.head?_filter,List.filter_reverse,List.head?_reverse,List.filter_map,List.getLast?_map]
  have:(a.N c).filter ((fun x:Nt=>x.1==(p:Int)) ∘ Va AA)=(a.N c).filter (fun x=>(BT AA).pl x==p):=by
   refine List.filter_congr (fun x hx=>?_);obtain⟨_,k,E,_⟩:=M.nt c x hx;obtain⟨q,_,hq⟩:=Hz hb E.hc E.hk;show (Zb AA x==(p:Int))=((BT AA).pl x==p);rw[(DD hb E).2.1];unfold Zb;rw[E.at hb];show ((Ai AA c k).2.1==(p:Int))=_;rw[hq,Int.toNat_natCast];by_cases e:q=p
   . subst e;simp
   ·
    have:¬((q:Int)=(p:Int)):=by omega
    rw[beq_eq_false_iff_ne.2 this,beq_eq_false_iff_ne.2 e]
  rw[this]
 unfold Ck;rw[Ek M.Bo hc,hfil];unfold A6.L;rw[IP];show ∃f,(a.R p++(a.N c).filter (fun x=>(BT AA).pl x==p)).getLast? = some f/\_;rw[List.getLast?_append]
 cases hq:((a.N c).filter (fun x=>(BT AA).pl x==p)).getLast? with
 |none=>
  refine⟨BM a p,by rw[hl];rfl,?_⟩;simp only[Option.map_none];rw[e1,e2]
 |some y=>
  exact⟨y,rfl,rfl⟩
theorem UR {AA:List (List Dd)}(hb:AL AA=true)(a:Ab)(τ:Nat->Nat){c:Nat}(hc:c<AA.length)(hk:a.nx c<(AA.getD c []).length)(h4:(Ai AA c (a.nx c)).1=4):Cr AA (BB a c) τ=Cr AA a τ:=by
 unfold Cr
 congr 1
 funext j;apply propext;constructor
 ·
  rintro⟨h1,h2⟩;refine⟨h1,?_⟩;rcases (Dw hb a hc hk h1).1 h2 with h|⟨i,E⟩
  . exact h
  . exact absurd h4 E.kind
 ·
  rintro⟨h1,h2⟩;exact⟨h1,(Dw hb a hc hk h1).2 (.inl h2)⟩
theorem KU {AA:List (List Dd)}(hb:AL AA=true)(a:Ab){c:Nat}(hc:c<AA.length)(hk:a.nx c<(AA.getD c []).length)(h4:(Ai AA c (a.nx c)).1≠4)(h3:(Ai AA c (a.nx c)).1≠3)(j:Nat):
  (j<(AB AA).length/\D2 AA (BB a c) j=true)↔(j<(AB AA).length/\D2 AA a j=true)\/j=AZ AA c (a.nx c):=by
 constructor
 ·
  rintro⟨h1,h2⟩;rcases (Dw hb a hc hk h1).1 h2 with h|⟨i,E⟩
  . exact .inl ⟨h1,h⟩
  . exact .inr (LH E h3).1
 ·
  rintro (⟨h1,h2⟩|rfl)
  . exact⟨h1,(Dw hb a hc hk h1).2 (.inl h2)⟩
  ·
   have E:=CU hc hk h4;exact⟨(E.lt hb).2,(Dw hb a hc hk (E.lt hb).2).2 (.inr ⟨0,E⟩)⟩
theorem Wk {AA:List (List Dd)}(hb:AL AA=true)(a:Ab){c:Nat}(hc:c<AA.length)(hk:a.nx c<(AA.getD c []).length)(h3:(Ai AA c (a.nx c)).1=3)(j:Nat):
  (j<(AB AA).length/\D2 AA (BB a c) j=true)↔((j<(AB AA).length/\D2 AA a j=true)\/j=AZ AA c (a.nx c))\/j=AZ AA c (a.nx c)+1:=by
 have E1:=CU hc hk (by omega:(Ai AA c (a.nx c)).1≠4);have E2:=Hm hc hk h3;constructor
 ·
  rintro⟨h1,h2⟩;rcases (Dw hb a hc hk h1).1 h2 with h|⟨i,E⟩
  . exact .inl (.inl ⟨h1,h⟩)
  ·
   have hi:=E.hi;have hj:=E.hj;unfold El at hi;rw[if_neg (by omega),if_pos h3] at hi;rcases (by omega:i=0\/i=1) with rfl|rfl
   . exact .inl (.inr hj)
   . exact .inr hj
 ·
  rintro ((⟨h1,h2⟩|rfl)|rfl)
  . exact⟨h1,(Dw hb a hc hk h1).2 (.inl h2)⟩
  . exact⟨(E1.lt hb).2,(Dw hb a hc hk (E1.lt hb).2).2 (.inr ⟨0,E1⟩)⟩
  . exact⟨(E2.lt hb).2,(Dw hb a hc hk (E2.lt hb).2).2 (.inr ⟨1,E2⟩)⟩
theorem Fk {es:List Ev}(hx:es.length<=12){r:Int}(h:r∈AX Ae es):∃j:Nat,r=(j:Int)/\j<es.length/\(es.getD j zE).2.2.1=true:=by
 unfold AX at h;rw[if_pos hx] at h;have h1:=Ho _ _ _ _ h;have h2:=JZ _ _ _ _ h;obtain⟨j,hj⟩:=Int.eq_ofNat_of_zero_le h1.1;rw[hj,Int.toNat_natCast] at h2;exact⟨j,hj,by omega,h2⟩
theorem Je {l:List Int}{n:Int}(h:n∈l):Mx l n=true:=by
 unfold Mx;rw[List.any_eq_true];exact⟨n,h,by simp⟩
theorem Cg (AA:List (List Dd)):(AB AA).length<=12:=by
 unfold AB;split
 ·
  rename_i hb;exact (Lr hb).1
 . simp
theorem H5 {d:Dd}(h:d.1=2)(i:Nat):LB d i=false:=by unfold LB;simp[h]
theorem KN {d:Dd}(h:d.1≠2):LB d 0=true:=by unfold LB;simp[h]
theorem Iu (d:Dd):LB d 1=false:=by unfold LB;simp
theorem Jo {AA:List (List Dd)}{b:Bd}{a:Ab}(h:Wh AA b a){c:Nat}(hc:c<AA.length):b.AK.set c (b.AK.getD c 0+1)=(List.range AA.length).map (fun c'=>((BB a c).nx c':Int)):=by
 rw[(Dp h hc).1,h.AK,DK];refine List.map_congr_left (fun i _=>?_);show _=((if i=c then a.nx c+1 else a.nx i:Nat):Int);split
 . rename_i e;subst e;omega
 . rfl
theorem Cp (a:Ab)(c c':Nat):(BB a c).nx c'=if c'=c then a.nx c+1 else a.nx c':=rfl
theorem G2 {AA:List (List Dd)}{a:Ab}(h:∀c,c<AA.length->a.nx c<=(AA.getD c []).length){c:Nat}(hk:a.nx c<(AA.getD c []).length):∀c',c'<AA.length->(BB a c).nx c'<=(AA.getD c' []).length:=by
 intro c' hc';rw[Cp];split
 . rename_i e;subst e;omega
 . exact h c' hc'
theorem Ji {AA:List (List Dd)}{b:Bd}{a:Ab}{τ:Nat->Nat}{T:Nat}{z:Int}(M:MI AA b a τ T z){c:Nat}(hp:a.N c≠[]->(Ai AA c (a.nx c)).1≠4/\EL (Ai AA c (a.nx c))=false):
  ∀c' x,x∈a.N c'->c'<AA.length/\∃k,Dm AA x c' k 0/\k<(BB a c).nx c'/\(Ai AA c' k).1=2/\BE AA c' k=0/\∀k',k<k'->k'<(BB a c).nx c'->(Ai AA c' k').1≠4/\EL (Ai AA c' k')=false:=by
 intro c' x hx;obtain⟨h1,k,E,h2,h3,h4,h5⟩:=M.nt c' x hx;refine⟨h1,k,E,?_,h3,h4,fun k' hk hk'=>?_⟩
 ·
  rw[Cp];split
  . rename_i e;subst e;omega
  . exact h2
 ·
  rw[Cp] at hk';split at hk'
  ·
   rename_i e;subst e;by_cases e2:k'=a.nx c'
   ·
    subst e2;exact hp (fun e=>by rw[e] at hx;cases hx)
   . exact h5 k' hk (by omega)
  . exact h5 k' hk hk'
theorem N2 {AA:List (List Dd)}(hb:AL AA=true){b:Bd}{a:Ab}{τ:Nat->Nat}{T:Nat}{z:Int}(M:MI AA b a τ T z){c:Nat}(hc:c<AA.length)(hk:a.nx c<(AA.getD c []).length)(h4:(Ai AA c (a.nx c)).1=4)(hN:a.N c=[]):
  MI AA (Ag AA (AB AA) b c) (BB a c) τ T z:=by
 have hd:BA AA (AB AA) b c (Aj b c)=b:=by
  rw[(Dp M.Bo hc).2];unfold BA;rw[if_neg (by omega),if_neg (by omega),if_neg (by omega),if_neg (by omega)]
 have hex:∀j,j<(AB AA).length->D2 AA (BB a c) j=D2 AA a j:=by
  intro j hj;have:=Dw hb a hc hk hj
  cases h1:D2 AA a j with
  |true=>exact this.2 (.inl h1)
  |false=>
   cases h2:D2 AA (BB a c) j with
   |false=>rfl
   |true=>
    rcases this.1 h2 with h|⟨i,E⟩
    . rw[h1] at h;cases h
    . exact absurd h4 E.kind
 have hx:=Cg AA;unfold Ag;rw[hd];refine⟨⟨Jo M.Bo hc,M.Bo.AJ,M.Bo.rws,M.Bo.AO,M.Bo.AM,?_,?_⟩,by rw[UR hb a τ hc hk h4];exact M.inv,G2 M.UD hk,Ji M (fun h=>absurd hN h)⟩
 ·
  show b.fr=_;rw[M.Bo.fr];refine List.map_congr_left (fun r hr=>?_);obtain⟨j,rfl,hj,_⟩:=Fk hx hr;rw[Int.toNat_natCast,hex j hj];rfl
 ·
  show b.sn=_;rw[M.Bo.sn];refine List.map_congr_left (fun r hr=>?_);obtain⟨j,rfl,hj,_⟩:=Fk hx hr;rw[Int.toNat_natCast,hex j hj];rfl
theorem bZ {AA:List (List Dd)}(hb:AL AA=true){b:Bd}{a:Ab}{τ:Nat->Nat}{T:Nat}{z:Int}(M:MI AA b a τ T z){c x:Nat}(hc:c<AA.length)(hk:a.nx c<(AA.getD c []).length)(h1:(Ai AA c (a.nx c)).1=1)(hg:BE AA c (a.nx c)=0)(hx:x∈a.N c):
  jQ AA (AB AA) x (AZ AA c (a.nx c))=true:=by
 obtain⟨_,k,E,h2,h3,h4,h5⟩:=M.nt c x hx;have Ej:=CU hc hk (by omega:(Ai AA c (a.nx c)).1≠4);have hlt:x<AZ AA c (a.nx c):=(E.ord Ej).2 (.inr ⟨rfl,.inl h2⟩);have hx3:=(E.lt hb).1
 have hcls:Co AA c k≠Co AA c (a.nx c):=by
  intro e;rcases ((Hl (Bu hb hc) (Bu hb hc) E.hk hk E.kind Ej.kind).1 e).2 with h|h
  . omega
  . exact h.1 h4
 have hb1:iY (AB AA) x (AZ AA c (a.nx c))=true:=by
  unfold iY;rw[E.at hb,Ej.at hb];simp[hlt,hx3]
 have hw1:EL (Ai AA c k)=false:=by
  unfold EL;rw[h3,show (Ai AA c k).2.2.2=0 from h4];rfl
 have hw2:EL (Ai AA c (a.nx c))=false:=by
  unfold EL;rw[h1,show (Ai AA c (a.nx c)).2.2.2=0 from hg];rfl
 have hwt:Pw (AA.getD c []) k (a.nx c)=false:=WF (fun j hj1 hj2=>(h5 j hj1 hj2).1);unfold jQ;rw[hb1];unfold pJ;have e1:kX AA ((AB AA).getD x zE)=Ai AA c k:=by unfold kX;rw[E.at hb];simp only[Int.toNat_natCast]
 have e2:kX AA ((AB AA).getD (AZ AA c (a.nx c)) zE)=Ai AA c (a.nx c):=by unfold kX;rw[Ej.at hb];simp only[Int.toNat_natCast]
 rw[e1,e2,hw1,hw2];unfold Ae ZW;rw[E.at hb,Ej.at hb];simp only[Int.toNat_natCast];rw[hwt];have r1:LB (Ai AA c k) 0=false:=H5 h3 0;have r2:LB (Ai AA c (a.nx c)) 0=true:=KN (by omega);rw[r1,r2];simp[hx3,hcls]
abbrev Yy (AA:List (List Dd))(a:Ab)(c f:Nat):Ab:={ BB a c with F:=fun i=>if i=AZ AA c (a.nx c) then f else a.F i }
theorem Ki {AA:List (List Dd)}(hb:AL AA=true){b:Bd}{a:Ab}{τ:Nat->Nat}{T:Nat}{z:Int}(M:MI AA b a τ T z)(hT:1<=T){c:Nat}(hc:c<AA.length)(hk:a.nx c<(AA.getD c []).length)(h1:(Ai AA c (a.nx c)).1=1)
  (hz:Co AA c (a.nx c)=z) (hcan:BE AA c (a.nx c)=0\/a.N c=[]):
  ∃f,((Cr AA a τ).L (BT AA) (c:Int) (Ai AA c (a.nx c)).2.1.toNat).getLast? = some f/\MI AA (Ag AA (AB AA) b c) (Yy AA a c f) (fun i=>if i=AZ AA c (a.nx c) then T else τ i) T z:=by
 have h4:(Ai AA c (a.nx c)).1≠4:=by omega
 have h3:(Ai AA c (a.nx c)).1≠3:=by omega
 have E:=CU hc hk h4;obtain⟨s1,s2,s3,s4⟩:=DD hb E;obtain⟨p,hp,ep⟩:=Hz hb hc hk;obtain⟨f,hf,er⟩:=jg hb M hc hp;have hN:=EU hb a τ hc hk h4;have hrd:(BT AA).rd (AZ AA c (a.nx c))=true:=by rw[s3];exact KN (by omega)
 have hpl:(BT AA).pl (AZ AA c (a.nx c))=p:=by rw[s2,ep,Int.toNat_natCast]
 have I:=M.inv.DC hT hN hrd (by rw[s4];exact hz) (fun x hx=>by
  rw[s1,IP] at hx;rcases hcan with hg|hg
  . exact bZ hb M hc hk h1 hg hx
  . rw[hg] at hx;cases hx) (f:=f) (by rw[s1,hpl];exact hf)
 have hx:=Cg AA
 have hd:BA AA (AB AA) b c (Aj b c)=Ew (AX Ae (AB AA)) b (AZ AA c (a.nx c):Int) (IQ AA f) (f:Int):=by
  rw[(Dp M.Bo hc).2];unfold BA;rw[if_pos h1,Ij hb hc hk h4,ep,Int.toNat_natCast,er]
 refine⟨f,by rw[ep,Int.toNat_natCast];exact hf,?_⟩
 have hst:Cr AA { BB a c with F:=fun i=>if i=AZ AA c (a.nx c) then f else a.F i } (fun i=>if i=AZ AA c (a.nx c) then T else τ i)=(Cr AA a τ).DC T (AZ AA c (a.nx c)) f:=by
  unfold Cr A6.DC
  congr 1
  funext j;apply propext;exact KU hb a hc hk h4 h3 j
 have YD:∀j,j<(AB AA).length->D2 AA { BB a c with F:=fun i=>if i=AZ AA c (a.nx c) then f else a.F i } j=(decide (j=AZ AA c (a.nx c))||D2 AA a j):=by
  intro j hj;show D2 AA (BB a c) j=_;have:=KU hb a hc hk h4 h3 j
  cases q:D2 AA (BB a c) j with
  |true=>
   rcases this.1 ⟨hj,q⟩ with h|h
   . rw[h.2];simp
   . simp[h]
  |false=>
   have n1:¬j=AZ AA c (a.nx c):=fun e=>by have:=(this.2 (.inr e)).2;rw[q] at this;cases this
   have n2:D2 AA a j=false:=by
    cases q2:D2 AA a j with
    |false=>rfl
    |true=>have:=(this.2 (.inl ⟨hj,q2⟩)).2;rw[q] at this;cases this
   simp[n1,n2]
 unfold Ag;rw[hd];refine⟨⟨Jo M.Bo hc,M.Bo.AJ,M.Bo.rws,M.Bo.AO,M.Bo.AM,?_,?_⟩,by rw[hst];exact I,G2 M.UD hk,Ji M (fun h=>⟨h4,?_⟩)⟩
 ·
  show GI (AX Ae (AB AA)) _ _ b.fr=_;rw[M.Bo.fr,Jr];refine List.map_congr_left (fun r hr=>?_);obtain⟨j,rfl,hj,_⟩:=Fk hx hr;rw[Int.toNat_natCast,YD j hj];show _=if _ then ((if j=AZ AA c (a.nx c) then f else a.F j:Nat):Int) else -1
  by_cases e:j=AZ AA c (a.nx c)
  . simp[e]
  . simp[e,show ¬((j:Int)=(AZ AA c (a.nx c):Int)) by omega]
 ·
  show GI (AX Ae (AB AA)) _ _ b.sn=_;rw[M.Bo.sn,Jr];refine List.map_congr_left (fun r hr=>?_);obtain⟨j,rfl,hj,_⟩:=Fk hx hr;rw[Int.toNat_natCast,YD j hj];show _=if _ then IQ AA (if j=AZ AA c (a.nx c) then f else a.F j) else -1
  by_cases e:j=AZ AA c (a.nx c)
  . simp[e]
  . simp[e,show ¬((j:Int)=(AZ AA c (a.nx c):Int)) by omega]
 ·
  rcases hcan with hg|hg
  ·
   unfold EL;rw[h1,show (Ai AA c (a.nx c)).2.2.2=0 from hg];rfl
  . exact absurd hg h
theorem Ve {AA:List (List Dd)}(hb:AL AA=true){b:Bd}{a:Ab}{τ:Nat->Nat}{T:Nat}{z:Int}(M:MI AA b a τ T z)(hT:1<=T){c:Nat}(hc:c<AA.length)(hk:a.nx c<(AA.getD c []).length)(h1:(Ai AA c (a.nx c)).1=1)
  (hz:Co AA c (a.nx c)=z) (hcan:BE AA c (a.nx c)=0\/a.N c=[]):
  ∃f τ',((Cr AA a τ).L (BT AA) (c:Int) (Ai AA c (a.nx c)).2.1.toNat).getLast? = some f/\MI AA (Ag AA (AB AA) b c) (Yy AA a c f) τ' T z:=by
 obtain⟨f,h,M'⟩:=Ki hb M hT hc hk h1 hz hcan;exact⟨f,_,h,M'⟩
theorem Rf {AA:List (List Dd)}(hb:AL AA=true){j c k i:Nat}(E:Dm AA j c k i):Zb AA j=(Ai AA c k).2.1/\IQ AA j=WE (Ai AA c k) i:=by
 unfold Zb IQ;rw[E.at hb];exact⟨rfl,rfl⟩
theorem ZK {d:Dd}{i:Nat}(h:LB d i=false):WE d i=d.2.2.1:=by unfold WE;rw[h];rfl
theorem aI {AA:List (List Dd)}(hb:AL AA=true)(a:Ab){c:Nat}(hc:c<AA.length)(hk:a.nx c<(AA.getD c []).length)(h2:(Ai AA c (a.nx c)).1=2){j:Nat}(hj:j<(AB AA).length)(hr:((AB AA).getD j zE).2.2.1=true):
  D2 AA (BB a c) j=D2 AA a j:=by
 have this:=KU hb a hc hk (by omega) (by omega) j
 have hne:j≠AZ AA c (a.nx c):=by
  intro e;have E:=CU hc hk (by omega:(Ai AA c (a.nx c)).1≠4);rw[e,E.at hb] at hr;rw[show LB (Ai AA c (a.nx c)) 0=false from H5 h2 0] at hr;cases hr
 cases q2:D2 AA a j with
 |true=>exact (this.2 (.inl ⟨hj,q2⟩)).2
 |false=>
  cases q:D2 AA (BB a c) j with
  |false=>rfl
  |true=>
   rcases this.1 ⟨hj,q⟩ with h|h
   . rw[q2] at h;cases h.2
   . exact absurd h hne
theorem ZM {d:Dd}(h:d.1≠3)(hg:d.2.2.2=0):EL d=false:=by
 unfold EL;rw[beq_eq_false_iff_ne.2 h,hg];rfl
abbrev Q0 (AA:List (List Dd))(a:Ab)(c:Nat):Ab:={ BB a c with N:=fun c'=>if c'=c then a.N c'++[AZ AA c (a.nx c)] else a.N c' }
abbrev jP (AA:List (List Dd))(a:Ab)(c p:Nat):Ab:={ BB a c with R:=fun q=>if q=p then a.R q++[AZ AA c (a.nx c)] else a.R q }
theorem N1 {AA:List (List Dd)}(hb:AL AA=true){b:Bd}{a:Ab}{τ:Nat->Nat}{T:Nat}{z:Int}(M:MI AA b a τ T z){c:Nat}(hc:c<AA.length)(hk:a.nx c<(AA.getD c []).length)(h2:(Ai AA c (a.nx c)).1=2)(hg:BE AA c (a.nx c)=0):
  MI AA (Ag AA (AB AA) b c) (Q0 AA a c) τ T z:=by
 have h4:(Ai AA c (a.nx c)).1≠4:=by omega
 have h3:(Ai AA c (a.nx c)).1≠3:=by omega
 have E:=CU hc hk h4;obtain⟨s1,s2,s3,s4⟩:=DD hb E;have hN:=EU hb a τ hc hk h4;have hrd:(BT AA).rd (AZ AA c (a.nx c))=false:=by rw[s3];exact H5 h2 0
 have I:=M.inv.Ed hN hrd;have hx:=Cg AA
 have hd:BA AA (AB AA) b c (Aj b c)={ b with AJ:=b.AJ.set c (b.AJ.getD c []++[((Ai AA c (a.nx c)).2.1,(Ai AA c (a.nx c)).2.2.1,(AZ AA c (a.nx c):Int))]) }:=by
  rw[(Dp M.Bo hc).2];unfold BA;rw[if_neg (by omega),if_neg (by omega),if_neg (by omega),if_pos h2,Ij hb hc hk h4]
 have hst:Cr AA { BB a c with N:=fun c'=>if c'=c then a.N c'++[AZ AA c (a.nx c)] else a.N c' } τ=(Cr AA a τ).Ed (BT AA) (AZ AA c (a.nx c)):=by
  unfold Cr A6.Ed
  congr 1
  ·
   funext j;apply propext;exact KU hb a hc hk h4 h3 j
  ·
   funext c';rw[s1];show (if 0<=c' then (if c'.toNat=c then a.N c'.toNat++[AZ AA c (a.nx c)] else a.N c'.toNat) else [])=if c'=(c:Int) then (if 0<=c' then a.N c'.toNat else [])++[AZ AA c (a.nx c)] else (if 0<=c' then a.N c'.toNat else [])
   by_cases h0:0<=c'
   ·
    rw[if_pos h0];by_cases e:c'=(c:Int)
    . subst e;simp
    . rw[if_neg (by omega),if_neg e,if_pos h0]
   . rw[if_neg h0,if_neg (by omega),if_neg h0]
 unfold Ag;rw[hd];refine⟨⟨Jo M.Bo hc,?_,M.Bo.rws,M.Bo.AO,M.Bo.AM,?_,?_⟩,by rw[hst];exact I,G2 M.UD hk,?_⟩
 ·
  show b.AJ.set c _=_;rw[Ek M.Bo hc,M.Bo.AJ,DK];refine List.map_congr_left (fun i _=>?_);show _=(if i=c then a.N i++[AZ AA c (a.nx c)] else a.N i).map (Va AA);split
  ·
   rename_i e;subst e;rw[List.map_append]
   congr 1
   show _=[Va AA _];unfold Va;rw[(Rf hb E).1,(Rf hb E).2,ZK (H5 h2 0)]
  . rfl
 ·
  show b.fr=_;rw[M.Bo.fr];refine List.map_congr_left (fun r hr=>?_);obtain⟨j,rfl,hj,hjr⟩:=Fk hx hr;rw[Int.toNat_natCast];show _=if D2 AA (BB a c) j=true then _ else _
  rw[aI hb a hc hk h2 hj hjr];rfl
 ·
  show b.sn=_;rw[M.Bo.sn];refine List.map_congr_left (fun r hr=>?_);obtain⟨j,rfl,hj,hjr⟩:=Fk hx hr;rw[Int.toNat_natCast];show _=if D2 AA (BB a c) j=true then _ else _
  rw[aI hb a hc hk h2 hj hjr];rfl
 ·
  intro c' x hxm;have old:=Ji M (c:=c) (fun _=>⟨h4,ZM h3 hg⟩);change x∈(if c'=c then a.N c'++[AZ AA c (a.nx c)] else a.N c') at hxm;by_cases e:c'=c
  ·
   rw[if_pos e,List.mem_append] at hxm;rcases hxm with hxm|hxm
   . exact old c' x hxm
   ·
    have ex:x=AZ AA c (a.nx c):=by simpa using hxm
    subst e;refine⟨hc,a.nx c',by rw[ex];exact E,?_,h2,hg,fun k' h1 h2'=>?_⟩
    ·
     show a.nx c'<(BB a c').nx c';rw[Cp,if_pos rfl];omega
    ·
     change k'<(BB a c').nx c' at h2';rw[Cp,if_pos rfl] at h2';omega
  ·
   rw[if_neg e] at hxm;exact old c' x hxm
theorem MQ {AA:List (List Dd)}(hb:AL AA=true){b:Bd}{a:Ab}{τ:Nat->Nat}{T:Nat}{z:Int}(M:MI AA b a τ T z)(hT:1<=T){c:Nat}(hc:c<AA.length)(hk:a.nx c<(AA.getD c []).length)(h2:(Ai AA c (a.nx c)).1=2)(hg:BE AA c (a.nx c)≠0)
  (hz:Co AA c (a.nx c)=z) (hN0:a.N c=[]):
  MI AA (Ag AA (AB AA) b c) (jP AA a c (Ai AA c (a.nx c)).2.1.toNat) (fun i=>if i=AZ AA c (a.nx c) then T else τ i) T z:=by
 have h4:(Ai AA c (a.nx c)).1≠4:=by omega
 have h3:(Ai AA c (a.nx c)).1≠3:=by omega
 have E:=CU hc hk h4;obtain⟨s1,s2,s3,s4⟩:=DD hb E;obtain⟨p,hp,ep⟩:=Hz hb hc hk;have hN:=EU hb a τ hc hk h4;have hrd:(BT AA).rd (AZ AA c (a.nx c))=false:=by rw[s3];exact H5 h2 0
 have hpl:(BT AA).pl (AZ AA c (a.nx c))=p:=by rw[s2,ep,Int.toNat_natCast]
 have I:=M.inv.Da hT hN hrd (by rw[s4];exact hz) (by rw[s1,IP];exact hN0);have hx:=Cg AA;have hg0:0<BE AA c (a.nx c):=by have:=(Xx (Bu hb hc) hk).1;omega
 have hd:BA AA (AB AA) b c (Aj b c)=Db b p (Ai AA c (a.nx c)).2.2.1 (AZ AA c (a.nx c):Int):=by
  rw[(Dp M.Bo hc).2];unfold BA;rw[if_neg (by omega),if_neg (by omega),if_pos ⟨h2,hg0⟩,Ij hb hc hk h4,ep,Int.toNat_natCast]
 rw[ep,Int.toNat_natCast]
 have hst:Cr AA { BB a c with R:=fun q=>if q=p then a.R q++[AZ AA c (a.nx c)] else a.R q } (fun i=>if i=AZ AA c (a.nx c) then T else τ i)=(Cr AA a τ).Da (BT AA) T (AZ AA c (a.nx c)):=by
  unfold Cr A6.Da;rw[hpl]
  congr 1
  funext j;apply propext;exact KU hb a hc hk h4 h3 j
 have hla:∀q,BM { BB a c with R:=fun q=>if q=p then a.R q++[AZ AA c (a.nx c)] else a.R q } q=if q=p then AZ AA c (a.nx c) else BM a q:=by
  intro q;unfold BM;show ((if q=p then a.R q++[AZ AA c (a.nx c)] else a.R q).getLast?).getD q=_;split
  . simp
  . rfl
 unfold Ag;rw[hd];refine⟨⟨Jo M.Bo hc,M.Bo.AJ,?_,?_,?_,?_,?_⟩,by rw[hst];exact I,G2 M.UD hk,Ji M (fun h=>absurd hN0 h)⟩
 ·
  show b.rws.set p (b.rws.getD p []++[(AZ AA c (a.nx c):Int)])=_;rw[(KH M.Bo hp).2.2,M.Bo.rws,DK];refine List.map_congr_left (fun q _=>?_);show _=(if q=p then a.R q++[AZ AA c (a.nx c)] else a.R q).map Int.ofNat;split
  . rename_i e;subst e;rw[List.map_append];rfl
  . rfl
 ·
  show b.AO.set p (AZ AA c (a.nx c):Int)=_;rw[M.Bo.AO,DK];refine List.map_congr_left (fun q _=>?_);rw[hla];split<;>rfl
 ·
  show b.AM.set p (Ai AA c (a.nx c)).2.2.1=_;rw[M.Bo.AM,DK];refine List.map_congr_left (fun q _=>?_);rw[hla];split
  . rw[(Rf hb E).2,ZK (H5 h2 0)]
  . rfl
 ·
  show b.fr=_;rw[M.Bo.fr];refine List.map_congr_left (fun r hr=>?_);obtain⟨j,rfl,hj,hjr⟩:=Fk hx hr;rw[Int.toNat_natCast];show _=if D2 AA (BB a c) j=true then _ else _
  rw[aI hb a hc hk h2 hj hjr];rfl
 ·
  show b.sn=_;rw[M.Bo.sn];refine List.map_congr_left (fun r hr=>?_);obtain⟨j,rfl,hj,hjr⟩:=Fk hx hr;rw[Int.toNat_natCast];show _=if D2 AA (BB a c) j=true then _ else _
  rw[aI hb a hc hk h2 hj hjr];rfl
theorem Yn {AA:List (List Dd)}(hb:AL AA=true){b:Bd}{a:Ab}{τ:Nat->Nat}{T:Nat}{z:Int}(M:MI AA b a τ T z)(hT:1<=T){c:Nat}(hc:c<AA.length)(hk:a.nx c<(AA.getD c []).length)(h2:(Ai AA c (a.nx c)).1=2)(hg:BE AA c (a.nx c)≠0)
  (hz:Co AA c (a.nx c)=z) (hN0:a.N c=[]):
  ∃ τ',MI AA (Ag AA (AB AA) b c) (jP AA a c (Ai AA c (a.nx c)).2.1.toNat) τ' T z:=⟨_,MQ hb M hT hc hk h2 hg hz hN0⟩
abbrev ZE (AA:List (List Dd))(a:Ab)(c p:Nat):Ab:={ BB a c with F:=fun i=>if i=AZ AA c (a.nx c) then BM a p else a.F i,R:=fun q=>if q=p then a.R q++[AZ AA c (a.nx c)+1] else a.R q }
abbrev Op (a:Ab)(c p x:Nat)(rest:List Nat):Ab:={ a with N:=fun c'=>if c'=c then rest else a.N c',R:=fun q=>if q=p then a.R q++[x] else a.R q }
theorem Kk {AA:List (List Dd)}(hb:AL AA=true){b:Bd}{a:Ab}{τ:Nat->Nat}{T:Nat}{z:Int}(M:MI AA b a τ T z)(hT:1<=T){c:Nat}(hc:c<AA.length)(hk:a.nx c<(AA.getD c []).length)(h3:(Ai AA c (a.nx c)).1=3)
  (hz:Co AA c (a.nx c)=z) (hN0:a.N c=[]):
  MI AA (Ag AA (AB AA) b c) (ZE AA a c (Ai AA c (a.nx c)).2.1.toNat) (fun i=>if i=AZ AA c (a.nx c)+1 then T else if i=AZ AA c (a.nx c) then T else τ i) T z:=by
 have h4:(Ai AA c (a.nx c)).1≠4:=by omega
 have E:=CU hc hk h4;have E2:=Hm hc hk h3;obtain⟨s1,s2,s3,s4⟩:=DD hb E;obtain⟨r1,r2,r3,r4⟩:=DD hb E2;obtain⟨p,hp,ep⟩:=Hz hb hc hk;have hN:=EU hb a τ hc hk h4;have hrd:(BT AA).rd (AZ AA c (a.nx c))=true:=by rw[s3];exact KN (by omega)
 have hrd2:(BT AA).rd (AZ AA c (a.nx c)+1)=false:=by rw[r3];exact Iu _
 have hpl:(BT AA).pl (AZ AA c (a.nx c))=p:=by rw[s2,ep,Int.toNat_natCast]
 have hpl2:(BT AA).pl (AZ AA c (a.nx c)+1)=p:=by rw[r2,ep,Int.toNat_natCast]
 have hlast:=Nm M.inv hp
 have I1:=M.inv.DC hT hN hrd (by rw[s4];exact hz) (fun x hx=>by rw[s1,IP,hN0] at hx;cases hx) (f:=BM a p) (by
  rw[s1,hpl];unfold A6.L;rw[IP,hN0];show (a.R p++[].filter _).getLast? = _;rw[List.filter_nil,List.append_nil]
  exact hlast)
 have hN2:mH (BT AA) ((Cr AA a τ).DC T (AZ AA c (a.nx c)) (BM a p)) (AZ AA c (a.nx c)+1):=by
  have hl:=E2.lt hb;refine⟨hl.1,hl.2,?_,?_,?_⟩
  ·
   rintro (⟨_,h⟩|h)
   . rw[JU hb E2,decide_eq_true_eq] at h;omega
   . omega
  ·
   intro i h3' hi hck;by_cases e:i=AZ AA c (a.nx c)
   . exact .inr e
   . exact .inl (hN.all i h3' (by omega) (by rw[hck,r1,s1]))
  ·
   rintro i (h|h) h3' hck
   . have:=hN.last i h h3' (by rw[hck,r1,s1]);omega
   . omega
 have I:=I1.Da hT hN2 hrd2 (by rw[r4];exact hz) (by rw[r1];show (Cr AA a τ).N (c:Int)=[];rw[IP];exact hN0);have hx:=Cg AA;obtain⟨l1,l2,l3⟩:=KH M.Bo hp
 have hd:BA AA (AB AA) b c (Aj b c)=Db (Ew (AX Ae (AB AA)) b (AZ AA c (a.nx c):Int) (IQ AA (BM a p)) (BM a p:Int)) p (Ai AA c (a.nx c)).2.2.1 ((AZ AA c (a.nx c):Int)+1):=by
  rw[(Dp M.Bo hc).2];unfold BA;rw[if_neg (by omega),if_pos h3,Ij hb hc hk h4,ep,Int.toNat_natCast,l1,l2]
 rw[ep,Int.toNat_natCast]
 have hst:Cr AA { BB a c with F:=fun i=>if i=AZ AA c (a.nx c) then BM a p else a.F i,R:=fun q=>if q=p then a.R q++[AZ AA c (a.nx c)+1] else a.R q } (fun i=>if i=AZ AA c (a.nx c)+1 then T else if i=AZ AA c (a.nx c) then T else τ i) =
   ((Cr AA a τ).DC T (AZ AA c (a.nx c)) (BM a p)).Da (BT AA) T (AZ AA c (a.nx c)+1):=by
  unfold Cr A6.Da A6.DC;rw[hpl2]
  congr 1
  funext j;apply propext;exact Wk hb a hc hk h3 j
 have YD:∀j,j<(AB AA).length->((AB AA).getD j zE).2.2.1=true->D2 AA (BB a c) j=(decide (j=AZ AA c (a.nx c))||D2 AA a j):=by
  intro j hj hjr;have this:=Wk hb a hc hk h3 j
  have hne:j≠AZ AA c (a.nx c)+1:=by
   intro e;rw[e,E2.at hb,show LB (Ai AA c (a.nx c)) 1=false from Iu _] at hjr;cases hjr
  cases q:D2 AA (BB a c) j with
  |true=>
   rcases this.1 ⟨hj,q⟩ with (h|h)|h
   . rw[h.2];simp
   . simp[h]
   . exact absurd h hne
  |false=>
   have n1:¬j=AZ AA c (a.nx c):=fun e=>by have:=(this.2 (.inl (.inr e))).2;rw[q] at this;cases this
   have n2:D2 AA a j=false:=by
    cases q2:D2 AA a j with
    |false=>rfl
    |true=>have:=(this.2 (.inl (.inl ⟨hj,q2⟩))).2;rw[q] at this;cases this
   simp[n1,n2]
 have hla:∀q,BM { BB a c with F:=fun i=>if i=AZ AA c (a.nx c) then BM a p else a.F i,R:=fun q=>if q=p then a.R q++[AZ AA c (a.nx c)+1] else a.R q } q=if q=p then AZ AA c (a.nx c)+1 else BM a q:=by
  intro q;unfold BM;show ((if q=p then a.R q++[AZ AA c (a.nx c)+1] else a.R q).getLast?).getD q=_;split
  . simp
  . rfl
 unfold Ag;rw[hd];refine⟨⟨Jo M.Bo hc,M.Bo.AJ,?_,?_,?_,?_,?_⟩,by rw[hst];exact I,G2 M.UD hk,Ji M (fun h=>absurd hN0 h)⟩
 ·
  show b.rws.set p (b.rws.getD p []++[(AZ AA c (a.nx c):Int)+1])=_;rw[l3,M.Bo.rws,DK];refine List.map_congr_left (fun q _=>?_);show _=(if q=p then a.R q++[AZ AA c (a.nx c)+1] else a.R q).map Int.ofNat;split
  . rename_i e;subst e;rw[List.map_append];rfl
  . rfl
 ·
  show b.AO.set p ((AZ AA c (a.nx c):Int)+1)=_;rw[M.Bo.AO,DK];refine List.map_congr_left (fun q _=>?_);rw[hla];split<;>rfl
 ·
  show b.AM.set p (Ai AA c (a.nx c)).2.2.1=_;rw[M.Bo.AM,DK];refine List.map_congr_left (fun q _=>?_);rw[hla];split
  . rw[(Rf hb E2).2,ZK (Iu _)]
  . rfl
 ·
  show GI (AX Ae (AB AA)) _ _ b.fr=_;rw[M.Bo.fr,Jr];refine List.map_congr_left (fun r hr=>?_);obtain⟨j,rfl,hj,hjr⟩:=Fk hx hr;rw[Int.toNat_natCast];show _=if D2 AA (BB a c) j=true then ((if j=AZ AA c (a.nx c) then BM a p else a.F j:Nat):Int) else -1
  rw[YD j hj hjr];by_cases e:j=AZ AA c (a.nx c)
  . simp[e]
  . simp[e,show ¬((j:Int)=(AZ AA c (a.nx c):Int)) by omega]
 ·
  show GI (AX Ae (AB AA)) _ _ b.sn=_;rw[M.Bo.sn,Jr];refine List.map_congr_left (fun r hr=>?_);obtain⟨j,rfl,hj,hjr⟩:=Fk hx hr;rw[Int.toNat_natCast];show _=if D2 AA (BB a c) j=true then IQ AA (if j=AZ AA c (a.nx c) then BM a p else a.F j) else -1
  rw[YD j hj hjr];by_cases e:j=AZ AA c (a.nx c)
  . simp[e]
  . simp[e,show ¬((j:Int)=(AZ AA c (a.nx c):Int)) by omega]
theorem Vf {AA:List (List Dd)}(hb:AL AA=true){b:Bd}{a:Ab}{τ:Nat->Nat}{T:Nat}{z:Int}(M:MI AA b a τ T z)(hT:1<=T){c:Nat}(hc:c<AA.length)(hk:a.nx c<(AA.getD c []).length)(h3:(Ai AA c (a.nx c)).1=3)
  (hz:Co AA c (a.nx c)=z) (hN0:a.N c=[]):
  ∃ τ',MI AA (Ag AA (AB AA) b c) (ZE AA a c (Ai AA c (a.nx c)).2.1.toNat) τ' T z:=⟨_,Kk hb M hT hc hk h3 hz hN0⟩
theorem KY {AA:List (List Dd)}(hb:AL AA=true){b:Bd}{a:Ab}{τ:Nat->Nat}{T:Nat}{z:Int}(M:MI AA b a τ T z){c:Nat}(hc:c<AA.length){x:Nat}{rest:List Nat}(hN:a.N c=x::rest):
  MI AA (BG b c) (Op a c ((BT AA).pl x) x rest) (fun i=>if i=x then T+1 else τ i) (T+1) ((BT AA).cs x):=by
 obtain⟨_,k,E,h1,h2,h3,h5⟩:=M.nt c x (by rw[hN];simp);obtain⟨s1,s2,s3,s4⟩:=DD hb E;obtain⟨p,hp,ep⟩:=Hz hb E.hc E.hk;have hpl:(BT AA).pl x=p:=by rw[s2,ep,Int.toNat_natCast]
 have hst0:(Cr AA a τ).N (c:Int)=x::rest:=by rw[IP];exact hN
 have I0:=M.inv.tick ((BT AA).cs x) (fun i hi h3' e=>by
  obtain⟨c',k',i',E'⟩:=Fu hb h3' hi.1.1;rw[(DD hb E').2.2.2,s4] at e;have hc':=(Hl (Bu hb E'.hc) (Bu hb E.hc) E'.hk E.hk E'.kind E.kind).1 e;obtain⟨rfl,hq⟩:=hc'
  have hkk:k'=k:=by
   rcases hq with hq|hq
   . exact hq
   . exact absurd (hq.2.trans h3) hq.1
  subst hkk;have e1:=(LH E' (by omega)).1;have e2:=(LH E (by omega)).1;have exx:i=x:=by omega
  subst exx
  exact hi.2 (by rw[s1,hst0];simp))
 have I:=I0.CQ (by omega) hst0 rfl;have hx:=Cg AA
 have hfl:BG b c=Db { b with AJ:=b.AJ.set c (rest.map (Va AA)) } p (IQ AA x) (x:Int):=by
  unfold BG;rw[Ek M.Bo hc,hN,List.map_cons];show Db _ (Zb AA x).toNat (IQ AA x) (x:Int)=_;rw[(Rf hb E).1,ep,Int.toNat_natCast]
 rw[hpl]
 have hst:Cr AA { a with N:=fun c'=>if c'=c then rest else a.N c',R:=fun q=>if q=p then a.R q++[x] else a.R q } (fun i=>if i=x then T+1 else τ i)=(Cr AA a τ).CQ (BT AA) (T+1) (c:Int) x rest:=by
  unfold Cr A6.CQ;rw[hpl]
  congr 1
  funext c';show (if 0<=c' then (if c'.toNat=c then rest else a.N c'.toNat) else [])=if c'=(c:Int) then rest else (if 0<=c' then a.N c'.toNat else [])
  by_cases h0:0<=c'
  ·
   rw[if_pos h0];by_cases e:c'=(c:Int)
   . subst e;simp
   . rw[if_neg (by omega),if_neg e,if_pos h0]
  . rw[if_neg h0,if_neg (by omega),if_neg h0]
 have hla:∀q,BM { a with N:=fun c'=>if c'=c then rest else a.N c',R:=fun q=>if q=p then a.R q++[x] else a.R q } q=if q=p then x else BM a q:=by
  intro q;unfold BM;show ((if q=p then a.R q++[x] else a.R q).getLast?).getD q=_;split
  . simp
  . rfl
 rw[hfl];refine⟨⟨M.Bo.AK,?_,?_,?_,?_,M.Bo.fr,M.Bo.sn⟩,by rw[hst];exact I,M.UD,?_⟩
 ·
  show b.AJ.set c _=_;rw[M.Bo.AJ,DK];refine List.map_congr_left (fun i _=>?_);show _=(if i=c then rest else a.N i).map (Va AA);split<;>rfl
 ·
  show b.rws.set p (b.rws.getD p []++[(x:Int)])=_;rw[(KH M.Bo hp).2.2,M.Bo.rws,DK];refine List.map_congr_left (fun q _=>?_);show _=(if q=p then a.R q++[x] else a.R q).map Int.ofNat;split
  . rename_i e;subst e;rw[List.map_append];rfl
  . rfl
 ·
  show b.AO.set p (x:Int)=_;rw[M.Bo.AO,DK];refine List.map_congr_left (fun q _=>?_);rw[hla];split<;>rfl
 ·
  show b.AM.set p (IQ AA x)=_;rw[M.Bo.AM,DK];refine List.map_congr_left (fun q _=>?_);rw[hla];split<;>rfl
 ·
  intro c' y hy;refine M.nt c' y ?_;change y∈(if c'=c then rest else a.N c') at hy;split at hy
  . rename_i e;subst e;rw[hN];exact List.mem_cons_of_mem _ hy
  . exact hy
theorem VF {AA:List (List Dd)}(hb:AL AA=true){b:Bd}{a:Ab}{τ:Nat->Nat}{T:Nat}{z:Int}(M:MI AA b a τ T z){c:Nat}(hc:c<AA.length){x:Nat}{rest:List Nat}(hN:a.N c=x::rest):
  ∃ τ',MI AA (BG b c) (Op a c ((BT AA).pl x) x rest) τ' (T+1) ((BT AA).cs x):=⟨_,KY hb M hc hN⟩
theorem M6 {a b:List Int}(h:a.Nodup)(hs:∀x∈a,x∈b):a.length<=b.length:=by
 induction a generalizing b with
 |nil=>simp
 |cons x a ih=>
  rw[List.nodup_cons] at h;have hx:=hs x (by simp);have:=ih (b:=b.erase x) h.2 (fun y hy=>(List.mem_erase_of_ne (fun e=>h.1 (by rw[<-e];exact hy))).2 (hs y (by simp[hy])));rw[List.length_erase_of_mem hx] at this;have:=List.length_pos_of_mem hx;simp;omega
theorem R5 {AA:List (List Dd)}(hb:AL AA=true):3<=(AB AA).length/\(AB AA).getD 0 zE=(-1,-1,false,0,0,0)/\(AB AA).getD 1 zE=(-1,-1,false,1,0,1)/\(AB AA).getD 2 zE=(-1,-1,false,2,0,2):=by
 have e1:AB AA=Ax AA AA.length:=by rw[AB,if_pos hb]
 obtain⟨t,ht⟩:=Fv AA 0 AA.length (Nat.zero_le _);have ht':Ax AA AA.length=B5++t:=ht;rw[e1];refine⟨by rw[ht'];simp[B5],Oi ht'⟩
theorem Jx {AA:List (List Dd)}(hb:AL AA=true){i:Nat}(hi:i<3):((AB AA).getD i zE).2.2.2.1=(i:Int)/\((AB AA).getD i zE).2.2.1=false/\ZW ((AB AA).getD i zE)=(i:Int)/\((AB AA).getD i zE).1=-1:=by
 obtain⟨_,h0,h1,h2⟩:=R5 hb;rcases (by omega:i=0\/i=1\/i=2) with rfl|rfl|rfl
 . rw[h0];exact⟨rfl,rfl,rfl,rfl⟩
 . rw[h1];exact⟨rfl,rfl,rfl,rfl⟩
 . rw[h2];exact⟨rfl,rfl,rfl,rfl⟩
theorem U4 {AA:List (List Dd)}(hb:AL AA=true){c k:Nat}(hc:c<AA.length)(hk:k<(AA.getD c []).length)(h4:(Ai AA c k).1≠4):3<=Co AA c k:=by
 rcases J1 (Bu hb hc) hk h4 with ⟨_,e⟩|⟨_,j,_,_,_,e⟩
 . have:=Hx AA c k;omega
 . have:=Hx AA c j;omega
theorem dI {AA:List (List Dd)}(hb:AL AA=true){b:Bd}{a:Ab}{τ:Nat->Nat}{T:Nat}{z:Int}(M:MI AA b a τ T z)(hT:1<=T){c:Nat}(hc:c<AA.length)(hk:a.nx c<(AA.getD c []).length)
  (hz:(Ai AA c (a.nx c)).1≠4->Co AA c (a.nx c)=z) (hcan:((Ai AA c (a.nx c)).1<=2/\BE AA c (a.nx c)=0)\/a.N c=[]):
  ∃a' τ',MI AA (Ag AA (AB AA) b c) a' τ' T z/\a'.nx=(BB a c).nx/\(BE AA c (a.nx c)≠0->a'.N c=[]):=by
 have hkd:=Bz (Bu hb hc _ hk);rcases hkd with h|h|h|h
 ·
  obtain⟨f,τ',_,h1⟩:=Ve hb M hT hc hk h (hz (by omega)) (hcan.imp (fun h=>h.2) id);exact⟨_,τ',h1,rfl,fun hg=>hcan.resolve_left (fun h=>hg h.2)⟩
 ·
  by_cases hg:BE AA c (a.nx c)=0
  . exact⟨_,τ,N1 hb M hc hk h hg,rfl,fun h=>absurd hg h⟩
  ·
   have hN:=hcan.resolve_left (fun h=>hg h.2);obtain⟨τ',h1⟩:=Yn hb M hT hc hk h hg (hz (by omega)) hN;exact⟨_,τ',h1,rfl,fun _=>hN⟩
 ·
  have hN:=hcan.resolve_left (fun h=>by omega);obtain⟨τ',h1⟩:=Vf hb M hT hc hk h (hz (by omega)) hN;exact⟨_,τ',h1,rfl,fun _=>hN⟩
 ·
  have hN:=hcan.resolve_left (fun h=>by omega);exact⟨BB a c,τ,N2 hb M hc hk h hN,rfl,fun _=>hN⟩
def BD (AA:List (List Dd))(a:Ab):Prop:=∀c,c<AA.length->0<a.nx c->a.nx c<(AA.getD c []).length->BE AA c (a.nx c)≠0->BE AA c (a.nx c-1)≠BE AA c (a.nx c)
theorem Xz {AA:List (List Dd)}(hb:AL AA=true){c:Nat}(hc:c<AA.length)(g:Int){T:Nat}(hT:1<=T){z:Int}:∀(m:Nat) (b:Bd) (a:Ab) (τ:Nat->Nat),MI AA b a τ T z->a.nx c<(AA.getD c []).length->(AA.getD c []).length<=a.nx c+m->BE AA c (a.nx c)=g ->
  ((Ai AA c (a.nx c)).1≠4->Co AA c (a.nx c)=z)->(((Ai AA c (a.nx c)).1<=2/\BE AA c (a.nx c)=0)\/a.N c=[]) ->
  ∃a' τ',MI AA (EE AA (AB AA) g c m b) a' τ' T z/\a.nx c<a'.nx c/\(∀c',c'≠c->a'.nx c'=a.nx c')/\(a'.nx c<(AA.getD c []).length->BE AA c (a'.nx c)≠0->BE AA c (a'.nx c-1)≠BE AA c (a'.nx c))
 | 0,b,a,τ,M,hk,hm,_,_,_=>by omega
 |m+1,b,a,τ,M,hk,hm,hg,hz,hcan=>by
  obtain⟨a1,τ1,M1,e1,e2⟩:=dI hb M hT hc hk hz hcan;have hn1:a1.nx c=a.nx c+1:=by rw[e1,Cp,if_pos rfl]
  have ho1:∀c',c'≠c->a1.nx c'=a.nx c':=fun c' h=>by rw[e1,Cp,if_neg h]
  rw[EE,(Dp M1.Bo hc).2,hn1];by_cases hs:g=0\/a.nx c+1=(AA.getD c []).length\/BE AA c (a.nx c+1)≠g
  ·
   rw[if_pos hs];refine⟨a1,τ1,M1,by omega,ho1,?_⟩;rw[hn1];intro hl hg0;rw[show a.nx c+1-1=a.nx c by omega,hg];rcases hs with hs|hs|hs
   . rw[hs];exact fun e=>hg0 e.symm
   . omega
   . exact fun e=>hs e.symm
  ·
   rw[if_neg hs];have hs0:¬g=0:=fun h=>hs (.inl h)
   have hs1:¬a.nx c+1=(AA.getD c []).length:=fun h=>hs (.inr (.inl h))
   have hs2:BE AA c (a.nx c+1)=g:=Classical.byContradiction (fun h=>hs (.inr (.inr h)));have hl:=M1.UD c hc;have hk1:a.nx c+1<(AA.getD c []).length:=by omega
   have hok:=Bu hb hc;have n1:=ER hok hk (by rw[hg];exact hs0);have n2:=ER hok hk1 (by rw[hs2];exact hs0);have hcl:Co AA c (a.nx c+1)=Co AA c (a.nx c):=(Hl hok hok hk1 hk n2.1 n1.1).2 ⟨rfl,.inr ⟨by rw[hs2];exact hs0,by rw[hs2,hg]⟩⟩;obtain⟨a',τ',M',q1,q2,q3⟩:=Xz hb hc g hT m (Ag AA (AB AA) b c) a1 τ1 M1 (by omega) (by omega) (by rw[hn1];exact hs2) (by rw[hn1,hcl];exact fun _=>hz n1.1) (.inr (e2 (by rw[hg];exact hs0)));exact⟨a',τ',M',by omega,fun c' h=>by rw[q2 c' h,ho1 c' h],q3⟩
theorem Xi {AA:List (List Dd)}(hb:AL AA=true){a:Ab}{τ:Nat->Nat}{i:Nat}(hi:(Cr AA a τ).D (BT AA) i)(h3:3<=i):∃c k i',Dm AA i c k i'/\k<a.nx c/\(BT AA).cs i=Co AA c k/\3<=Co AA c k:=by
 obtain⟨c,k,i',E⟩:=Fu hb h3 hi.1.1;have hX:=hi.1.2;rw[JU hb E,decide_eq_true_eq] at hX;exact⟨c,k,i',E,hX,(DD hb E).2.2.2,U4 hb E.hc E.hk E.kind⟩
theorem ZC {AA:List (List Dd)}(hb:AL AA=true){b:Bd}{a:Ab}{τ:Nat->Nat}{T:Nat}{z:Int}(M:MI AA b a τ T z)(B:BD AA a){s:Int}(hs:Mx (An AA b) s=true):
  ∃a' τ' z',MI AA (Ao AA (AB AA) b s) a' τ' (T+1) z'/\BD AA a':=by
 have hm:=LM hs;unfold An at hm;rw[List.mem_append,List.mem_map,List.mem_map] at hm;rcases hm with ⟨c,hc,e⟩|⟨c,hc,e⟩
 ·
  rw[List.mem_filter,List.mem_range] at hc;obtain⟨hc,hcan⟩:=hc
  have hl3:AA.length<=3:=by
   simp only[AL,Bool.and_eq_true,decide_eq_true_eq] at hb;exact hb.1.1.1.1.2
  unfold Bx at hcan;rw[(Dp M.Bo hc).2,Ek M.Bo hc] at hcan;simp only[Bool.and_eq_true,Bool.or_eq_true,decide_eq_true_eq,List.isEmpty_iff,List.map_eq_nil_iff] at hcan;obtain⟨hk,hcan⟩:=hcan;have hok:=Bu hb hc
  have M1:MI AA b a τ (T+1) (if (Ai AA c (a.nx c)).1=4 then -1 else Co AA c (a.nx c)):=by
   refine⟨M.Bo,M.inv.tick _ (fun i hi h3 e=>?_),M.UD,M.nt⟩;obtain⟨c',k',i',E,hX,e1,e2⟩:=Xi hb hi h3;rw[e1] at e;split at e
   . omega
   ·
    rename_i h4;obtain⟨rfl,hq⟩:=(Hl (Bu hb E.hc) hok E.hk hk E.kind h4).1 e;rcases hq with hq|⟨g1,g2⟩
    . omega
    ·
     have h0:BE AA c' (a.nx c')≠0:=by rw[<-g2];exact g1
     refine B c' hc (by omega) hk h0 ?_;exact Ka hb hc (j:=k') (k:=a.nx c'-1) (l:=a.nx c') (by omega) (by omega) hk h0 g2
  have hst:Ao AA (AB AA) b s=EE AA (AB AA) (BE AA c (a.nx c)) c (AA.getD c []).length b:=by
   unfold Ao;rw[if_neg (by omega),show s.toNat=c by omega,(Dp M.Bo hc).2]
  rw[hst];obtain⟨a',τ',M',q1,q2,q3⟩:=Xz hb hc (BE AA c (a.nx c)) (T:=T+1) (by omega) (AA.getD c []).length b a τ M1 hk (by omega) rfl (fun h=>by rw[if_neg h]) hcan;refine⟨a',τ',_,M',fun c' hc' h0 hl hg=>?_⟩;by_cases e:c'=c
  . subst e;exact q3 hl hg
  ·
   rw[q2 c' e] at h0 hl hg ⊢;exact B c' hc' h0 hl hg
 ·
  rw[List.mem_filter,List.mem_range] at hc;obtain⟨hc,hne⟩:=hc;rw[Ek M.Bo hc] at hne
  have hst:Ao AA (AB AA) b s=BG b c:=by
   unfold Ao;rw[if_pos (by omega),show (s-10).toNat=c by omega]
  rw[hst]
  cases hN:a.N c with
  |nil=>rw[hN] at hne;simp at hne
  |cons x rest=>
   obtain⟨τ',M'⟩:=VF hb M hc hN;exact⟨_,τ',_,M',fun c' hc'=>B c' hc'⟩
def Ir:Ab:={ nx:=fun _=>0,N:=fun _=>[],R:=fun p=>if p<3 then [p] else [],F:=fun _=>0 }
theorem LQ {AA:List (List Dd)}(hb:AL AA=true):MI AA (Ci AA) Ir (fun _=>0) 0 (-1)/\BD AA Ir:=by
 have hX:∀j,(Cr AA Ir (fun _=>0)).X j↔j<3:=by
  intro j;show (j<(AB AA).length/\D2 AA Ir j=true)↔_;unfold D2 Ir;simp;have:=(R5 hb).1;omega
 have hN:∀c,(Cr AA Ir (fun _=>0)).N c=[]:=fun c=>by show (if 0<=c then [] else [])=[];split<;>rfl
 have hD:∀j,(Cr AA Ir (fun _=>0)).D (BT AA) j↔j<3:=fun j=>by
  unfold A6.D;rw[hX,hN];simp
 have hR:∀p,(Cr AA Ir (fun _=>0)).R p=if p<3 then [p] else []:=fun p=>rfl
 have Mu:∀j,j<3->(BT AA).rd j=false/\(BT AA).pl j=j/\(BT AA).ck j=-1/\(BT AA).cs j=(j:Int):=by
  intro j hj;obtain⟨h1,h2,h3,h4⟩:=Jx hb hj;refine⟨h2,?_,h4,h3⟩;show ((AB AA).getD j zE).2.2.2.1.toNat=j;rw[h1,Int.toNat_natCast]
 have hno:∀j,(Cr AA Ir (fun _=>0)).X j->¬ 3<=j:=fun j h1 h2=>by have:=(hX j).1 h1;omega
 refine⟨⟨?_,?_,fun c hc=>Nat.zero_le _,fun c x hx=>by cases hx⟩,fun c _ h=>absurd h (Nat.lt_irrefl _)⟩
 ·
  have hrep:∀(α:Type) (m:Nat) (x:α),List.replicate m x=(List.range m).map (fun _=>x):=by
   intro α m x;rw[List.map_const',List.length_range]
  have hrep2:∀(α β:Type) (l:List β) (x:α),List.replicate l.length x=l.map (fun _=>x):=by
   intro α β l x;rw[List.map_const']
  obtain⟨h3,b0,b1,b2⟩:=R5 hb;refine⟨hrep _ _ _,hrep _ _ _,rfl,rfl,?_,?_,?_⟩
  ·
   show [0,0,0]=(List.range 3).map (fun p=>IQ AA (BM Ir p));have e0:IQ AA 0=0:=by unfold IQ;rw[b0]
   have e1:IQ AA 1=0:=by unfold IQ;rw[b1]
   have e2:IQ AA 2=0:=by unfold IQ;rw[b2]
   have r3:List.range 3=[0,1,2]:=rfl;rw[r3];show [0,0,0]=[IQ AA 0,IQ AA 1,IQ AA 2];rw[e0,e1,e2]
  ·
   show List.replicate _ (-1)=_;rw[hrep2];refine List.map_congr_left (fun r hr=>?_);obtain⟨j,rfl,hj,hjr⟩:=Fk (Cg AA) hr
   have:¬D2 AA Ir j=true:=by
    intro h;have h3:=(hX j).1 ⟨hj,h⟩;rw[(Jx hb h3).2.1] at hjr;cases hjr
   rw[Int.toNat_natCast,if_neg this]
  ·
   show List.replicate _ (-1)=_;rw[hrep2];refine List.map_congr_left (fun r hr=>?_);obtain⟨j,rfl,hj,hjr⟩:=Fk (Cg AA) hr
   have:¬D2 AA Ir j=true:=by
    intro h;have h3:=(hX j).1 ⟨hj,h⟩;rw[(Jx hb h3).2.1] at hjr;cases hjr
   rw[Int.toNat_natCast,if_neg this]
 ·
  constructor;case ES=>exact fun j hj=>⟨(hX j).2 hj,(Mu j hj).1,(Mu j hj).2.1,(Mu j hj).2.2.1,rfl,(Mu j hj).2.2.2⟩
  case lt=>exact fun j hj=>hj.1
  case down=>exact fun i j hj h3 hij _=>absurd ((hX j).1 hj) (by omega)
  case note=>exact fun c x hx=>by rw[hN] at hx;cases hx
  case Kz=>exact fun c=>by rw[hN];simp
  case pend=>exact fun c x j hx=>by rw[hN] at hx;cases hx
  case rows=>
   intro p x;rw[hR,hD];by_cases hp:p<3
   ·
    rw[if_pos hp];constructor
    ·
     intro hx;have e:x=p:=by simpa using hx
     subst e;exact⟨hp,(Mu x hp).1,(Mu x hp).2.1⟩
    ·
     rintro⟨h1,h2,h3⟩;rw[(Mu x h1).2.1] at h3;simp[h3]
   ·
    rw[if_neg hp];constructor
    . intro hx;cases hx
    ·
     rintro⟨h1,h2,h3⟩;rw[(Mu x h1).2.1] at h3;omega
  case Ph=>exact fun p=>by rw[hR];split<;>simp
  case Sv=>exact fun p=>by rw[hR];split<;>simp
  case NG=>exact fun j _=>Nat.le_refl _
  case tpos=>exact fun j hj h3=>absurd h3 (hno j hj.1)
  case same=>exact fun i j hi _ h3=>absurd h3 (hno i hi.1)
  case PQ=>exact fun i j hi _ h3=>absurd h3 (hno i hi.1)
  case now=>exact fun i hi h3=>absurd h3 (hno i hi.1)
  case kept=>exact fun i j hi _ h3=>absurd h3 (hno i hi.1)
  case src=>
   intro r hr hrd;rw[(Mu r ((hX r).1 hr)).1] at hrd;cases hrd
  case Lb=>
   intro r w p hr hrd;rw[(Mu r ((hX r).1 hr)).1] at hrd;cases hrd
  case WM=>exact fun i hi h3=>absurd h3 (hno i hi)
  case Z6=>exact fun i j hi _ h3=>absurd h3 (hno i hi)
  case R9=>exact fun i j hi _ h3=>absurd h3 (hno i hi)
structure rU (AA:List (List Dd))(a:Ab)(τ:Nat->Nat)(T:Nat)(z:Int)(b:Bd):Prop where
 inv:FE (BT AA) (Cr AA a τ) T z
 Bo:Wh AA b a
 none:∀c,(Cr AA a τ).N c=[]
 all:∀j,j<(AB AA).length->(Cr AA a τ).D (BT AA) j
theorem jC {AA:List (List Dd)}(hb:AL AA=true){b:Bd}{a:Ab}{τ:Nat->Nat}{T:Nat}{z:Int}(M:MI AA b a τ T z)(he:DF AA b=true):rU AA a τ T z b:=by
 unfold DF at he;rw[List.all_eq_true] at he
 have hc:∀c,c<AA.length->a.nx c=(AA.getD c []).length/\a.N c=[]:=by
  intro c hc;have h1:=he c (List.mem_range.2 hc);rw[(Dp M.Bo hc).2,Ek M.Bo hc] at h1;simp only[Bool.and_eq_true,decide_eq_true_eq,List.isEmpty_iff,List.map_eq_nil_iff] at h1;have:=M.UD c hc;exact⟨by omega,h1.2⟩
 have hN:∀c,a.N c=[]:=by
  intro c;by_cases h:c<AA.length
  . exact (hc c h).2
  ·
   cases hN:a.N c with
   |nil=>rfl
   |cons x r=>exact absurd (M.nt c x (by rw[hN];simp)).1 h
 have hst:∀c,(Cr AA a τ).N c=[]:=fun c=>by
  show (if 0<=c then a.N c.toNat else [])=[];split
  . exact hN _
  . rfl
 refine⟨M.inv,M.Bo,hst,fun j hj=>⟨⟨hj,?_⟩,by rw[hst];simp⟩⟩;by_cases h3:j<3
 . unfold D2;simp[h3]
 ·
  obtain⟨c,k,i,E⟩:=Fu hb (by omega) hj;rw[JU hb E,decide_eq_true_eq,(hc c E.hc).1];exact E.hk
theorem rU.frs {AA:List (List Dd)}{a:Ab}{τ:Nat->Nat}{T:Nat}{z:Int}{b:Bd}(h:rU AA a τ T z b):b.fr=(AX Ae (AB AA)).map (fun r=>(a.F r.toNat:Int))/\b.sn=(AX Ae (AB AA)).map (fun r=>IQ AA (a.F r.toNat)):=by
 have hx:=Cg AA;rw[h.Bo.fr,h.Bo.sn]
 constructor <;>
 ·
  refine List.map_congr_left (fun r hr=>?_);obtain⟨j,rfl,hj,_⟩:=Fk hx hr;rw[Int.toNat_natCast,if_pos (h.all j hj).1.2]
theorem iR {AA:List (List Dd)}(hb:AL AA=true)(a:Ab)(τ τ':Nat->Nat){c:Nat}(hc:c<AA.length)(hk:a.nx c<(AA.getD c []).length)(h1:(Ai AA c (a.nx c)).1=1)(f j:Nat):(Cr AA (Yy AA a c f) τ').X j↔(Cr AA a τ).X j\/j=AZ AA c (a.nx c):=
 KU hb a hc hk (by omega) (by omega) j
theorem iQ {AA:List (List Dd)}(hb:AL AA=true)(a:Ab)(τ τ':Nat->Nat){c:Nat}(hc:c<AA.length)(hk:a.nx c<(AA.getD c []).length)(h2:(Ai AA c (a.nx c)).1=2)(j:Nat):(Cr AA (Q0 AA a c) τ').X j↔(Cr AA a τ).X j\/j=AZ AA c (a.nx c):=
 KU hb a hc hk (by omega) (by omega) j
theorem mW {AA:List (List Dd)}(hb:AL AA=true)(a:Ab)(τ τ':Nat->Nat){c:Nat}(hc:c<AA.length)(hk:a.nx c<(AA.getD c []).length)(h2:(Ai AA c (a.nx c)).1=2)(p j:Nat):(Cr AA (jP AA a c p) τ').X j↔(Cr AA a τ).X j\/j=AZ AA c (a.nx c):=
 KU hb a hc hk (by omega) (by omega) j
theorem iT {AA:List (List Dd)}(hb:AL AA=true)(a:Ab)(τ τ':Nat->Nat){c:Nat}(hc:c<AA.length)(hk:a.nx c<(AA.getD c []).length)(h3:(Ai AA c (a.nx c)).1=3)(p j:Nat):(Cr AA (ZE AA a c p) τ').X j↔((Cr AA a τ).X j\/j=AZ AA c (a.nx c))\/j=AZ AA c (a.nx c)+1:=
 Wk hb a hc hk h3 j
end Go.Proofs.YtflehmepjhikcaaGreatDoor
