/- Gathered texts. -/
import Derived.Test.YtflehmepjhikcaaGreatDoorMA
set_option maxRecDepth 100000
set_option maxHeartbeats 8000000
namespace Go.Proofs.YtflehmepjhikcaaGreatDoor
open Go.RowKit
abbrev KAh:=@List.map_congr_left
abbrev KAj:=@List.length_map
abbrev KAv:=@List.mem_map
abbrev KA9:=@List.getElem?_eq_none
abbrev KBB:=@List.map_append
abbrev KBL:=@List.mem_cons
abbrev KBi:=@Bool.true_and
abbrev KBo:=@List.not_mem_nil
abbrev KBy:=@List.map_cons
abbrev KB5:=@List.length_range
abbrev KCA:=@List.pairwise_cons
abbrev KCV:=@List.mem_of_getLast?
abbrev KCc:=@List.map_eq_nil_iff
abbrev KCf:=@List.any_eq_true
abbrev KCl:=@or_false
abbrev KCn:=@Nat.le_succ_of_le
abbrev KCu:=@List.getLast?_eq_none_iff
abbrev KCy:=@beq_eq_false_iff_ne
abbrev KC0:=@List.sublist_append_left
abbrev KC4:=@List.ext_getElem?
abbrev KDD:=@List.isEmpty_iff
abbrev KDJ:=@List.Sublist.append
theorem GG.QA {S:Tq}{s:BH}{T:Nat}{z:Int}(h:GG S s T z){r:Nat}(hx:s.X r)(hr:S.rd r=true):s.D S r:=
 ⟨hx,fun hn=>by have:=(h.note _ _ hn).2.2.2;rw[hr] at this;cases this⟩
theorem GG.tick {S:Tq}{s:BH}{T:Nat}{z:Int}(h:GG S s T z)(z':Int)(hz:∀i,s.D S i->3<=i->S.cs i≠z'):GG S s (T+1) z':=
 { h with
  PE:=fun j hj=>KCn (h.PE j hj)
  now:=fun i hi h3=>⟨fun e=>by have:=h.PE i hi;omega,fun e=>absurd e (hz i hi h3)⟩ }
def BH.Fh (S:Tq)(s:BH)(j:Nat):BH:={ s with X:=fun i=>s.X i\/i=j,N:=fun c=>if c=S.ck j then s.N c++[j] else s.N c }
def BH.Di (s:BH)(T j f:Nat):BH:={ s with X:=fun i=>s.X i\/i=j,F:=fun i=>if i=j then f else s.F i,τ:=fun i=>if i=j then T else s.τ i }
def BH.EH (S:Tq)(s:BH)(T j:Nat):BH:={ s with X:=fun i=>s.X i\/i=j,R:=fun p=>if p=S.pl j then s.R p++[j] else s.R p,τ:=fun i=>if i=j then T else s.τ i }
def BH.Cq (S:Tq)(s:BH)(T:Nat)(c:Int)(x:Nat)(rest:List Nat):BH:={ s with N:=fun c'=>if c'=c then rest else s.N c',R:=fun p=>if p=S.pl x then s.R p++[x] else s.R p,τ:=fun i=>if i=x then T else s.τ i }
theorem GG.Fh {S:Tq}{s:BH}{T:Nat}{z:Int}(h:GG S s T z){j:Nat}(hn:sK S s j)(hr:S.rd j=false):GG S (s.Fh S j) T z:=by
 have hne:∀i,s.X i->i≠j:=fun i hi e=>hn.new (by rw[<-e];exact hi)
 have Oy:∀c x,x∈(s.Fh S j).N c↔x∈s.N c\/(c=S.ck j/\x=j):=by
  intro c x;show x∈(if c=S.ck j then s.N c++[j] else s.N c)↔_;split
  . rename_i e;simp[e]
  . rename_i e;simp[e]
 have hD:∀i,(s.Fh S j).D S i↔s.D S i:=by
  intro i;unfold BH.D;rw[Oy];show ((s.X i\/i=j)/\_)↔_;constructor
  ·
   rintro⟨h1|rfl,h2⟩
   . exact⟨h1,fun hm=>h2 (.inl hm)⟩
   . exact absurd (.inr ⟨rfl,rfl⟩) h2
  ·
   rintro⟨h1,h2⟩;refine⟨.inl h1,?_⟩;rintro (hm|⟨_,e⟩)
   . exact h2 hm
   . exact hne i h1 e
 have hsub:∀c p,(s.L S c p).Sublist ((s.Fh S j).L S c p):=by
  intro c p;refine KDJ (KB4 _) ?_;show List.Sublist _ ((if c=S.ck j then s.N c++[j] else s.N c).filter _);split
  . rw[List.filter_append];exact KC0 _ _
  . exact KB4 _
 have hlast:(s.Fh S j).L S (S.ck j) (S.pl j)=s.L S (S.ck j) (S.pl j)++[j]:=by
  unfold BH.L BH.Fh;simp[List.filter_append]
 have hv:∀i,(s.Fh S j).v S i=s.v S i:=fun i=>rfl
 have mW:s.v S j=j:=by unfold BH.v;rw[hr];rfl
 refine { h with FU:=fun i hi=>⟨.inl (h.FU i hi).1,(h.FU i hi).2⟩,lt:=?_,down:=?_,note:=?_,Ma:=?_,pend:=?_,rows:=?_,PE:=?_,tpos:=?_,same:=?_,Qx:=?_,now:=?_,kept:=?_,src:=?_,Mv:=?_,Yb:=?_,iU:=?_,T0:=?_ }
 ·
  rintro i (hi|rfl)
  . exact h.lt i hi
  . exact hn.lt
 ·
  rintro i k (hk|rfl) h3 hik hc
  . exact .inl (h.down i k hk h3 hik hc)
  . exact .inl (hn.all i h3 hik hc)
 ·
  intro c x hx;rcases (Oy c x).1 hx with hx|⟨rfl,rfl⟩
  . exact⟨.inl (h.note c x hx).1,(h.note c x hx).2⟩
  . exact⟨.inr rfl,hn.three,rfl,hr⟩
 ·
  intro c;show (if c=S.ck j then s.N c++[j] else s.N c).Pairwise _;split
  ·
   rename_i e;rw[KCB];refine⟨h.Ma c,by simp,fun x hx y hy=>?_⟩;have hy':y=j:=by simpa using hy
   subst hy';have hq:=h.note c x hx;exact hn.last x hq.1 hq.2.1 (by rw[hq.2.2.1,e])
  . exact h.Ma c
 ·
  intro c x k hx hk hxk hc;rcases (Oy c x).1 hx with hx|⟨rfl,rfl⟩
  ·
   rcases hk with hk|rfl
   ·
    rcases h.pend c x k hx hk hxk hc with hp|hp
    . exact .inl hp
    . exact .inr ((Oy c k).2 (.inl hp))
   . exact .inr ((Oy c k).2 (.inr ⟨hc.symm,rfl⟩))
  ·
   rcases hk with hk|rfl
   . have:=hn.last k hk (by have:=hn.three;omega) hc;omega
   . omega
 . intro p x;rw[hD];exact h.rows p x
 . intro i hi;exact h.PE i ((hD i).1 hi)
 . intro i hi;exact h.tpos i ((hD i).1 hi)
 . intro i k hi hk;exact h.same i k ((hD i).1 hi) ((hD k).1 hk)
 . intro i k hi hk;exact h.Qx i k ((hD i).1 hi) ((hD k).1 hk)
 . intro i hi;exact h.now i ((hD i).1 hi)
 . intro i k hi hk;exact h.kept i k ((hD i).1 hi) ((hD k).1 hk)
 ·
  rintro r (hx|rfl) hrd
  ·
   obtain⟨a,b,c,d⟩:=h.src r hx hrd;exact⟨.inl a,b,c,d.imp id (fun d=>⟨(hD _).2 d.1,d.2⟩)⟩
  . rw[hr] at hrd;cases hrd
 ·
  rintro r w p (hx|rfl) hrd hb
  . exact h.Mv r w p hx hrd hb
  . rw[hr] at hrd;cases hrd
 ·
  rintro i (hi|rfl) h3
  . exact (hsub _ _).subset (h.Yb i hi h3)
  . rw[hlast,hv,mW];simp
 ·
  rintro i k (hi|rfl) (hk|rfl) h3 hik hc hp
  . exact (h.iU i k hi hk h3 hik hc hp).imp id (fun hb=>hb.trans (hsub _ _))
  ·
   refine .inr ?_;rw[hc,hp,hlast,hv,hv,mW,<-hc,<-hp];exact My (h.Yb i hi h3)
  . have:=hn.last k hk (by omega) hc.symm;omega
  . omega
 ·
  rintro i k (hi|rfl) (hk|rfl) h3 hik hc hp h1 h2
  . exact h.T0 i k hi hk h3 hik hc hp h1 h2
  . exact hne _ (h.src i hi h1).1
  . have:=hn.last k hk (by omega) hc.symm;omega
  . omega
theorem GG.Di {S:Tq}{s:BH}{T:Nat}{z:Int}(h:GG S s T z)(hT:1<=T){j f:Nat}(hn:sK S s j)(hr:S.rd j=true)(hz:S.cs j=z)(hex:∀x,x∈s.N (S.ck j)->S.ex x j=true)
  (hf:(s.L S (S.ck j) (S.pl j)).getLast? = some f):GG S (s.Di T j f) T z:=by
 have hne:∀i,s.X i->i≠j:=fun i hi e=>hn.new (by rw[<-e];exact hi)
 have hD:∀i,(s.Di T j f).D S i↔s.D S i\/i=j:=by
  intro i;show ((s.X i\/i=j)/\i∉s.N (S.ck i))↔_;constructor
  ·
   rintro⟨h1|rfl,h2⟩
   . exact .inl ⟨h1,h2⟩
   . exact .inr rfl
  ·
   rintro (⟨h1,h2⟩|rfl)
   . exact⟨.inl h1,h2⟩
   . exact⟨.inr rfl,fun hm=>hn.new (h.note _ _ hm).1⟩
 have hτ:∀i,i≠j->(s.Di T j f).τ i=s.τ i:=fun i hi=>by show (if i=j then T else s.τ i)=_;rw[KAQ hi]
 have Ph:(s.Di T j f).τ j=T:=by show (if j=j then T else s.τ j)=T;rw[KAP rfl]
 have hF:∀i,i≠j->(s.Di T j f).F i=s.F i:=fun i hi=>by show (if i=j then f else s.F i)=_;rw[KAQ hi]
 have hFj:(s.Di T j f).F j=f:=by show (if j=j then f else s.F j)=f;rw[KAP rfl]
 have hv:∀i,i≠j->(s.Di T j f).v S i=s.v S i:=fun i hi=>by unfold BH.v;rw[hF i hi]
 have mW:(s.Di T j f).v S j=f:=by unfold BH.v;rw[hr,hFj];rfl
 have hfm:f∈s.L S (S.ck j) (S.pl j):=KCV hf
 have hfX:s.X f/\S.rd f=false/\S.pl f=S.pl j/\((3<=f/\S.ck f=S.ck j/\f∈s.N (S.ck j))\/s.D S f):=by
  unfold BH.L at hfm;rw[KA0,KBF] at hfm;rcases hfm with hm|⟨hm,hp⟩
  ·
   obtain⟨a,b,c⟩:=(h.rows _ _).1 hm;exact⟨a.1,b,c,.inr a⟩
  ·
   obtain⟨a,b,c,d⟩:=h.note _ _ hm;exact⟨a,d,by simpa using hp,.inl ⟨b,c,hm⟩⟩
 refine { h with FU:=fun i hi=>⟨.inl (h.FU i hi).1,(h.FU i hi).2.1,(h.FU i hi).2.2.1,(h.FU i hi).2.2.2.1,by rw[hτ i (hne i (h.FU i hi).1)];exact (h.FU i hi).2.2.2.2.1,(h.FU i hi).2.2.2.2.2⟩,lt:=?_,down:=?_,note:=?_,pend:=?_,rows:=?_,Uo:=?_,PE:=?_,tpos:=?_,same:=?_,Qx:=?_,now:=?_,kept:=?_,src:=?_,Mv:=?_,Yb:=?_,iU:=?_,T0:=?_ }
 ·
  rintro i (hi|rfl)
  . exact h.lt i hi
  . exact hn.lt
 ·
  rintro i k (hk|rfl) h3 hik hc
  . exact .inl (h.down i k hk h3 hik hc)
  . exact .inl (hn.all i h3 hik hc)
 ·
  intro c x hx;exact⟨.inl (h.note c x hx).1,(h.note c x hx).2⟩
 ·
  rintro c x k hx (hk|rfl) hxk hc
  . exact h.pend c x k hx hk hxk hc
  . exact .inl ⟨hr,hex x (by rw[hc];exact hx)⟩
 ·
  intro p x;rw[hD];refine (h.rows p x).trans ⟨fun ⟨a,b⟩=>⟨.inl a,b⟩,fun ⟨a,b⟩=>⟨a.resolve_right (fun e=>?_),b⟩⟩;rw[e,hr] at b;cases b.1
 ·
  intro p;refine (h.Uo p).imp_of_mem (fun {x y} hx hy hxy=>?_);rw[hτ x (hne x ((h.rows p x).1 hx).1.1),hτ y (hne y ((h.rows p y).1 hy).1.1)];exact hxy
 ·
  intro i hi;rcases (hD i).1 hi with hi|rfl
  . rw[hτ i (hne i hi.1)];exact h.PE i hi
  . rw[Ph];exact KAM _
 ·
  intro i hi h3;rcases (hD i).1 hi with hi|rfl
  . rw[hτ i (hne i hi.1)];exact h.tpos i hi h3
  . rw[Ph];exact hT
 ·
  intro i k hi hk h3 h3' e;rcases (hD i).1 hi with ai|rfl<;>rcases (hD k).1 hk with ak|rfl
  . rw[hτ i (hne i ai.1),hτ k (hne k ak.1)] at e;exact h.same i k ai ak h3 h3' e
  . rw[hτ i (hne i ai.1),Ph] at e;rw[hz];exact (h.now i ai h3).1 e
  . rw[hτ k (hne k ak.1),Ph] at e;rw[hz];exact ((h.now k ak h3').1 e.symm).symm
  . rfl
 ·
  intro i k hi hk h3 h3' e;rcases (hD i).1 hi with ai|rfl<;>rcases (hD k).1 hk with ak|rfl
  . rw[hτ i (hne i ai.1),hτ k (hne k ak.1)];exact h.Qx i k ai ak h3 h3' e
  . rw[hτ i (hne i ai.1),Ph];exact (h.now i ai h3).2 (by rw[e,hz])
  . rw[hτ k (hne k ak.1),Ph];exact ((h.now k ak h3').2 (by rw[<-e,hz])).symm
  . rfl
 ·
  intro i hi h3;rcases (hD i).1 hi with hi|rfl
  . rw[hτ i (hne i hi.1)];exact h.now i hi h3
  . rw[Ph,hz];simp
 ·
  intro i k hi hk h3 hik hc hcs hx;rcases (hD i).1 hi with ai|rfl<;>rcases (hD k).1 hk with ak|rfl
  . rw[hτ i (hne i ai.1),hτ k (hne k ak.1)];exact h.kept i k ai ak h3 hik hc hcs hx
  ·
   rw[hτ i (hne i ai.1),Ph];have h1:=h.PE i ai;have h2:s.τ i≠T:=fun e=>hcs (by rw[hz];exact (h.now i ai h3).1 e)
   omega
  . have:=hn.last k ak.1 (by omega) hc.symm;omega
  . omega
 ·
  rintro r (hx|rfl) hrd
  ·
   rw[hF r (hne r hx),hτ r (hne r hx)];obtain⟨a,b,c,d⟩:=h.src r hx hrd;exact⟨.inl a,b,c,d.imp id (fun d=>⟨(hD _).2 (.inl d.1),by rw[hτ _ (hne _ d.1.1)];exact d.2⟩)⟩
  ·
   rw[hFj,Ph];obtain⟨a,b,c,d⟩:=hfX;exact⟨.inl a,b,c,d.imp (fun d=>⟨d.1,d.2.1⟩) (fun d=>⟨(hD _).2 (.inl d),by rw[hτ _ (hne _ a)];exact h.PE _ d⟩)⟩
 ·
  rintro r w p (hx|rfl) hrd hb
  ·
   rw[hF r (hne r hx)] at hb;have hw:=(h.rows p w).1 (VA hb).2;rw[hτ r (hne r hx),hτ w (hne w hw.1.1)];exact h.Mv r w p hx hrd hb
  ·
   rw[hFj] at hb;exfalso;have hm:f∈s.R p:=(VA hb).1;obtain⟨q1,q2,q3⟩:=(h.rows p f).1 hm;have hp:p=S.pl r:=by rw[<-q3];exact hfX.2.2.1
   subst hp
   have he:(s.N (S.ck r)).filter (fun x=>S.pl x==S.pl r)=[]:=by
    apply KBA;intro hne';unfold BH.L at hf
    have hf2:((s.N (S.ck r)).filter (fun x=>S.pl x==S.pl r)).getLast? = some f:=by
     rw[List.getLast?_append] at hf
     cases hq:((s.N (S.ck r)).filter (fun x=>S.pl x==S.pl r)).getLast? with
     |none=>exact absurd (KCu.1 hq) hne'
     |some y=>rw[hq] at hf;exact hf
    have:=KCV hf2;rw[KBF] at this;have hq:=h.note _ _ this.1;exact q1.2 (by rw[hq.2.2.1];exact this.1)
   unfold BH.L at hf;rw[he,KBn] at hf;obtain⟨L',e⟩:=KB9.1 hf;have hnd:=h.RM (S.pl r);change gM (s.R (S.pl r)) f w at hb;rw[e] at hb hnd;exact ZA hnd hb
 ·
  rintro i (hi|rfl) h3
  . rw[hv i (hne i hi)];exact h.Yb i hi h3
  . rw[mW];exact hfm
 ·
  rintro i k (hi|rfl) (hk|rfl) h3 hik hc hp
  . rw[hv i (hne i hi),hv k (hne k hk)];exact h.iU i k hi hk h3 hik hc hp
  ·
   rw[hv i (hne i hi),mW];have hm:=h.Yb i hi h3;rw[hc,hp] at hm ⊢;exact R7 hm hf
  . have:=hn.last k hk (by omega) hc.symm;omega
  . omega
 ·
  rintro i k (hi|rfl) (hk|rfl) h3 hik hc hp h1 h2
  . rw[hF i (hne i hi)];exact h.T0 i k hi hk h3 hik hc hp h1 h2
  . rw[hr] at h2;cases h2
  . have:=hn.last k hk (by omega) hc.symm;omega
  . omega
theorem GG.EH {S:Tq}{s:BH}{T:Nat}{z:Int}(h:GG S s T z)(hT:1<=T){j:Nat}(hn:sK S s j)(hr:S.rd j=false)(hz:S.cs j=z)(hN:s.N (S.ck j)=[]):GG S (s.EH S T j) T z:=by
 have hne:∀i,s.X i->i≠j:=fun i hi e=>hn.new (by rw[<-e];exact hi)
 have hD:∀i,(s.EH S T j).D S i↔s.D S i\/i=j:=by
  intro i;show ((s.X i\/i=j)/\i∉s.N (S.ck i))↔_;constructor
  ·
   rintro⟨h1|rfl,h2⟩
   . exact .inl ⟨h1,h2⟩
   . exact .inr rfl
  ·
   rintro (⟨h1,h2⟩|rfl)
   . exact⟨.inl h1,h2⟩
   . exact⟨.inr rfl,fun hm=>hn.new (h.note _ _ hm).1⟩
 have hτ:∀i,i≠j->(s.EH S T j).τ i=s.τ i:=fun i hi=>by show (if i=j then T else s.τ i)=_;rw[KAQ hi]
 have Ph:(s.EH S T j).τ j=T:=by show (if j=j then T else s.τ j)=T;rw[KAP rfl]
 have hR:∀p,(s.EH S T j).R p=if p=S.pl j then s.R p++[j] else s.R p:=fun p=>rfl
 have hv:∀i,(s.EH S T j).v S i=s.v S i:=fun i=>rfl
 have mW:s.v S j=j:=by unfold BH.v;rw[hr];rfl
 have hjR:∀p,j∉s.R p:=fun p hm=>hn.new ((h.rows p j).1 hm).1.1
 have hRs:∀p,(s.R p).Sublist ((s.EH S T j).R p):=fun p=>by
  rw[hR];split
  . exact KC0 _ _
  . exact KB4 _
 have hsub:∀c p,(s.L S c p).Sublist ((s.EH S T j).L S c p):=fun c p=>KDJ (hRs p) (KB4 _)
 have hlast:(s.EH S T j).L S (S.ck j) (S.pl j)=s.L S (S.ck j) (S.pl j)++[j]:=by
  unfold BH.L;rw[hR,KAP rfl];show s.R (S.pl j)++[j]++(s.N (S.ck j)).filter _=s.R (S.pl j)++(s.N (S.ck j)).filter _++[j];rw[hN];simp
 refine { h with FU:=fun i hi=>⟨.inl (h.FU i hi).1,(h.FU i hi).2.1,(h.FU i hi).2.2.1,(h.FU i hi).2.2.2.1,by rw[hτ i (hne i (h.FU i hi).1)];exact (h.FU i hi).2.2.2.2.1,(h.FU i hi).2.2.2.2.2⟩,lt:=?_,down:=?_,note:=?_,pend:=?_,rows:=?_,RM:=?_,Uo:=?_,PE:=?_,tpos:=?_,same:=?_,Qx:=?_,now:=?_,kept:=?_,src:=?_,Mv:=?_,Yb:=?_,iU:=?_,T0:=?_ }
 ·
  rintro i (hi|rfl)
  . exact h.lt i hi
  . exact hn.lt
 ·
  rintro i k (hk|rfl) h3 hik hc
  . exact .inl (h.down i k hk h3 hik hc)
  . exact .inl (hn.all i h3 hik hc)
 ·
  intro c x hx;exact⟨.inl (h.note c x hx).1,(h.note c x hx).2⟩
 ·
  rintro c x k hx (hk|rfl) hxk hc
  . exact h.pend c x k hx hk hxk hc
  ·
   change x∈s.N c at hx;rw[<-hc,hN] at hx;cases hx
 ·
  intro p x;rw[hD,hR];by_cases hp:p=S.pl j
  ·
   rw[KAP hp,KA0,h.rows p x];constructor
   ·
    rintro (⟨a,b⟩|hx)
    . exact⟨.inl a,b⟩
    ·
     have e:x=j:=by simpa using hx
     exact⟨.inr e,by rw[e];exact hr,by rw[e,hp]⟩
   ·
    rintro⟨a|rfl,b⟩
    . exact .inl ⟨a,b⟩
    . exact .inr (by simp)
  ·
   rw[KAQ hp,h.rows p x];constructor
   . rintro⟨a,b⟩;exact⟨.inl a,b⟩
   ·
    rintro⟨a|rfl,b⟩
    . exact⟨a,b⟩
    . exact absurd b.2.symm hp
 ·
  intro p;rw[hR];split
  ·
   rw[KBp];refine⟨h.RM p,by simp,fun x hx y hy e=>?_⟩;have:y=j:=by simpa using hy
   exact hjR p (by rw[<-this,<-e];exact hx)
  . exact h.RM p
 ·
  intro p
  have old:(s.R p).Pairwise (fun x y=>(s.EH S T j).τ x<=(s.EH S T j).τ y):=(h.Uo p).imp_of_mem (fun {x y} hx hy hxy=>by
   rw[hτ x (hne x ((h.rows p x).1 hx).1.1),hτ y (hne y ((h.rows p y).1 hy).1.1)]
   exact hxy)
  rw[hR];split
  ·
   rw[KCB];refine⟨old,by simp,fun x hx y hy=>?_⟩;have:y=j:=by simpa using hy
   have hx':=((h.rows p x).1 hx).1;rw[this,Ph,hτ x (hne x hx'.1)];exact h.PE x hx'
  . exact old
 ·
  intro i hi;rcases (hD i).1 hi with ai|rfl
  . rw[hτ i (hne i ai.1)];exact h.PE i ai
  . rw[Ph];exact KAM _
 ·
  intro i hi h3;rcases (hD i).1 hi with ai|rfl
  . rw[hτ i (hne i ai.1)];exact h.tpos i ai h3
  . rw[Ph];exact hT
 ·
  intro i k hi hk h3 h3' e;rcases (hD i).1 hi with ai|rfl<;>rcases (hD k).1 hk with ak|rfl
  . rw[hτ i (hne i ai.1),hτ k (hne k ak.1)] at e;exact h.same i k ai ak h3 h3' e
  . rw[hτ i (hne i ai.1),Ph] at e;rw[hz];exact (h.now i ai h3).1 e
  . rw[hτ k (hne k ak.1),Ph] at e;rw[hz];exact ((h.now k ak h3').1 e.symm).symm
  . rfl
 ·
  intro i k hi hk h3 h3' e;rcases (hD i).1 hi with ai|rfl<;>rcases (hD k).1 hk with ak|rfl
  . rw[hτ i (hne i ai.1),hτ k (hne k ak.1)];exact h.Qx i k ai ak h3 h3' e
  . rw[hτ i (hne i ai.1),Ph];exact (h.now i ai h3).2 (by rw[e,hz])
  . rw[hτ k (hne k ak.1),Ph];exact ((h.now k ak h3').2 (by rw[<-e,hz])).symm
  . rfl
 ·
  intro i hi h3;rcases (hD i).1 hi with ai|rfl
  . rw[hτ i (hne i ai.1)];exact h.now i ai h3
  . rw[Ph,hz];simp
 ·
  intro i k hi hk h3 hik hc hcs hx;rcases (hD i).1 hi with ai|rfl<;>rcases (hD k).1 hk with ak|rfl
  . rw[hτ i (hne i ai.1),hτ k (hne k ak.1)];exact h.kept i k ai ak h3 hik hc hcs hx
  ·
   rw[hτ i (hne i ai.1),Ph];have h1:=h.PE i ai;have h2:s.τ i≠T:=fun e=>hcs (by rw[hz];exact (h.now i ai h3).1 e)
   omega
  . have:=hn.last k ak.1 (by omega) hc.symm;omega
  . omega
 ·
  rintro r (hx|rfl) hrd
  ·
   rw[hτ r (hne r hx)];obtain⟨a,b,c,d⟩:=h.src r hx hrd;exact⟨.inl a,b,c,d.imp id (fun d=>⟨(hD _).2 (.inl d.1),by show (s.EH S T j).τ (s.F r)<=_;rw[hτ _ (hne _ d.1.1)];exact d.2⟩)⟩
  . rw[hr] at hrd;cases hrd
 ·
  rintro r w p (hx|rfl) hrd hb
  ·
   rw[hτ r (hne r hx)];by_cases hw:w=j
   . rw[hw,Ph];exact h.PE r (h.QA hx hrd)
   ·
    rw[hτ w hw];rw[hR] at hb;by_cases hp:p=S.pl j
    ·
     rw[KAP hp] at hb;exact h.Mv r w p hx hrd (KO hb hw)
    ·
     rw[KAQ hp] at hb;exact h.Mv r w p hx hrd hb
  . rw[hr] at hrd;cases hrd
 ·
  rintro i (hi|rfl) h3
  . exact (hsub _ _).subset (h.Yb i hi h3)
  . rw[hlast,hv,mW];simp
 ·
  rintro i k (hi|rfl) (hk|rfl) h3 hik hc hp
  . exact (h.iU i k hi hk h3 hik hc hp).imp id (fun hb=>hb.trans (hsub _ _))
  ·
   refine .inr ?_;rw[hc,hp,hlast,hv,hv,mW,<-hc,<-hp];exact My (h.Yb i hi h3)
  . have:=hn.last k hk (by omega) hc.symm;omega
  . omega
 ·
  rintro i k (hi|rfl) (hk|rfl) h3 hik hc hp h1 h2
  . exact h.T0 i k hi hk h3 hik hc hp h1 h2
  . exact hne _ (h.src i hi h1).1
  . have:=hn.last k hk (by omega) hc.symm;omega
  . omega
theorem GG.Cq {S:Tq}{s:BH}{T:Nat}{z:Int}(h:GG S s T z)(hT:1<=T){c:Int}{x:Nat}{rest:List Nat}(hN:s.N c=x::rest)(hz:S.cs x=z):GG S (s.Cq S T c x rest) T z:=by
 have hx0:=h.note c x (by rw[hN];simp);obtain⟨hxX,hx3,hxc,vI⟩:=hx0;have jR:=h.Ma c;rw[hN,KCA] at jR;have pU:x∉rest:=fun hm=>by have:=jR.1 x hm;omega
 have hxN:x∈s.N (S.ck x):=by rw[hxc,hN];simp
 have hxD:¬s.D S x:=fun hd=>hd.2 hxN
 have hne:∀i,s.D S i->i≠x:=fun i hi e=>hxD (by rw[<-e];exact hi)
 have Oy:∀c' y,y∈(s.Cq S T c x rest).N c'↔y∈s.N c'/\¬(c'=c/\y=x):=by
  intro c' y;show y∈(if c'=c then rest else s.N c')↔_;by_cases e:c'=c
  ·
   subst e;rw[KAP rfl,hN];constructor
   ·
    intro hm;exact⟨KBT _ hm,fun hq=>pU (by rw[<-hq.2];exact hm)⟩
   ·
    rintro⟨hm,hq⟩;rcases KBL.1 hm with rfl|hm
    . exact absurd ⟨rfl,rfl⟩ hq
    . exact hm
  ·
   rw[KAQ e];exact⟨fun hm=>⟨hm,fun hq=>e hq.1⟩,fun hm=>hm.1⟩
 have hD:∀i,(s.Cq S T c x rest).D S i↔s.D S i\/i=x:=by
  intro i;unfold BH.D;rw[Oy];show (s.X i/\_)↔_;constructor
  ·
   rintro⟨h1,h2⟩;by_cases e:i=x
   . exact .inr e
   . exact .inl ⟨h1,fun hm=>h2 ⟨hm,fun hq=>e hq.2⟩⟩
  ·
   rintro (⟨h1,h2⟩|rfl)
   . exact⟨h1,fun hm=>h2 hm.1⟩
   . exact⟨hxX,fun hm=>hm.2 ⟨hxc,rfl⟩⟩
 have hτ:∀i,i≠x->(s.Cq S T c x rest).τ i=s.τ i:=fun i hi=>by show (if i=x then T else s.τ i)=_;rw[KAQ hi]
 have gH:(s.Cq S T c x rest).τ x=T:=by show (if x=x then T else s.τ x)=T;rw[KAP rfl]
 have hR:∀p,(s.Cq S T c x rest).R p=if p=S.pl x then s.R p++[x] else s.R p:=fun p=>rfl
 have hxR:∀p,x∉s.R p:=fun p hm=>hxD ((h.rows p x).1 hm).1
 have hRs:∀p,(s.R p).Sublist ((s.Cq S T c x rest).R p):=fun p=>by
  rw[hR];split
  . exact KC0 _ _
  . exact KB4 _
 have vC:∀r,S.rd r=true->r≠x:=fun r hr e=>by rw[e,vI] at hr;cases hr
 have hsub:∀c' p,(s.L S c' p).Sublist ((s.Cq S T c x rest).L S c' p):=by
  intro c' p;by_cases e:c'=c
  ·
   subst e
   have:(s.Cq S T c' x rest).L S c' p=s.L S c' p:=by
    unfold BH.L;rw[hR];show _++(if c'=c' then rest else s.N c').filter _=_;rw[KAP rfl,hN];by_cases hp:p=S.pl x
    ·
     rw[KAP hp,List.filter_cons_of_pos (by simp[hp]),KA2];rfl
    . rw[KAQ hp,List.filter_cons_of_neg (by simp;exact fun e=>hp e.symm)]
   rw[this];exact KB4 _
  ·
   refine KDJ (hRs p) ?_;show List.Sublist _ ((if c'=c then rest else s.N c').filter _);rw[KAQ e];exact KB4 _
 refine { h with FU:=fun i hi=>⟨(h.FU i hi).1,(h.FU i hi).2.1,(h.FU i hi).2.2.1,(h.FU i hi).2.2.2.1,by rw[hτ i (by omega)];exact (h.FU i hi).2.2.2.2.1,(h.FU i hi).2.2.2.2.2⟩,note:=?_,Ma:=?_,pend:=?_,rows:=?_,RM:=?_,Uo:=?_,PE:=?_,tpos:=?_,same:=?_,Qx:=?_,now:=?_,kept:=?_,src:=?_,Mv:=?_,Yb:=?_,iU:=?_ }
 ·
  intro c' y hy;exact h.note c' y ((Oy c' y).1 hy).1
 ·
  intro c';show (if c'=c then rest else s.N c').Pairwise _;split
  . exact jR.2
  . exact h.Ma c'
 ·
  intro c' y k hy hk hyk hc;obtain⟨hy1,hy2⟩:=(Oy c' y).1 hy;rcases h.pend c' y k hy1 hk hyk hc with hp|hp
  . exact .inl hp
  ·
   refine .inr ((Oy c' k).2 ⟨hp,?_⟩);rintro⟨rfl,rfl⟩;rw[hN] at hy1;rcases KBL.1 hy1 with rfl|hm
   . exact hy2 ⟨rfl,rfl⟩
   . have:=jR.1 y hm;omega
 ·
  intro p y;rw[hD,hR];by_cases hp:p=S.pl x
  ·
   rw[KAP hp,KA0,h.rows p y];constructor
   ·
    rintro (⟨a,b⟩|hy)
    . exact⟨.inl a,b⟩
    ·
     have e:y=x:=by simpa using hy
     exact⟨.inr e,by rw[e];exact vI,by rw[e,hp]⟩
   ·
    rintro⟨a|rfl,b⟩
    . exact .inl ⟨a,b⟩
    . exact .inr (by simp)
  ·
   rw[KAQ hp,h.rows p y];constructor
   . rintro⟨a,b⟩;exact⟨.inl a,b⟩
   ·
    rintro⟨a|rfl,b⟩
    . exact⟨a,b⟩
    . exact absurd b.2.symm hp
 ·
  intro p;rw[hR];split
  ·
   rw[KBp];refine⟨h.RM p,by simp,fun y hy w hw e=>?_⟩;have:w=x:=by simpa using hw
   exact hxR p (by rw[<-this,<-e];exact hy)
  . exact h.RM p
 ·
  intro p
  have old:(s.R p).Pairwise (fun y w=>(s.Cq S T c x rest).τ y<=(s.Cq S T c x rest).τ w):=(h.Uo p).imp_of_mem (fun {y w} hy hw hyw=>by
   rw[hτ y (hne y ((h.rows p y).1 hy).1),hτ w (hne w ((h.rows p w).1 hw).1)]
   exact hyw)
  rw[hR];split
  ·
   rw[KCB];refine⟨old,by simp,fun y hy w hw=>?_⟩;have:w=x:=by simpa using hw
   have hy':=((h.rows p y).1 hy).1;rw[this,gH,hτ y (hne y hy')];exact h.PE y hy'
  . exact old
 ·
  intro i hi;rcases (hD i).1 hi with ai|rfl
  . rw[hτ i (hne i ai)];exact h.PE i ai
  . rw[gH];exact KAM _
 ·
  intro i hi h3;rcases (hD i).1 hi with ai|rfl
  . rw[hτ i (hne i ai)];exact h.tpos i ai h3
  . rw[gH];exact hT
 ·
  intro i k hi hk h3 h3' e;rcases (hD i).1 hi with ai|rfl<;>rcases (hD k).1 hk with ak|rfl
  . rw[hτ i (hne i ai),hτ k (hne k ak)] at e;exact h.same i k ai ak h3 h3' e
  . rw[hτ i (hne i ai),gH] at e;rw[hz];exact (h.now i ai h3).1 e
  . rw[hτ k (hne k ak),gH] at e;rw[hz];exact ((h.now k ak h3').1 e.symm).symm
  . rfl
 ·
  intro i k hi hk h3 h3' e;rcases (hD i).1 hi with ai|rfl<;>rcases (hD k).1 hk with ak|rfl
  . rw[hτ i (hne i ai),hτ k (hne k ak)];exact h.Qx i k ai ak h3 h3' e
  . rw[hτ i (hne i ai),gH];exact (h.now i ai h3).2 (by rw[e,hz])
  . rw[hτ k (hne k ak),gH];exact ((h.now k ak h3').2 (by rw[<-e,hz])).symm
  . rfl
 ·
  intro i hi h3;rcases (hD i).1 hi with ai|rfl
  . rw[hτ i (hne i ai)];exact h.now i ai h3
  . rw[gH,hz];simp
 ·
  intro i k hi hk h3 hik hc hcs hx;rcases (hD i).1 hi with ai|rfl<;>rcases (hD k).1 hk with ak|rfl
  . rw[hτ i (hne i ai),hτ k (hne k ak)];exact h.kept i k ai ak h3 hik hc hcs hx
  ·
   rw[hτ i (hne i ai),gH];have h1:=h.PE i ai;have h2:s.τ i≠T:=fun e=>hcs (by rw[hz];exact (h.now i ai h3).1 e)
   omega
  ·
   rcases h.pend _ _ _ hxN ak.1 hik hc.symm with hp|hp
   . rw[hx] at hp;cases hp.2
   . exact absurd (by rw[<-hc];exact hp) ak.2
  . omega
 ·
  intro r hx hrd;rw[hτ r (vC r hrd)];obtain⟨a,b,e,d⟩:=h.src r hx hrd;exact⟨a,b,e,d.imp id (fun d=>⟨(hD _).2 (.inl d.1),by show (s.Cq S T c x rest).τ (s.F r)<=_;rw[hτ _ (hne _ d.1)];exact d.2⟩)⟩
 ·
  intro r w p hx hrd hb;rw[hτ r (vC r hrd)];by_cases hw:w=x
  . rw[hw,gH];exact h.PE r (h.QA hx hrd)
  ·
   rw[hτ w hw];rw[hR] at hb;by_cases hp:p=S.pl x
   ·
    rw[KAP hp] at hb;exact h.Mv r w p hx hrd (KO hb hw)
   ·
    rw[KAQ hp] at hb;exact h.Mv r w p hx hrd hb
 ·
  intro i hi h3;exact (hsub _ _).subset (h.Yb i hi h3)
 ·
  intro i k hi hk h3 hik hc hp;exact (h.iU i k hi hk h3 hik hc hp).imp id (fun hb=>hb.trans (hsub _ _))
structure Ab where
 nx:Nat->Nat
 N:Nat->List Nat
 R:Nat->List Nat
 F:Nat->Nat
def Bj (AA:List (List Dd)):Tq:=
 { n:=(AB AA).length,ck:=fun j=>((AB AA).getD j zE).1,pl:=fun j=>((AB AA).getD j zE).2.2.2.1.toNat,rd:=fun j=>((AB AA).getD j zE).2.2.1,cs:=fun j=>gF ((AB AA).getD j zE),ex:=pY AA (AB AA) }
def Et (AA:List (List Dd))(a:Ab)(j:Nat):Bool:=decide (j<3)||decide (((AB AA).getD j zE).2.1.toNat<a.nx ((AB AA).getD j zE).1.toNat)
def DI (AA:List (List Dd))(a:Ab)(τ:Nat->Nat):BH:=
 { X:=fun j=>j<(AB AA).length/\Et AA a j=true,N:=fun c=>if 0<=c then a.N c.toNat else [],R:=a.R,F:=a.F,τ:=τ }
abbrev JY (AA:List (List Dd))(x:Nat):Int:=((AB AA).getD x zE).2.2.2.2.1
abbrev gJ (AA:List (List Dd))(x:Nat):Int:=((AB AA).getD x zE).2.2.2.1
def Xs (AA:List (List Dd))(x:Nat):Nt:=(gJ AA x,JY AA x,(x:Int))
def BU (a:Ab)(p:Nat):Nat:=(a.R p).getLast?.getD p
structure Yw (AA:List (List Dd))(b:Bd)(a:Ab):Prop where
 AK:b.AK=(List.range AA.length).map (fun c=>(a.nx c:Int))
 AJ:b.AJ=(List.range AA.length).map (fun c=>(a.N c).map (Xs AA))
 rws:b.rws=(List.range 3).map (fun p=>(a.R p).map Int.ofNat)
 AQ:b.AQ=(List.range 3).map (fun p=>(BU a p:Int))
 AM:b.AM=(List.range 3).map (fun p=>JY AA (BU a p))
 fr:b.fr=(AW Af (AB AA)).map (fun r=>if Et AA a r.toNat=true then (a.F r.toNat:Int) else -1)
 sn:b.sn=(AW Af (AB AA)).map (fun r=>if Et AA a r.toNat=true then JY AA (a.F r.toNat) else -1)
theorem Ds {α:Type}(f:Nat->α)(m c:Nat)(y:α):((List.range m).map f).set c y=(List.range m).map (fun i=>if i=c then y else f i):=by
 apply KC4;intro i;rw[KBt];simp only[KAj,KB5,KBN];by_cases hi:i<m
 ·
  rw[KCx hi];by_cases e:c=i
  . subst e;simp[hi]
  . rw[KAQ e];simp[show ¬i=c from fun h=>e h.symm]
 ·
  have:(List.range m)[i]? = none:=KA9 (by simp;omega);rw[this];by_cases e:c=i
  . subst e;simp[hi]
  . rw[KAQ e];rfl
theorem DS {α:Type}(f:Nat->α){m c:Nat}(z:α)(hc:c<m):((List.range m).map f).getD c z=f c:=by
 rw[IT,KBN,KCx hc];rfl
theorem LJ (rs:List Int)(ev v:Int)(g:Int->Int):Hf rs ev v (rs.map g)=rs.map (fun r=>if r=ev then v else g r):=by
 unfold Hf
 induction rs with
 |nil=>rfl
 |cons r rs ih=>rw[KBy,List.zipWith_cons_cons,ih,KBy]
theorem Dj {AA:List (List Dd)}(hb:AL AA=true){j c k i:Nat}(E:Ea AA j c k i):(Bj AA).ck j=(c:Int)/\(Bj AA).pl j=(Aj AA c k).2.1.toNat/\(Bj AA).rd j=Mb (Aj AA c k) i/\(Bj AA).cs j=DE AA c k:=by
 unfold Bj gF;simp only;rw[E.at hb];exact⟨rfl,rfl,rfl,rfl⟩
theorem Ke {AA:List (List Dd)}(hb:AL AA=true){j c k i:Nat}(E:Ea AA j c k i)(a:Ab):Et AA a j=decide (k<a.nx c):=by
 unfold Et;rw[E.at hb];have:=(E.lt hb).1;simp[show ¬j<3 by omega]
def BN (a:Ab)(c:Nat):Ab:={ a with nx:=fun c'=>if c'=c then a.nx c+1 else a.nx c' }
theorem El {AA:List (List Dd)}(hb:AL AA=true)(a:Ab){c:Nat}(hc:c<AA.length)(hk:a.nx c<(AA.getD c []).length){j:Nat}(hj:j<(AB AA).length):
  Et AA (BN a c) j=true↔Et AA a j=true\/∃i,Ea AA j c (a.nx c) i:=by
 by_cases h3:j<3
 ·
  have e1:Et AA a j=true:=by unfold Et;simp[h3]
  have e2:Et AA (BN a c) j=true:=by unfold Et;simp[h3]
  simp[e1,e2]
 ·
  obtain⟨c',k',i',E⟩:=Gy hb (by omega) hj;rw[Ke hb E,Ke hb E,KAN,KAN];show (k'<if c'=c then a.nx c+1 else a.nx c')↔_;by_cases e:c'=c
  ·
   subst e;rw[KAP rfl];constructor
   ·
    intro h;by_cases h2:k'<a.nx c'
    . exact .inl h2
    ·
     obtain rfl:k'=a.nx c':=by omega
     exact .inr ⟨i',E⟩
   ·
    rintro (h|⟨i,E2⟩)
    . omega
    . have:=(E.one E2).2.1;omega
  ·
   rw[KAQ e];refine⟨fun h => .inl h,?_⟩;rintro (h|⟨i,E2⟩)
   . exact h
   . exact absurd (E.one E2).1 e
theorem Cr {AA:List (List Dd)}{c k:Nat}(hc:c<AA.length)(hk:k<(AA.getD c []).length)(h4:(Aj AA c k).1≠4):Ea AA (AZ AA c k) c k 0:=⟨hc,hk,Kz h4,rfl⟩
theorem I3 {AA:List (List Dd)}{c k:Nat}(hc:c<AA.length)(hk:k<(AA.getD c []).length)(h3:(Aj AA c k).1=3):Ea AA (AZ AA c k+1) c k 1:=⟨hc,hk,by unfold Fp;rw[KAQ (by omega),KAP h3];omega,rfl⟩
theorem Mg {AA:List (List Dd)}{c k j i:Nat}(E:Ea AA j c k i)(h3:(Aj AA c k).1≠3):j=AZ AA c k/\i=0:=by
 have h1:=E.hi;have h2:=E.hj;unfold Fp at h1;rw[KAQ E.kind,KAQ h3] at h1;omega
theorem FW {AA:List (List Dd)}(hb:AL AA=true)(a:Ab)(τ:Nat->Nat){c:Nat}(hc:c<AA.length)(hk:a.nx c<(AA.getD c []).length)(h4:(Aj AA c (a.nx c)).1≠4):sK (Bj AA) (DI AA a τ) (AZ AA c (a.nx c)):=by
 have E:=Cr hc hk h4;have hl:=E.lt hb;refine⟨hl.1,hl.2,?_,?_,?_⟩
 ·
  rintro⟨_,h⟩;rw[Ke hb E,KAN] at h;omega
 ·
  intro i h3 hi hck;have hin:i<(AB AA).length:=by omega
  obtain⟨c',k',i',E'⟩:=Gy hb h3 hin;rw[(Dj hb E').1,(Dj hb E).1] at hck;obtain rfl:c'=c:=by omega
  refine⟨hin,?_⟩;rw[Ke hb E',KAN];rcases (E'.ord E).1 hi with h|⟨_,h|⟨_,h⟩⟩<;>omega
 ·
  rintro i ⟨hin,hX⟩ h3 hck;obtain⟨c',k',i',E'⟩:=Gy hb h3 hin;rw[(Dj hb E').1,(Dj hb E).1] at hck;obtain rfl:c'=c:=by omega
  rw[Ke hb E',KAN] at hX;exact (E'.ord E).2 (.inr ⟨rfl,.inl hX⟩)
theorem Jp {AA:List (List Dd)}(hb:AL AA=true){c k:Nat}(hc:c<AA.length)(hk:k<(AA.getD c []).length)(h4:(Aj AA c k).1≠4):LR (AB AA) c k=(AZ AA c k:Int):=by
 have E:=Cr hc hk h4;have hl:=E.lt hb
 have hx:(List.range (AB AA).length).find? (fun i=>decide (3<=i)&&(((AB AA).getD i zE).1==(c:Int))&&(((AB AA).getD i zE).2.1==(k:Int)))=some (AZ AA c k):=by
  rw[List.find?_range_eq_some];refine⟨?_,by simpa using hl.2,?_⟩
  ·
   rw[E.at hb];simp[hl.1]
  ·
   intro j hj;by_cases h3:3<=j
   ·
    obtain⟨c',k',i',E'⟩:=Gy hb h3 (by omega);rw[E'.at hb];simp only[h3,decide_true,KBi,Bool.not_eq_true',Bool.and_eq_false_iff,KCy,ne_eq];rcases (E'.ord E).1 hj with h|⟨_,h|⟨_,h⟩⟩
    . exact .inl (by omega)
    . exact .inr (by omega)
    . omega
   . simp[h3]
 unfold LR;rw[hx]
theorem Mj {l:List Int}{n:Int}(h:Op l n=true):n∈l:=by
 unfold Op at h;rw[KCf] at h;obtain⟨x,hx,e⟩:=h;rw[KCp] at e;rw[<-e];exact hx
theorem Kk (f:Ev->Bool)(l:List Ev):∀(k:Nat) (x:Int),x∈Bh f l k->f (l.getD x.toNat zE)=true
 | 0,x,h=>by simp[Bh] at h
 |k+1,x,h=>by
  rw[Bh] at h;split at h
  ·
   rename_i hf;rcases KA0.1 h with h|h
   . exact Kk f l k x h
   ·
    simp only[KBL,KBo,KCl] at h;rw[h,KAV];exact hf
  . exact Kk f l k x h
structure MI (AA:List (List Dd))(b:Bd)(a:Ab)(τ:Nat->Nat)(T:Nat)(z:Int):Prop where
 B0:Yw AA b a
 inv:GG (Bj AA) (DI AA a τ) T z
 Vs:∀c,c<AA.length->a.nx c<=(AA.getD c []).length
 nt:∀c x,x∈a.N c->c<AA.length/\∃k,Ea AA x c k 0/\k<a.nx c/\(Aj AA c k).1=2/\BP AA c k=0/\∀k',k<k'->k'<a.nx c->(Aj AA c k').1≠4/\FK (Aj AA c k')=false
theorem JX (AA:List (List Dd))(a:Ab)(τ:Nat->Nat)(c:Nat):(DI AA a τ).N (c:Int)=a.N c:=by
 show (if 0<=(c:Int) then a.N (c:Int).toNat else [])=_;rw[KAP (by omega),KAV]
theorem Ed {AA:List (List Dd)}{b:Bd}{a:Ab}(h:Yw AA b a){c:Nat}(hc:c<AA.length):b.AK.getD c 0=(a.nx c:Int)/\Am b c=a.nx c:=by
 have e:b.AK.getD c 0=(a.nx c:Int):=by rw[h.AK,DS _ _ hc]
 exact⟨e,by unfold Am;rw[e,KAV]⟩
theorem Fo {AA:List (List Dd)}{b:Bd}{a:Ab}(h:Yw AA b a){c:Nat}(hc:c<AA.length):b.AJ.getD c []=(a.N c).map (Xs AA):=by rw[h.AJ,DS _ _ hc]
theorem Ll {AA:List (List Dd)}{b:Bd}{a:Ab}(h:Yw AA b a){p:Nat}(hp:p<3):b.AQ.getD p 0=(BU a p:Int)/\b.AM.getD p 0=JY AA (BU a p)/\b.rws.getD p []=(a.R p).map Int.ofNat:=by
 refine⟨by rw[h.AQ,DS _ _ hp],by rw[h.AM,DS _ _ hp],by rw[h.rws,DS _ _ hp]⟩
theorem Pk {AA:List (List Dd)}{a:Ab}{τ:Nat->Nat}{T:Nat}{z:Int}(h:GG (Bj AA) (DI AA a τ) T z){p:Nat}(hp:p<3):(a.R p).getLast? = some (BU a p):=by
 obtain⟨h1,h2,h3,h4,_⟩:=h.FU p hp;have hm:p∈a.R p:=(h.rows p p).2 ⟨⟨h1,fun hn=>by have:=(h.note _ _ hn).2.1;omega⟩,h2,h3⟩;unfold BU
 cases hl:(a.R p).getLast? with
 |none=>rw[KCu.1 hl] at hm;cases hm
 |some y=>rfl
theorem JM {AA:List (List Dd)}(hb:AL AA=true){c k:Nat}(hc:c<AA.length)(hk:k<(AA.getD c []).length):∃p:Nat,p<3/\(Aj AA c k).2.1=(p:Int):=by
 have hd:=Cl (CV hb hc k hk);obtain⟨p,hp⟩:=KAn hd.1;exact⟨p,by have:=hd.2.1;omega,hp⟩
theorem qN {AA:List (List Dd)}(hb:AL AA=true){b:Bd}{a:Ab}{τ:Nat->Nat}{T:Nat}{z:Int}(M:MI AA b a τ T z){c p:Nat}(hc:c<AA.length)(hp:p<3):
  ∃f:Nat,((DI AA a τ).L (Bj AA) (c:Int) p).getLast? = some f/\C7 b c p=(JY AA f,(f:Int)):=by
 have hl:=Pk M.inv hp;obtain⟨e1,e2,_⟩:=Ll M.B0 hp
 have hfil:((a.N c).map (Xs AA)).reverse.find? (fun x=>x.1==(p:Int))=(((a.N c).filter (fun x=>(Bj AA).pl x==p)).getLast?).map (Xs AA):=by
  rw[<-List.head?_filter,List.filter_reverse,List.head?_reverse,List.filter_map,List.getLast?_map]
  have:(a.N c).filter ((fun x:Nt=>x.1==(p:Int)) ∘ Xs AA)=(a.N c).filter (fun x=>(Bj AA).pl x==p):=by
   refine List.filter_congr (fun x hx=>?_);obtain⟨_,k,E,_⟩:=M.nt c x hx;obtain⟨q,_,hq⟩:=JM hb E.hc E.hk;show (gJ AA x==(p:Int))=((Bj AA).pl x==p);rw[(Dj hb E).2.1];unfold gJ;rw[E.at hb];show ((Aj AA c k).2.1==(p:Int))=_;rw[hq,KAV];by_cases e:q=p
   . subst e;simp
   ·
    have:¬((q:Int)=(p:Int)):=by omega
    rw[KCy.2 this,KCy.2 e]
  rw[this]
 unfold C7;rw[Fo M.B0 hc,hfil];unfold BH.L;rw[JX];show ∃f,(a.R p++(a.N c).filter (fun x=>(Bj AA).pl x==p)).getLast? = some f/\_;rw[List.getLast?_append]
 cases hq:((a.N c).filter (fun x=>(Bj AA).pl x==p)).getLast? with
 |none=>
  refine⟨BU a p,by rw[hl];rfl,?_⟩;simp only[Option.map_none];rw[e1,e2]
 |some y=>
  exact⟨y,rfl,rfl⟩
theorem WF {AA:List (List Dd)}(hb:AL AA=true)(a:Ab)(τ:Nat->Nat){c:Nat}(hc:c<AA.length)(hk:a.nx c<(AA.getD c []).length)(h4:(Aj AA c (a.nx c)).1=4):DI AA (BN a c) τ=DI AA a τ:=by
 unfold DI
 congr 1
 funext j;apply propext;constructor
 ·
  rintro⟨h1,h2⟩;refine⟨h1,?_⟩;rcases (El hb a hc hk h1).1 h2 with h|⟨i,E⟩
  . exact h
  . exact absurd h4 E.kind
 ·
  rintro⟨h1,h2⟩;exact⟨h1,(El hb a hc hk h1).2 (.inl h2)⟩
theorem Lv {AA:List (List Dd)}(hb:AL AA=true)(a:Ab){c:Nat}(hc:c<AA.length)(hk:a.nx c<(AA.getD c []).length)(h4:(Aj AA c (a.nx c)).1≠4)(h3:(Aj AA c (a.nx c)).1≠3)(j:Nat):
  (j<(AB AA).length/\Et AA (BN a c) j=true)↔(j<(AB AA).length/\Et AA a j=true)\/j=AZ AA c (a.nx c):=by
 constructor
 ·
  rintro⟨h1,h2⟩;rcases (El hb a hc hk h1).1 h2 with h|⟨i,E⟩
  . exact .inl ⟨h1,h⟩
  . exact .inr (Mg E h3).1
 ·
  rintro (⟨h1,h2⟩|rfl)
  . exact⟨h1,(El hb a hc hk h1).2 (.inl h2)⟩
  ·
   have E:=Cr hc hk h4;exact⟨(E.lt hb).2,(El hb a hc hk (E.lt hb).2).2 (.inr ⟨0,E⟩)⟩
theorem Yy {AA:List (List Dd)}(hb:AL AA=true)(a:Ab){c:Nat}(hc:c<AA.length)(hk:a.nx c<(AA.getD c []).length)(h3:(Aj AA c (a.nx c)).1=3)(j:Nat):
  (j<(AB AA).length/\Et AA (BN a c) j=true)↔((j<(AB AA).length/\Et AA a j=true)\/j=AZ AA c (a.nx c))\/j=AZ AA c (a.nx c)+1:=by
 have E1:=Cr hc hk (by omega:(Aj AA c (a.nx c)).1≠4);have E2:=I3 hc hk h3;constructor
 ·
  rintro⟨h1,h2⟩;rcases (El hb a hc hk h1).1 h2 with h|⟨i,E⟩
  . exact .inl (.inl ⟨h1,h⟩)
  ·
   have hi:=E.hi;have hj:=E.hj;unfold Fp at hi;rw[KAQ (by omega),KAP h3] at hi;rcases (by omega:i=0\/i=1) with rfl|rfl
   . exact .inl (.inr hj)
   . exact .inr hj
 ·
  rintro ((⟨h1,h2⟩|rfl)|rfl)
  . exact⟨h1,(El hb a hc hk h1).2 (.inl h2)⟩
  . exact⟨(E1.lt hb).2,(El hb a hc hk (E1.lt hb).2).2 (.inr ⟨0,E1⟩)⟩
  . exact⟨(E2.lt hb).2,(El hb a hc hk (E2.lt hb).2).2 (.inr ⟨1,E2⟩)⟩
theorem Gp {es:List Ev}(hx:es.length<=12){r:Int}(h:r∈AW Af es):∃j:Nat,r=(j:Int)/\j<es.length/\(es.getD j zE).2.2.1=true:=by
 unfold AW at h;rw[KAP hx] at h;have h1:=JC _ _ _ _ h;have h2:=Kk _ _ _ _ h;obtain⟨j,hj⟩:=KAn h1.1;rw[hj,KAV] at h2;exact⟨j,hj,by omega,h2⟩
theorem Kt {l:List Int}{n:Int}(h:n∈l):Op l n=true:=by
 unfold Op;rw[KCf];exact⟨n,h,by simp⟩
theorem Cx (AA:List (List Dd)):(AB AA).length<=12:=by
 unfold AB;split
 ·
  rename_i hb;exact (NJ hb).1
 . simp
theorem JN {d:Dd}(h:d.1=2)(i:Nat):Mb d i=false:=by unfold Mb;simp[h]
theorem Lo {d:Dd}(h:d.1≠2):Mb d 0=true:=by unfold Mb;simp[h]
theorem Jw (d:Dd):Mb d 1=false:=by unfold Mb;simp
theorem LG {AA:List (List Dd)}{b:Bd}{a:Ab}(h:Yw AA b a){c:Nat}(hc:c<AA.length):b.AK.set c (b.AK.getD c 0+1)=(List.range AA.length).map (fun c'=>((BN a c).nx c':Int)):=by
 rw[(Ed h hc).1,h.AK,Ds];refine KAh (fun i _=>?_);show _=((if i=c then a.nx c+1 else a.nx i:Nat):Int);split
 . rename_i e;subst e;omega
 . rfl
theorem DG (a:Ab)(c c':Nat):(BN a c).nx c'=if c'=c then a.nx c+1 else a.nx c':=rfl
theorem Ic {AA:List (List Dd)}{a:Ab}(h:∀c,c<AA.length->a.nx c<=(AA.getD c []).length){c:Nat}(hk:a.nx c<(AA.getD c []).length):∀c',c'<AA.length->(BN a c).nx c'<=(AA.getD c' []).length:=by
 intro c' hc';rw[DG];split
 . rename_i e;subst e;omega
 . exact h c' hc'
theorem Kx {AA:List (List Dd)}{b:Bd}{a:Ab}{τ:Nat->Nat}{T:Nat}{z:Int}(M:MI AA b a τ T z){c:Nat}(hp:a.N c≠[]->(Aj AA c (a.nx c)).1≠4/\FK (Aj AA c (a.nx c))=false):
  ∀c' x,x∈a.N c'->c'<AA.length/\∃k,Ea AA x c' k 0/\k<(BN a c).nx c'/\(Aj AA c' k).1=2/\BP AA c' k=0/\∀k',k<k'->k'<(BN a c).nx c'->(Aj AA c' k').1≠4/\FK (Aj AA c' k')=false:=by
 intro c' x hx;obtain⟨h1,k,E,h2,h3,h4,h5⟩:=M.nt c' x hx;refine⟨h1,k,E,?_,h3,h4,fun k' hk hk'=>?_⟩
 ·
  rw[DG];split
  . rename_i e;subst e;omega
  . exact h2
 ·
  rw[DG] at hk';split at hk'
  ·
   rename_i e;subst e;by_cases e2:k'=a.nx c'
   ·
    subst e2;exact hp (fun e=>by rw[e] at hx;cases hx)
   . exact h5 k' hk (by omega)
  . exact h5 k' hk hk'
theorem Pz {AA:List (List Dd)}(hb:AL AA=true){b:Bd}{a:Ab}{τ:Nat->Nat}{T:Nat}{z:Int}(M:MI AA b a τ T z){c:Nat}(hc:c<AA.length)(hk:a.nx c<(AA.getD c []).length)(h4:(Aj AA c (a.nx c)).1=4)(hN:a.N c=[]):
  MI AA (Ah AA (AB AA) b c) (BN a c) τ T z:=by
 have hd:BL AA (AB AA) b c (Am b c)=b:=by
  rw[(Ed M.B0 hc).2];unfold BL;rw[KAQ (by omega),KAQ (by omega),KAQ (by omega),KAQ (by omega)]
 have hex:∀j,j<(AB AA).length->Et AA (BN a c) j=Et AA a j:=by
  intro j hj;have:=El hb a hc hk hj
  cases h1:Et AA a j with
  |true=>exact this.2 (.inl h1)
  |false=>
   cases h2:Et AA (BN a c) j with
   |false=>rfl
   |true=>
    rcases this.1 h2 with h|⟨i,E⟩
    . rw[h1] at h;cases h
    . exact absurd h4 E.kind
 have hx:=Cx AA;unfold Ah;rw[hd];refine⟨⟨LG M.B0 hc,M.B0.AJ,M.B0.rws,M.B0.AQ,M.B0.AM,?_,?_⟩,by rw[WF hb a τ hc hk h4];exact M.inv,Ic M.Vs hk,Kx M (fun h=>absurd hN h)⟩
 ·
  show b.fr=_;rw[M.B0.fr];refine KAh (fun r hr=>?_);obtain⟨j,rfl,hj,_⟩:=Gp hx hr;rw[KAV,hex j hj];rfl
 ·
  show b.sn=_;rw[M.B0.sn];refine KAh (fun r hr=>?_);obtain⟨j,rfl,hj,_⟩:=Gp hx hr;rw[KAV,hex j hj];rfl
theorem jb {AA:List (List Dd)}(hb:AL AA=true){b:Bd}{a:Ab}{τ:Nat->Nat}{T:Nat}{z:Int}(M:MI AA b a τ T z){c x:Nat}(hc:c<AA.length)(hk:a.nx c<(AA.getD c []).length)(h1:(Aj AA c (a.nx c)).1=1)(hg:BP AA c (a.nx c)=0)(hx:x∈a.N c):
  pY AA (AB AA) x (AZ AA c (a.nx c))=true:=by
 obtain⟨_,k,E,h2,h3,h4,h5⟩:=M.nt c x hx;have Ej:=Cr hc hk (by omega:(Aj AA c (a.nx c)).1≠4);have hlt:x<AZ AA c (a.nx c):=(E.ord Ej).2 (.inr ⟨rfl,.inl h2⟩);have hx3:=(E.lt hb).1
 have hcls:DE AA c k≠DE AA c (a.nx c):=by
  intro e;rcases ((Iz (CV hb hc) (CV hb hc) E.hk hk E.kind Ej.kind).1 e).2 with h|h
  . omega
  . exact h.1 h4
 have hb1:oO (AB AA) x (AZ AA c (a.nx c))=true:=by
  unfold oO;rw[E.at hb,Ej.at hb];simp[hlt,hx3]
 have hw1:FK (Aj AA c k)=false:=by
  unfold FK;rw[h3,show (Aj AA c k).2.2.2=0 from h4];rfl
 have hw2:FK (Aj AA c (a.nx c))=false:=by
  unfold FK;rw[h1,show (Aj AA c (a.nx c)).2.2.2=0 from hg];rfl
 have hwt:Rf (AA.getD c []) k (a.nx c)=false:=YV (fun j hj1 hj2=>(h5 j hj1 hj2).1);unfold pY;rw[hb1];unfold vO;have e1:qx AA ((AB AA).getD x zE)=Aj AA c k:=by unfold qx;rw[E.at hb];simp only[KAV]
 have e2:qx AA ((AB AA).getD (AZ AA c (a.nx c)) zE)=Aj AA c (a.nx c):=by unfold qx;rw[Ej.at hb];simp only[KAV]
 rw[e1,e2,hw1,hw2];unfold Af gF;rw[E.at hb,Ej.at hb];simp only[KAV];rw[hwt];have r1:Mb (Aj AA c k) 0=false:=JN h3 0;have r2:Mb (Aj AA c (a.nx c)) 0=true:=Lo (by omega);rw[r1,r2];simp[hx3,hcls]
abbrev dQ (AA:List (List Dd))(a:Ab)(c f:Nat):Ab:={ BN a c with F:=fun i=>if i=AZ AA c (a.nx c) then f else a.F i }
theorem MJ {AA:List (List Dd)}(hb:AL AA=true){b:Bd}{a:Ab}{τ:Nat->Nat}{T:Nat}{z:Int}(M:MI AA b a τ T z)(hT:1<=T){c:Nat}(hc:c<AA.length)(hk:a.nx c<(AA.getD c []).length)(h1:(Aj AA c (a.nx c)).1=1)
  (hz:DE AA c (a.nx c)=z) (hcan:BP AA c (a.nx c)=0\/a.N c=[]):
  ∃f,((DI AA a τ).L (Bj AA) (c:Int) (Aj AA c (a.nx c)).2.1.toNat).getLast? = some f/\MI AA (Ah AA (AB AA) b c) (dQ AA a c f) (fun i=>if i=AZ AA c (a.nx c) then T else τ i) T z:=by
 have h4:(Aj AA c (a.nx c)).1≠4:=by omega
 have h3:(Aj AA c (a.nx c)).1≠3:=by omega
 have E:=Cr hc hk h4;obtain⟨s1,s2,s3,s4⟩:=Dj hb E;obtain⟨p,hp,ep⟩:=JM hb hc hk;obtain⟨f,hf,er⟩:=qN hb M hc hp;have hN:=FW hb a τ hc hk h4;have hrd:(Bj AA).rd (AZ AA c (a.nx c))=true:=by rw[s3];exact Lo (by omega)
 have hpl:(Bj AA).pl (AZ AA c (a.nx c))=p:=by rw[s2,ep,KAV]
 have I:=M.inv.Di hT hN hrd (by rw[s4];exact hz) (fun x hx=>by
  rw[s1,JX] at hx;rcases hcan with hg|hg
  . exact jb hb M hc hk h1 hg hx
  . rw[hg] at hx;cases hx) (f:=f) (by rw[s1,hpl];exact hf)
 have hx:=Cx AA
 have hd:BL AA (AB AA) b c (Am b c)=Fz (AW Af (AB AA)) b (AZ AA c (a.nx c):Int) (JY AA f) (f:Int):=by
  rw[(Ed M.B0 hc).2];unfold BL;rw[KAP h1,Jp hb hc hk h4,ep,KAV,er]
 refine⟨f,by rw[ep,KAV];exact hf,?_⟩
 have hst:DI AA { BN a c with F:=fun i=>if i=AZ AA c (a.nx c) then f else a.F i } (fun i=>if i=AZ AA c (a.nx c) then T else τ i)=(DI AA a τ).Di T (AZ AA c (a.nx c)) f:=by
  unfold DI BH.Di
  congr 1
  funext j;apply propext;exact Lv hb a hc hk h4 h3 j
 have Zz:∀j,j<(AB AA).length->Et AA { BN a c with F:=fun i=>if i=AZ AA c (a.nx c) then f else a.F i } j=(decide (j=AZ AA c (a.nx c))||Et AA a j):=by
  intro j hj;show Et AA (BN a c) j=_;have:=Lv hb a hc hk h4 h3 j
  cases q:Et AA (BN a c) j with
  |true=>
   rcases this.1 ⟨hj,q⟩ with h|h
   . rw[h.2];simp
   . simp[h]
  |false=>
   have n1:¬j=AZ AA c (a.nx c):=fun e=>by have:=(this.2 (.inr e)).2;rw[q] at this;cases this
   have n2:Et AA a j=false:=by
    cases q2:Et AA a j with
    |false=>rfl
    |true=>have:=(this.2 (.inl ⟨hj,q2⟩)).2;rw[q] at this;cases this
   simp[n1,n2]
 unfold Ah;rw[hd];refine⟨⟨LG M.B0 hc,M.B0.AJ,M.B0.rws,M.B0.AQ,M.B0.AM,?_,?_⟩,by rw[hst];exact I,Ic M.Vs hk,Kx M (fun h=>⟨h4,?_⟩)⟩
 ·
  show Hf (AW Af (AB AA)) _ _ b.fr=_;rw[M.B0.fr,LJ];refine KAh (fun r hr=>?_);obtain⟨j,rfl,hj,_⟩:=Gp hx hr;rw[KAV,Zz j hj];show _=if _ then ((if j=AZ AA c (a.nx c) then f else a.F j:Nat):Int) else -1
  by_cases e:j=AZ AA c (a.nx c)
  . simp[e]
  . simp[e,show ¬((j:Int)=(AZ AA c (a.nx c):Int)) by omega]
 ·
  show Hf (AW Af (AB AA)) _ _ b.sn=_;rw[M.B0.sn,LJ];refine KAh (fun r hr=>?_);obtain⟨j,rfl,hj,_⟩:=Gp hx hr;rw[KAV,Zz j hj];show _=if _ then JY AA (if j=AZ AA c (a.nx c) then f else a.F j) else -1
  by_cases e:j=AZ AA c (a.nx c)
  . simp[e]
  . simp[e,show ¬((j:Int)=(AZ AA c (a.nx c):Int)) by omega]
 ·
  rcases hcan with hg|hg
  ·
   unfold FK;rw[h1,show (Aj AA c (a.nx c)).2.2.2=0 from hg];rfl
  . exact absurd hg h
theorem Xw {AA:List (List Dd)}(hb:AL AA=true){b:Bd}{a:Ab}{τ:Nat->Nat}{T:Nat}{z:Int}(M:MI AA b a τ T z)(hT:1<=T){c:Nat}(hc:c<AA.length)(hk:a.nx c<(AA.getD c []).length)(h1:(Aj AA c (a.nx c)).1=1)
  (hz:DE AA c (a.nx c)=z) (hcan:BP AA c (a.nx c)=0\/a.N c=[]):
  ∃f τ',((DI AA a τ).L (Bj AA) (c:Int) (Aj AA c (a.nx c)).2.1.toNat).getLast? = some f/\MI AA (Ah AA (AB AA) b c) (dQ AA a c f) τ' T z:=by
 obtain⟨f,h,M'⟩:=MJ hb M hT hc hk h1 hz hcan;exact⟨f,_,h,M'⟩
theorem Tc {AA:List (List Dd)}(hb:AL AA=true){j c k i:Nat}(E:Ea AA j c k i):gJ AA j=(Aj AA c k).2.1/\JY AA j=YU (Aj AA c k) i:=by
 unfold gJ JY;rw[E.at hb];exact⟨rfl,rfl⟩
theorem fP {d:Dd}{i:Nat}(h:Mb d i=false):YU d i=d.2.2.1:=by unfold YU;rw[h];rfl
theorem iw {AA:List (List Dd)}(hb:AL AA=true)(a:Ab){c:Nat}(hc:c<AA.length)(hk:a.nx c<(AA.getD c []).length)(h2:(Aj AA c (a.nx c)).1=2){j:Nat}(hj:j<(AB AA).length)(hr:((AB AA).getD j zE).2.2.1=true):
  Et AA (BN a c) j=Et AA a j:=by
 have this:=Lv hb a hc hk (by omega) (by omega) j
 have hne:j≠AZ AA c (a.nx c):=by
  intro e;have E:=Cr hc hk (by omega:(Aj AA c (a.nx c)).1≠4);rw[e,E.at hb] at hr;rw[show Mb (Aj AA c (a.nx c)) 0=false from JN h2 0] at hr;cases hr
 cases q2:Et AA a j with
 |true=>exact (this.2 (.inl ⟨hj,q2⟩)).2
 |false=>
  cases q:Et AA (BN a c) j with
  |false=>rfl
  |true=>
   rcases this.1 ⟨hj,q⟩ with h|h
   . rw[q2] at h;cases h.2
   . exact absurd h hne
theorem fT {d:Dd}(h:d.1≠3)(hg:d.2.2.2=0):FK d=false:=by
 unfold FK;rw[KCy.2 h,hg];rfl
abbrev Sv (AA:List (List Dd))(a:Ab)(c:Nat):Ab:={ BN a c with N:=fun c'=>if c'=c then a.N c'++[AZ AA c (a.nx c)] else a.N c' }
abbrev pX (AA:List (List Dd))(a:Ab)(c p:Nat):Ab:={ BN a c with R:=fun q=>if q=p then a.R q++[AZ AA c (a.nx c)] else a.R q }
theorem Py {AA:List (List Dd)}(hb:AL AA=true){b:Bd}{a:Ab}{τ:Nat->Nat}{T:Nat}{z:Int}(M:MI AA b a τ T z){c:Nat}(hc:c<AA.length)(hk:a.nx c<(AA.getD c []).length)(h2:(Aj AA c (a.nx c)).1=2)(hg:BP AA c (a.nx c)=0):
  MI AA (Ah AA (AB AA) b c) (Sv AA a c) τ T z:=by
 have h4:(Aj AA c (a.nx c)).1≠4:=by omega
 have h3:(Aj AA c (a.nx c)).1≠3:=by omega
 have E:=Cr hc hk h4;obtain⟨s1,s2,s3,s4⟩:=Dj hb E;have hN:=FW hb a τ hc hk h4;have hrd:(Bj AA).rd (AZ AA c (a.nx c))=false:=by rw[s3];exact JN h2 0
 have I:=M.inv.Fh hN hrd;have hx:=Cx AA
 have hd:BL AA (AB AA) b c (Am b c)={ b with AJ:=b.AJ.set c (b.AJ.getD c []++[((Aj AA c (a.nx c)).2.1,(Aj AA c (a.nx c)).2.2.1,(AZ AA c (a.nx c):Int))]) }:=by
  rw[(Ed M.B0 hc).2];unfold BL;rw[KAQ (by omega),KAQ (by omega),KAQ (by omega),KAP h2,Jp hb hc hk h4]
 have hst:DI AA { BN a c with N:=fun c'=>if c'=c then a.N c'++[AZ AA c (a.nx c)] else a.N c' } τ=(DI AA a τ).Fh (Bj AA) (AZ AA c (a.nx c)):=by
  unfold DI BH.Fh
  congr 1
  ·
   funext j;apply propext;exact Lv hb a hc hk h4 h3 j
  ·
   funext c';rw[s1];show (if 0<=c' then (if c'.toNat=c then a.N c'.toNat++[AZ AA c (a.nx c)] else a.N c'.toNat) else [])=if c'=(c:Int) then (if 0<=c' then a.N c'.toNat else [])++[AZ AA c (a.nx c)] else (if 0<=c' then a.N c'.toNat else [])
   by_cases h0:0<=c'
   ·
    rw[KAP h0];by_cases e:c'=(c:Int)
    . subst e;simp
    . rw[KAQ (by omega),KAQ e,KAP h0]
   . rw[KAQ h0,KAQ (by omega),KAQ h0]
 unfold Ah;rw[hd];refine⟨⟨LG M.B0 hc,?_,M.B0.rws,M.B0.AQ,M.B0.AM,?_,?_⟩,by rw[hst];exact I,Ic M.Vs hk,?_⟩
 ·
  show b.AJ.set c _=_;rw[Fo M.B0 hc,M.B0.AJ,Ds];refine KAh (fun i _=>?_);show _=(if i=c then a.N i++[AZ AA c (a.nx c)] else a.N i).map (Xs AA);split
  ·
   rename_i e;subst e;rw[KBB]
   congr 1
   show _=[Xs AA _];unfold Xs;rw[(Tc hb E).1,(Tc hb E).2,fP (JN h2 0)]
  . rfl
 ·
  show b.fr=_;rw[M.B0.fr];refine KAh (fun r hr=>?_);obtain⟨j,rfl,hj,hjr⟩:=Gp hx hr;rw[KAV];show _=if Et AA (BN a c) j=true then _ else _
  rw[iw hb a hc hk h2 hj hjr];rfl
 ·
  show b.sn=_;rw[M.B0.sn];refine KAh (fun r hr=>?_);obtain⟨j,rfl,hj,hjr⟩:=Gp hx hr;rw[KAV];show _=if Et AA (BN a c) j=true then _ else _
  rw[iw hb a hc hk h2 hj hjr];rfl
 ·
  intro c' x hxm;have old:=Kx M (c:=c) (fun _=>⟨h4,fT h3 hg⟩);change x∈(if c'=c then a.N c'++[AZ AA c (a.nx c)] else a.N c') at hxm;by_cases e:c'=c
  ·
   rw[KAP e,KA0] at hxm;rcases hxm with hxm|hxm
   . exact old c' x hxm
   ·
    have ex:x=AZ AA c (a.nx c):=by simpa using hxm
    subst e;refine⟨hc,a.nx c',by rw[ex];exact E,?_,h2,hg,fun k' h1 h2'=>?_⟩
    ·
     show a.nx c'<(BN a c').nx c';rw[DG,KAP rfl];omega
    ·
     change k'<(BN a c').nx c' at h2';rw[DG,KAP rfl] at h2';omega
  ·
   rw[KAQ e] at hxm;exact old c' x hxm
theorem Nx {AA:List (List Dd)}(hb:AL AA=true){b:Bd}{a:Ab}{τ:Nat->Nat}{T:Nat}{z:Int}(M:MI AA b a τ T z)(hT:1<=T){c:Nat}(hc:c<AA.length)(hk:a.nx c<(AA.getD c []).length)(h2:(Aj AA c (a.nx c)).1=2)(hg:BP AA c (a.nx c)≠0)
  (hz:DE AA c (a.nx c)=z) (hN0:a.N c=[]):
  MI AA (Ah AA (AB AA) b c) (pX AA a c (Aj AA c (a.nx c)).2.1.toNat) (fun i=>if i=AZ AA c (a.nx c) then T else τ i) T z:=by
 have h4:(Aj AA c (a.nx c)).1≠4:=by omega
 have h3:(Aj AA c (a.nx c)).1≠3:=by omega
 have E:=Cr hc hk h4;obtain⟨s1,s2,s3,s4⟩:=Dj hb E;obtain⟨p,hp,ep⟩:=JM hb hc hk;have hN:=FW hb a τ hc hk h4;have hrd:(Bj AA).rd (AZ AA c (a.nx c))=false:=by rw[s3];exact JN h2 0
 have hpl:(Bj AA).pl (AZ AA c (a.nx c))=p:=by rw[s2,ep,KAV]
 have I:=M.inv.EH hT hN hrd (by rw[s4];exact hz) (by rw[s1,JX];exact hN0);have hx:=Cx AA;have hg0:0<BP AA c (a.nx c):=by have:=(Zn (CV hb hc) hk).1;omega
 have hd:BL AA (AB AA) b c (Am b c)=EJ b p (Aj AA c (a.nx c)).2.2.1 (AZ AA c (a.nx c):Int):=by
  rw[(Ed M.B0 hc).2];unfold BL;rw[KAQ (by omega),KAQ (by omega),KAP ⟨h2,hg0⟩,Jp hb hc hk h4,ep,KAV]
 rw[ep,KAV]
 have hst:DI AA { BN a c with R:=fun q=>if q=p then a.R q++[AZ AA c (a.nx c)] else a.R q } (fun i=>if i=AZ AA c (a.nx c) then T else τ i)=(DI AA a τ).EH (Bj AA) T (AZ AA c (a.nx c)):=by
  unfold DI BH.EH;rw[hpl]
  congr 1
  funext j;apply propext;exact Lv hb a hc hk h4 h3 j
 have hla:∀q,BU { BN a c with R:=fun q=>if q=p then a.R q++[AZ AA c (a.nx c)] else a.R q } q=if q=p then AZ AA c (a.nx c) else BU a q:=by
  intro q;unfold BU;show ((if q=p then a.R q++[AZ AA c (a.nx c)] else a.R q).getLast?).getD q=_;split
  . simp
  . rfl
 unfold Ah;rw[hd];refine⟨⟨LG M.B0 hc,M.B0.AJ,?_,?_,?_,?_,?_⟩,by rw[hst];exact I,Ic M.Vs hk,Kx M (fun h=>absurd hN0 h)⟩
 ·
  show b.rws.set p (b.rws.getD p []++[(AZ AA c (a.nx c):Int)])=_;rw[(Ll M.B0 hp).2.2,M.B0.rws,Ds];refine KAh (fun q _=>?_);show _=(if q=p then a.R q++[AZ AA c (a.nx c)] else a.R q).map Int.ofNat;split
  . rename_i e;subst e;rw[KBB];rfl
  . rfl
 ·
  show b.AQ.set p (AZ AA c (a.nx c):Int)=_;rw[M.B0.AQ,Ds];refine KAh (fun q _=>?_);rw[hla];split<;>rfl
 ·
  show b.AM.set p (Aj AA c (a.nx c)).2.2.1=_;rw[M.B0.AM,Ds];refine KAh (fun q _=>?_);rw[hla];split
  . rw[(Tc hb E).2,fP (JN h2 0)]
  . rfl
 ·
  show b.fr=_;rw[M.B0.fr];refine KAh (fun r hr=>?_);obtain⟨j,rfl,hj,hjr⟩:=Gp hx hr;rw[KAV];show _=if Et AA (BN a c) j=true then _ else _
  rw[iw hb a hc hk h2 hj hjr];rfl
 ·
  show b.sn=_;rw[M.B0.sn];refine KAh (fun r hr=>?_);obtain⟨j,rfl,hj,hjr⟩:=Gp hx hr;rw[KAV];show _=if Et AA (BN a c) j=true then _ else _
  rw[iw hb a hc hk h2 hj hjr];rfl
theorem bf {AA:List (List Dd)}(hb:AL AA=true){b:Bd}{a:Ab}{τ:Nat->Nat}{T:Nat}{z:Int}(M:MI AA b a τ T z)(hT:1<=T){c:Nat}(hc:c<AA.length)(hk:a.nx c<(AA.getD c []).length)(h2:(Aj AA c (a.nx c)).1=2)(hg:BP AA c (a.nx c)≠0)
  (hz:DE AA c (a.nx c)=z) (hN0:a.N c=[]):
  ∃ τ',MI AA (Ah AA (AB AA) b c) (pX AA a c (Aj AA c (a.nx c)).2.1.toNat) τ' T z:=⟨_,Nx hb M hT hc hk h2 hg hz hN0⟩
abbrev fH (AA:List (List Dd))(a:Ab)(c p:Nat):Ab:={ BN a c with F:=fun i=>if i=AZ AA c (a.nx c) then BU a p else a.F i,R:=fun q=>if q=p then a.R q++[AZ AA c (a.nx c)+1] else a.R q }
abbrev Qd (a:Ab)(c p x:Nat)(rest:List Nat):Ab:={ a with N:=fun c'=>if c'=c then rest else a.N c',R:=fun q=>if q=p then a.R q++[x] else a.R q }
theorem MK {AA:List (List Dd)}(hb:AL AA=true){b:Bd}{a:Ab}{τ:Nat->Nat}{T:Nat}{z:Int}(M:MI AA b a τ T z)(hT:1<=T){c:Nat}(hc:c<AA.length)(hk:a.nx c<(AA.getD c []).length)(h3:(Aj AA c (a.nx c)).1=3)
  (hz:DE AA c (a.nx c)=z) (hN0:a.N c=[]):
  MI AA (Ah AA (AB AA) b c) (fH AA a c (Aj AA c (a.nx c)).2.1.toNat) (fun i=>if i=AZ AA c (a.nx c)+1 then T else if i=AZ AA c (a.nx c) then T else τ i) T z:=by
 have h4:(Aj AA c (a.nx c)).1≠4:=by omega
 have E:=Cr hc hk h4;have E2:=I3 hc hk h3;obtain⟨s1,s2,s3,s4⟩:=Dj hb E;obtain⟨r1,r2,r3,r4⟩:=Dj hb E2;obtain⟨p,hp,ep⟩:=JM hb hc hk;have hN:=FW hb a τ hc hk h4;have hrd:(Bj AA).rd (AZ AA c (a.nx c))=true:=by rw[s3];exact Lo (by omega)
 have hrd2:(Bj AA).rd (AZ AA c (a.nx c)+1)=false:=by rw[r3];exact Jw _
 have hpl:(Bj AA).pl (AZ AA c (a.nx c))=p:=by rw[s2,ep,KAV]
 have hpl2:(Bj AA).pl (AZ AA c (a.nx c)+1)=p:=by rw[r2,ep,KAV]
 have hlast:=Pk M.inv hp
 have I1:=M.inv.Di hT hN hrd (by rw[s4];exact hz) (fun x hx=>by rw[s1,JX,hN0] at hx;cases hx) (f:=BU a p) (by
  rw[s1,hpl];unfold BH.L;rw[JX,hN0];show (a.R p++[].filter _).getLast? = _;rw[List.filter_nil,KBn]
  exact hlast)
 have hN2:sK (Bj AA) ((DI AA a τ).Di T (AZ AA c (a.nx c)) (BU a p)) (AZ AA c (a.nx c)+1):=by
  have hl:=E2.lt hb;refine⟨hl.1,hl.2,?_,?_,?_⟩
  ·
   rintro (⟨_,h⟩|h)
   . rw[Ke hb E2,KAN] at h;omega
   . omega
  ·
   intro i h3' hi hck;by_cases e:i=AZ AA c (a.nx c)
   . exact .inr e
   . exact .inl (hN.all i h3' (by omega) (by rw[hck,r1,s1]))
  ·
   rintro i (h|h) h3' hck
   . have:=hN.last i h h3' (by rw[hck,r1,s1]);omega
   . omega
 have I:=I1.EH hT hN2 hrd2 (by rw[r4];exact hz) (by rw[r1];show (DI AA a τ).N (c:Int)=[];rw[JX];exact hN0);have hx:=Cx AA;obtain⟨l1,l2,l3⟩:=Ll M.B0 hp
 have hd:BL AA (AB AA) b c (Am b c)=EJ (Fz (AW Af (AB AA)) b (AZ AA c (a.nx c):Int) (JY AA (BU a p)) (BU a p:Int)) p (Aj AA c (a.nx c)).2.2.1 ((AZ AA c (a.nx c):Int)+1):=by
  rw[(Ed M.B0 hc).2];unfold BL;rw[KAQ (by omega),KAP h3,Jp hb hc hk h4,ep,KAV,l1,l2]
 rw[ep,KAV]
 have hst:DI AA { BN a c with F:=fun i=>if i=AZ AA c (a.nx c) then BU a p else a.F i,R:=fun q=>if q=p then a.R q++[AZ AA c (a.nx c)+1] else a.R q } (fun i=>if i=AZ AA c (a.nx c)+1 then T else if i=AZ AA c (a.nx c) then T else τ i) =
   ((DI AA a τ).Di T (AZ AA c (a.nx c)) (BU a p)).EH (Bj AA) T (AZ AA c (a.nx c)+1):=by
  unfold DI BH.EH BH.Di;rw[hpl2]
  congr 1
  funext j;apply propext;exact Yy hb a hc hk h3 j
 have Zz:∀j,j<(AB AA).length->((AB AA).getD j zE).2.2.1=true->Et AA (BN a c) j=(decide (j=AZ AA c (a.nx c))||Et AA a j):=by
  intro j hj hjr;have this:=Yy hb a hc hk h3 j
  have hne:j≠AZ AA c (a.nx c)+1:=by
   intro e;rw[e,E2.at hb,show Mb (Aj AA c (a.nx c)) 1=false from Jw _] at hjr;cases hjr
  cases q:Et AA (BN a c) j with
  |true=>
   rcases this.1 ⟨hj,q⟩ with (h|h)|h
   . rw[h.2];simp
   . simp[h]
   . exact absurd h hne
  |false=>
   have n1:¬j=AZ AA c (a.nx c):=fun e=>by have:=(this.2 (.inl (.inr e))).2;rw[q] at this;cases this
   have n2:Et AA a j=false:=by
    cases q2:Et AA a j with
    |false=>rfl
    |true=>have:=(this.2 (.inl (.inl ⟨hj,q2⟩))).2;rw[q] at this;cases this
   simp[n1,n2]
 have hla:∀q,BU { BN a c with F:=fun i=>if i=AZ AA c (a.nx c) then BU a p else a.F i,R:=fun q=>if q=p then a.R q++[AZ AA c (a.nx c)+1] else a.R q } q=if q=p then AZ AA c (a.nx c)+1 else BU a q:=by
  intro q;unfold BU;show ((if q=p then a.R q++[AZ AA c (a.nx c)+1] else a.R q).getLast?).getD q=_;split
  . simp
  . rfl
 unfold Ah;rw[hd];refine⟨⟨LG M.B0 hc,M.B0.AJ,?_,?_,?_,?_,?_⟩,by rw[hst];exact I,Ic M.Vs hk,Kx M (fun h=>absurd hN0 h)⟩
 ·
  show b.rws.set p (b.rws.getD p []++[(AZ AA c (a.nx c):Int)+1])=_;rw[l3,M.B0.rws,Ds];refine KAh (fun q _=>?_);show _=(if q=p then a.R q++[AZ AA c (a.nx c)+1] else a.R q).map Int.ofNat;split
  . rename_i e;subst e;rw[KBB];rfl
  . rfl
 ·
  show b.AQ.set p ((AZ AA c (a.nx c):Int)+1)=_;rw[M.B0.AQ,Ds];refine KAh (fun q _=>?_);rw[hla];split<;>rfl
 ·
  show b.AM.set p (Aj AA c (a.nx c)).2.2.1=_;rw[M.B0.AM,Ds];refine KAh (fun q _=>?_);rw[hla];split
  . rw[(Tc hb E2).2,fP (Jw _)]
  . rfl
 ·
  show Hf (AW Af (AB AA)) _ _ b.fr=_;rw[M.B0.fr,LJ];refine KAh (fun r hr=>?_);obtain⟨j,rfl,hj,hjr⟩:=Gp hx hr;rw[KAV];show _=if Et AA (BN a c) j=true then ((if j=AZ AA c (a.nx c) then BU a p else a.F j:Nat):Int) else -1
  rw[Zz j hj hjr];by_cases e:j=AZ AA c (a.nx c)
  . simp[e]
  . simp[e,show ¬((j:Int)=(AZ AA c (a.nx c):Int)) by omega]
 ·
  show Hf (AW Af (AB AA)) _ _ b.sn=_;rw[M.B0.sn,LJ];refine KAh (fun r hr=>?_);obtain⟨j,rfl,hj,hjr⟩:=Gp hx hr;rw[KAV];show _=if Et AA (BN a c) j=true then JY AA (if j=AZ AA c (a.nx c) then BU a p else a.F j) else -1
  rw[Zz j hj hjr];by_cases e:j=AZ AA c (a.nx c)
  . simp[e]
  . simp[e,show ¬((j:Int)=(AZ AA c (a.nx c):Int)) by omega]
theorem Xx {AA:List (List Dd)}(hb:AL AA=true){b:Bd}{a:Ab}{τ:Nat->Nat}{T:Nat}{z:Int}(M:MI AA b a τ T z)(hT:1<=T){c:Nat}(hc:c<AA.length)(hk:a.nx c<(AA.getD c []).length)(h3:(Aj AA c (a.nx c)).1=3)
  (hz:DE AA c (a.nx c)=z) (hN0:a.N c=[]):
  ∃ τ',MI AA (Ah AA (AB AA) b c) (fH AA a c (Aj AA c (a.nx c)).2.1.toNat) τ' T z:=⟨_,MK hb M hT hc hk h3 hz hN0⟩
theorem Ly {AA:List (List Dd)}(hb:AL AA=true){b:Bd}{a:Ab}{τ:Nat->Nat}{T:Nat}{z:Int}(M:MI AA b a τ T z){c:Nat}(hc:c<AA.length){x:Nat}{rest:List Nat}(hN:a.N c=x::rest):
  MI AA (BS b c) (Qd a c ((Bj AA).pl x) x rest) (fun i=>if i=x then T+1 else τ i) (T+1) ((Bj AA).cs x):=by
 obtain⟨_,k,E,h1,h2,h3,h5⟩:=M.nt c x (by rw[hN];simp);obtain⟨s1,s2,s3,s4⟩:=Dj hb E;obtain⟨p,hp,ep⟩:=JM hb E.hc E.hk;have hpl:(Bj AA).pl x=p:=by rw[s2,ep,KAV]
 have hst0:(DI AA a τ).N (c:Int)=x::rest:=by rw[JX];exact hN
 have I0:=M.inv.tick ((Bj AA).cs x) (fun i hi h3' e=>by
  obtain⟨c',k',i',E'⟩:=Gy hb h3' hi.1.1;rw[(Dj hb E').2.2.2,s4] at e;have hc':=(Iz (CV hb E'.hc) (CV hb E.hc) E'.hk E.hk E'.kind E.kind).1 e;obtain⟨rfl,hq⟩:=hc'
  have hkk:k'=k:=by
   rcases hq with hq|hq
   . exact hq
   . exact absurd (hq.2.trans h3) hq.1
  subst hkk;have e1:=(Mg E' (by omega)).1;have e2:=(Mg E (by omega)).1;have exx:i=x:=by omega
  subst exx
  exact hi.2 (by rw[s1,hst0];simp))
 have I:=I0.Cq (by omega) hst0 rfl;have hx:=Cx AA
 have hfl:BS b c=EJ { b with AJ:=b.AJ.set c (rest.map (Xs AA)) } p (JY AA x) (x:Int):=by
  unfold BS;rw[Fo M.B0 hc,hN,KBy];show EJ _ (gJ AA x).toNat (JY AA x) (x:Int)=_;rw[(Tc hb E).1,ep,KAV]
 rw[hpl]
 have hst:DI AA { a with N:=fun c'=>if c'=c then rest else a.N c',R:=fun q=>if q=p then a.R q++[x] else a.R q } (fun i=>if i=x then T+1 else τ i)=(DI AA a τ).Cq (Bj AA) (T+1) (c:Int) x rest:=by
  unfold DI BH.Cq;rw[hpl]
  congr 1
  funext c';show (if 0<=c' then (if c'.toNat=c then rest else a.N c'.toNat) else [])=if c'=(c:Int) then rest else (if 0<=c' then a.N c'.toNat else [])
  by_cases h0:0<=c'
  ·
   rw[KAP h0];by_cases e:c'=(c:Int)
   . subst e;simp
   . rw[KAQ (by omega),KAQ e,KAP h0]
  . rw[KAQ h0,KAQ (by omega),KAQ h0]
 have hla:∀q,BU { a with N:=fun c'=>if c'=c then rest else a.N c',R:=fun q=>if q=p then a.R q++[x] else a.R q } q=if q=p then x else BU a q:=by
  intro q;unfold BU;show ((if q=p then a.R q++[x] else a.R q).getLast?).getD q=_;split
  . simp
  . rfl
 rw[hfl];refine⟨⟨M.B0.AK,?_,?_,?_,?_,M.B0.fr,M.B0.sn⟩,by rw[hst];exact I,M.Vs,?_⟩
 ·
  show b.AJ.set c _=_;rw[M.B0.AJ,Ds];refine KAh (fun i _=>?_);show _=(if i=c then rest else a.N i).map (Xs AA);split<;>rfl
 ·
  show b.rws.set p (b.rws.getD p []++[(x:Int)])=_;rw[(Ll M.B0 hp).2.2,M.B0.rws,Ds];refine KAh (fun q _=>?_);show _=(if q=p then a.R q++[x] else a.R q).map Int.ofNat;split
  . rename_i e;subst e;rw[KBB];rfl
  . rfl
 ·
  show b.AQ.set p (x:Int)=_;rw[M.B0.AQ,Ds];refine KAh (fun q _=>?_);rw[hla];split<;>rfl
 ·
  show b.AM.set p (JY AA x)=_;rw[M.B0.AM,Ds];refine KAh (fun q _=>?_);rw[hla];split<;>rfl
 ·
  intro c' y hy;refine M.nt c' y ?_;change y∈(if c'=c then rest else a.N c') at hy;split at hy
  . rename_i e;subst e;rw[hN];exact KBT _ hy
  . exact hy
theorem XI {AA:List (List Dd)}(hb:AL AA=true){b:Bd}{a:Ab}{τ:Nat->Nat}{T:Nat}{z:Int}(M:MI AA b a τ T z){c:Nat}(hc:c<AA.length){x:Nat}{rest:List Nat}(hN:a.N c=x::rest):
  ∃ τ',MI AA (BS b c) (Qd a c ((Bj AA).pl x) x rest) τ' (T+1) ((Bj AA).cs x):=⟨_,Ly hb M hc hN⟩
theorem Oz {a b:List Int}(h:a.Nodup)(hs:∀x∈a,x∈b):a.length<=b.length:=by
 induction a generalizing b with
 |nil=>simp
 |cons x a ih=>
  rw[List.nodup_cons] at h;have hx:=hs x (by simp);have:=ih (b:=b.erase x) h.2 (fun y hy=>(List.mem_erase_of_ne (fun e=>h.1 (by rw[<-e];exact hy))).2 (hs y (by simp[hy])));rw[List.length_erase_of_mem hx] at this;have:=List.length_pos_of_mem hx;simp;omega
theorem Tw {AA:List (List Dd)}(hb:AL AA=true):3<=(AB AA).length/\(AB AA).getD 0 zE=(-1,-1,false,0,0,0)/\(AB AA).getD 1 zE=(-1,-1,false,1,0,1)/\(AB AA).getD 2 zE=(-1,-1,false,2,0,2):=by
 have e1:AB AA=BB AA AA.length:=by rw[AB,KAP hb]
 obtain⟨t,ht⟩:=Gz AA 0 AA.length (KAb _);have ht':BB AA AA.length=Ci++t:=ht;rw[e1];refine⟨by rw[ht'];simp[Ci],QT ht'⟩
theorem LU {AA:List (List Dd)}(hb:AL AA=true){i:Nat}(hi:i<3):((AB AA).getD i zE).2.2.2.1=(i:Int)/\((AB AA).getD i zE).2.2.1=false/\gF ((AB AA).getD i zE)=(i:Int)/\((AB AA).getD i zE).1=-1:=by
 obtain⟨_,h0,h1,h2⟩:=Tw hb;rcases (by omega:i=0\/i=1\/i=2) with rfl|rfl|rfl
 . rw[h0];exact⟨rfl,rfl,rfl,rfl⟩
 . rw[h1];exact⟨rfl,rfl,rfl,rfl⟩
 . rw[h2];exact⟨rfl,rfl,rfl,rfl⟩
theorem Ws {AA:List (List Dd)}(hb:AL AA=true){c k:Nat}(hc:c<AA.length)(hk:k<(AA.getD c []).length)(h4:(Aj AA c k).1≠4):3<=DE AA c k:=by
 rcases LY (CV hb hc) hk h4 with ⟨_,e⟩|⟨_,j,_,_,_,e⟩
 . have:=JK AA c k;omega
 . have:=JK AA c j;omega
theorem jl {AA:List (List Dd)}(hb:AL AA=true){b:Bd}{a:Ab}{τ:Nat->Nat}{T:Nat}{z:Int}(M:MI AA b a τ T z)(hT:1<=T){c:Nat}(hc:c<AA.length)(hk:a.nx c<(AA.getD c []).length)
  (hz:(Aj AA c (a.nx c)).1≠4->DE AA c (a.nx c)=z) (hcan:((Aj AA c (a.nx c)).1<=2/\BP AA c (a.nx c)=0)\/a.N c=[]):
  ∃a' τ',MI AA (Ah AA (AB AA) b c) a' τ' T z/\a'.nx=(BN a c).nx/\(BP AA c (a.nx c)≠0->a'.N c=[]):=by
 have hkd:=Cf (CV hb hc _ hk);rcases hkd with h|h|h|h
 ·
  obtain⟨f,τ',_,h1⟩:=Xw hb M hT hc hk h (hz (by omega)) (hcan.imp (fun h=>h.2) id);exact⟨_,τ',h1,rfl,fun hg=>hcan.resolve_left (fun h=>hg h.2)⟩
 ·
  by_cases hg:BP AA c (a.nx c)=0
  . exact⟨_,τ,Py hb M hc hk h hg,rfl,fun h=>absurd hg h⟩
  ·
   have hN:=hcan.resolve_left (fun h=>hg h.2);obtain⟨τ',h1⟩:=bf hb M hT hc hk h hg (hz (by omega)) hN;exact⟨_,τ',h1,rfl,fun _=>hN⟩
 ·
  have hN:=hcan.resolve_left (fun h=>by omega);obtain⟨τ',h1⟩:=Xx hb M hT hc hk h (hz (by omega)) hN;exact⟨_,τ',h1,rfl,fun _=>hN⟩
 ·
  have hN:=hcan.resolve_left (fun h=>by omega);exact⟨BN a c,τ,Pz hb M hc hk h hN,rfl,fun _=>hN⟩
def BD (AA:List (List Dd))(a:Ab):Prop:=∀c,c<AA.length->0<a.nx c->a.nx c<(AA.getD c []).length->BP AA c (a.nx c)≠0->BP AA c (a.nx c-1)≠BP AA c (a.nx c)
theorem Zp {AA:List (List Dd)}(hb:AL AA=true){c:Nat}(hc:c<AA.length)(g:Int){T:Nat}(hT:1<=T){z:Int}:∀(m:Nat) (b:Bd) (a:Ab) (τ:Nat->Nat),MI AA b a τ T z->a.nx c<(AA.getD c []).length->(AA.getD c []).length<=a.nx c+m->BP AA c (a.nx c)=g ->
  ((Aj AA c (a.nx c)).1≠4->DE AA c (a.nx c)=z)->(((Aj AA c (a.nx c)).1<=2/\BP AA c (a.nx c)=0)\/a.N c=[]) ->
  ∃a' τ',MI AA (FF AA (AB AA) g c m b) a' τ' T z/\a.nx c<a'.nx c/\(∀c',c'≠c->a'.nx c'=a.nx c')/\(a'.nx c<(AA.getD c []).length->BP AA c (a'.nx c)≠0->BP AA c (a'.nx c-1)≠BP AA c (a'.nx c))
 | 0,b,a,τ,M,hk,hm,_,_,_=>by omega
 |m+1,b,a,τ,M,hk,hm,hg,hz,hcan=>by
  obtain⟨a1,τ1,M1,e1,e2⟩:=jl hb M hT hc hk hz hcan;have hn1:a1.nx c=a.nx c+1:=by rw[e1,DG,KAP rfl]
  have ho1:∀c',c'≠c->a1.nx c'=a.nx c':=fun c' h=>by rw[e1,DG,KAQ h]
  rw[FF,(Ed M1.B0 hc).2,hn1];by_cases hs:g=0\/a.nx c+1=(AA.getD c []).length\/BP AA c (a.nx c+1)≠g
  ·
   rw[KAP hs];refine⟨a1,τ1,M1,by omega,ho1,?_⟩;rw[hn1];intro hl hg0;rw[show a.nx c+1-1=a.nx c by omega,hg];rcases hs with hs|hs|hs
   . rw[hs];exact fun e=>hg0 e.symm
   . omega
   . exact fun e=>hs e.symm
  ·
   rw[KAQ hs];have hs0:¬g=0:=fun h=>hs (.inl h)
   have hs1:¬a.nx c+1=(AA.getD c []).length:=fun h=>hs (.inr (.inl h))
   have hs2:BP AA c (a.nx c+1)=g:=KBA (fun h=>hs (.inr (.inr h)));have hl:=M1.Vs c hc;have hk1:a.nx c+1<(AA.getD c []).length:=by omega
   have hok:=CV hb hc;have n1:=FT hok hk (by rw[hg];exact hs0);have n2:=FT hok hk1 (by rw[hs2];exact hs0);have hcl:DE AA c (a.nx c+1)=DE AA c (a.nx c):=(Iz hok hok hk1 hk n2.1 n1.1).2 ⟨rfl,.inr ⟨by rw[hs2];exact hs0,by rw[hs2,hg]⟩⟩;obtain⟨a',τ',M',q1,q2,q3⟩:=Zp hb hc g hT m (Ah AA (AB AA) b c) a1 τ1 M1 (by omega) (by omega) (by rw[hn1];exact hs2) (by rw[hn1,hcl];exact fun _=>hz n1.1) (.inr (e2 (by rw[hg];exact hs0)));exact⟨a',τ',M',by omega,fun c' h=>by rw[q2 c' h,ho1 c' h],q3⟩
theorem ZU {AA:List (List Dd)}(hb:AL AA=true){a:Ab}{τ:Nat->Nat}{i:Nat}(hi:(DI AA a τ).D (Bj AA) i)(h3:3<=i):∃c k i',Ea AA i c k i'/\k<a.nx c/\(Bj AA).cs i=DE AA c k/\3<=DE AA c k:=by
 obtain⟨c,k,i',E⟩:=Gy hb h3 hi.1.1;have hX:=hi.1.2;rw[Ke hb E,KAN] at hX;exact⟨c,k,i',E,hX,(Dj hb E).2.2.2,Ws hb E.hc E.hk E.kind⟩
theorem fE {AA:List (List Dd)}(hb:AL AA=true){b:Bd}{a:Ab}{τ:Nat->Nat}{T:Nat}{z:Int}(M:MI AA b a τ T z)(B:BD AA a){s:Int}(hs:Op (Aq AA b) s=true):
  ∃a' τ' z',MI AA (Ar AA (AB AA) b s) a' τ' (T+1) z'/\BD AA a':=by
 have hm:=Mj hs;unfold Aq at hm;rw[KA0,KAv,KAv] at hm;rcases hm with ⟨c,hc,e⟩|⟨c,hc,e⟩
 ·
  rw[KBF,KAd] at hc;obtain⟨hc,hcan⟩:=hc
  have hl3:AA.length<=3:=by
   simp only[AL,KAO,KAN] at hb;exact hb.1.1.1.1.2
  unfold Ce at hcan;rw[(Ed M.B0 hc).2,Fo M.B0 hc] at hcan;simp only[KAO,KBw,KAN,KDD,KCc] at hcan;obtain⟨hk,hcan⟩:=hcan;have hok:=CV hb hc
  have M1:MI AA b a τ (T+1) (if (Aj AA c (a.nx c)).1=4 then -1 else DE AA c (a.nx c)):=by
   refine⟨M.B0,M.inv.tick _ (fun i hi h3 e=>?_),M.Vs,M.nt⟩;obtain⟨c',k',i',E,hX,e1,e2⟩:=ZU hb hi h3;rw[e1] at e;split at e
   . omega
   ·
    rename_i h4;obtain⟨rfl,hq⟩:=(Iz (CV hb E.hc) hok E.hk hk E.kind h4).1 e;rcases hq with hq|⟨g1,g2⟩
    . omega
    ·
     have h0:BP AA c' (a.nx c')≠0:=by rw[<-g2];exact g1
     refine B c' hc (by omega) hk h0 ?_;exact Lz hb hc (j:=k') (k:=a.nx c'-1) (l:=a.nx c') (by omega) (by omega) hk h0 g2
  have hst:Ar AA (AB AA) b s=FF AA (AB AA) (BP AA c (a.nx c)) c (AA.getD c []).length b:=by
   unfold Ar;rw[KAQ (by omega),show s.toNat=c by omega,(Ed M.B0 hc).2]
  rw[hst];obtain⟨a',τ',M',q1,q2,q3⟩:=Zp hb hc (BP AA c (a.nx c)) (T:=T+1) (by omega) (AA.getD c []).length b a τ M1 hk (by omega) rfl (fun h=>by rw[KAQ h]) hcan;refine⟨a',τ',_,M',fun c' hc' h0 hl hg=>?_⟩;by_cases e:c'=c
  . subst e;exact q3 hl hg
  ·
   rw[q2 c' e] at h0 hl hg ⊢;exact B c' hc' h0 hl hg
 ·
  rw[KBF,KAd] at hc;obtain⟨hc,hne⟩:=hc;rw[Fo M.B0 hc] at hne
  have hst:Ar AA (AB AA) b s=BS b c:=by
   unfold Ar;rw[KAP (by omega),show (s-10).toNat=c by omega]
  rw[hst]
  cases hN:a.N c with
  |nil=>rw[hN] at hne;simp at hne
  |cons x rest=>
   obtain⟨τ',M'⟩:=XI hb M hc hN;exact⟨_,τ',_,M',fun c' hc'=>B c' hc'⟩
def Ju:Ab:={ nx:=fun _=>0,N:=fun _=>[],R:=fun p=>if p<3 then [p] else [],F:=fun _=>0 }
theorem Mn {AA:List (List Dd)}(hb:AL AA=true):MI AA (C5 AA) Ju (fun _=>0) 0 (-1)/\BD AA Ju:=by
 have hX:∀j,(DI AA Ju (fun _=>0)).X j↔j<3:=by
  intro j;show (j<(AB AA).length/\Et AA Ju j=true)↔_;unfold Et Ju;simp;have:=(Tw hb).1;omega
 have hN:∀c,(DI AA Ju (fun _=>0)).N c=[]:=fun c=>by show (if 0<=c then [] else [])=[];split<;>rfl
 have hD:∀j,(DI AA Ju (fun _=>0)).D (Bj AA) j↔j<3:=fun j=>by
  unfold BH.D;rw[hX,hN];simp
 have hR:∀p,(DI AA Ju (fun _=>0)).R p=if p<3 then [p] else []:=fun p=>rfl
 have On:∀j,j<3->(Bj AA).rd j=false/\(Bj AA).pl j=j/\(Bj AA).ck j=-1/\(Bj AA).cs j=(j:Int):=by
  intro j hj;obtain⟨h1,h2,h3,h4⟩:=LU hb hj;refine⟨h2,?_,h4,h3⟩;show ((AB AA).getD j zE).2.2.2.1.toNat=j;rw[h1,KAV]
 have hno:∀j,(DI AA Ju (fun _=>0)).X j->¬ 3<=j:=fun j h1 h2=>by have:=(hX j).1 h1;omega
 refine⟨⟨?_,?_,fun c hc=>KAb _,fun c x hx=>by cases hx⟩,fun c _ h=>absurd h (Nat.lt_irrefl _)⟩
 ·
  have hrep:∀(α:Type) (m:Nat) (x:α),List.replicate m x=(List.range m).map (fun _=>x):=by
   intro α m x;rw[List.map_const',KB5]
  have hrep2:∀(α β:Type) (l:List β) (x:α),List.replicate l.length x=l.map (fun _=>x):=by
   intro α β l x;rw[List.map_const']
  obtain⟨h3,b0,b1,b2⟩:=Tw hb;refine⟨hrep _ _ _,hrep _ _ _,rfl,rfl,?_,?_,?_⟩
  ·
   show [0,0,0]=(List.range 3).map (fun p=>JY AA (BU Ju p));have e0:JY AA 0=0:=by unfold JY;rw[b0]
   have e1:JY AA 1=0:=by unfold JY;rw[b1]
   have e2:JY AA 2=0:=by unfold JY;rw[b2]
   have r3:List.range 3=[0,1,2]:=rfl;rw[r3];show [0,0,0]=[JY AA 0,JY AA 1,JY AA 2];rw[e0,e1,e2]
  ·
   show List.replicate _ (-1)=_;rw[hrep2];refine KAh (fun r hr=>?_);obtain⟨j,rfl,hj,hjr⟩:=Gp (Cx AA) hr
   have:¬Et AA Ju j=true:=by
    intro h;have h3:=(hX j).1 ⟨hj,h⟩;rw[(LU hb h3).2.1] at hjr;cases hjr
   rw[KAV,KAQ this]
  ·
   show List.replicate _ (-1)=_;rw[hrep2];refine KAh (fun r hr=>?_);obtain⟨j,rfl,hj,hjr⟩:=Gp (Cx AA) hr
   have:¬Et AA Ju j=true:=by
    intro h;have h3:=(hX j).1 ⟨hj,h⟩;rw[(LU hb h3).2.1] at hjr;cases hjr
   rw[KAV,KAQ this]
 ·
  constructor;case FU=>exact fun j hj=>⟨(hX j).2 hj,(On j hj).1,(On j hj).2.1,(On j hj).2.2.1,rfl,(On j hj).2.2.2⟩
  case lt=>exact fun j hj=>hj.1
  case down=>exact fun i j hj h3 hij _=>absurd ((hX j).1 hj) (by omega)
  case note=>exact fun c x hx=>by rw[hN] at hx;cases hx
  case Ma=>exact fun c=>by rw[hN];simp
  case pend=>exact fun c x j hx=>by rw[hN] at hx;cases hx
  case rows=>
   intro p x;rw[hR,hD];by_cases hp:p<3
   ·
    rw[KAP hp];constructor
    ·
     intro hx;have e:x=p:=by simpa using hx
     subst e;exact⟨hp,(On x hp).1,(On x hp).2.1⟩
    ·
     rintro⟨h1,h2,h3⟩;rw[(On x h1).2.1] at h3;simp[h3]
   ·
    rw[KAQ hp];constructor
    . intro hx;cases hx
    ·
     rintro⟨h1,h2,h3⟩;rw[(On x h1).2.1] at h3;omega
  case RM=>exact fun p=>by rw[hR];split<;>simp
  case Uo=>exact fun p=>by rw[hR];split<;>simp
  case PE=>exact fun j _=>KAM _
  case tpos=>exact fun j hj h3=>absurd h3 (hno j hj.1)
  case same=>exact fun i j hi _ h3=>absurd h3 (hno i hi.1)
  case Qx=>exact fun i j hi _ h3=>absurd h3 (hno i hi.1)
  case now=>exact fun i hi h3=>absurd h3 (hno i hi.1)
  case kept=>exact fun i j hi _ h3=>absurd h3 (hno i hi.1)
  case src=>
   intro r hr hrd;rw[(On r ((hX r).1 hr)).1] at hrd;cases hrd
  case Mv=>
   intro r w p hr hrd;rw[(On r ((hX r).1 hr)).1] at hrd;cases hrd
  case Yb=>exact fun i hi h3=>absurd h3 (hno i hi)
  case iU=>exact fun i j hi _ h3=>absurd h3 (hno i hi)
  case T0=>exact fun i j hi _ h3=>absurd h3 (hno i hi)
structure yt (AA:List (List Dd))(a:Ab)(τ:Nat->Nat)(T:Nat)(z:Int)(b:Bd):Prop where
 inv:GG (Bj AA) (DI AA a τ) T z
 B0:Yw AA b a
 none:∀c,(DI AA a τ).N c=[]
 all:∀j,j<(AB AA).length->(DI AA a τ).D (Bj AA) j
theorem pE {AA:List (List Dd)}(hb:AL AA=true){b:Bd}{a:Ab}{τ:Nat->Nat}{T:Nat}{z:Int}(M:MI AA b a τ T z)(he:Dl AA b=true):yt AA a τ T z b:=by
 unfold Dl at he;rw[KAx] at he
 have hc:∀c,c<AA.length->a.nx c=(AA.getD c []).length/\a.N c=[]:=by
  intro c hc;have h1:=he c (KAd.2 hc);rw[(Ed M.B0 hc).2,Fo M.B0 hc] at h1;simp only[KAO,KAN,KDD,KCc] at h1;have:=M.Vs c hc;exact⟨by omega,h1.2⟩
 have hN:∀c,a.N c=[]:=by
  intro c;by_cases h:c<AA.length
  . exact (hc c h).2
  ·
   cases hN:a.N c with
   |nil=>rfl
   |cons x r=>exact absurd (M.nt c x (by rw[hN];simp)).1 h
 have hst:∀c,(DI AA a τ).N c=[]:=fun c=>by
  show (if 0<=c then a.N c.toNat else [])=[];split
  . exact hN _
  . rfl
 refine⟨M.inv,M.B0,hst,fun j hj=>⟨⟨hj,?_⟩,by rw[hst];simp⟩⟩;by_cases h3:j<3
 . unfold Et;simp[h3]
 ·
  obtain⟨c,k,i,E⟩:=Gy hb (by omega) hj;rw[Ke hb E,KAN,(hc c E.hc).1];exact E.hk
theorem yt.frs {AA:List (List Dd)}{a:Ab}{τ:Nat->Nat}{T:Nat}{z:Int}{b:Bd}(h:yt AA a τ T z b):b.fr=(AW Af (AB AA)).map (fun r=>(a.F r.toNat:Int))/\b.sn=(AW Af (AB AA)).map (fun r=>JY AA (a.F r.toNat)):=by
 have hx:=Cx AA;rw[h.B0.fr,h.B0.sn]
 constructor <;>
 ·
  refine KAh (fun r hr=>?_);obtain⟨j,rfl,hj,_⟩:=Gp hx hr;rw[KAV,KAP (h.all j hj).1.2]
theorem oG {AA:List (List Dd)}(hb:AL AA=true)(a:Ab)(τ τ':Nat->Nat){c:Nat}(hc:c<AA.length)(hk:a.nx c<(AA.getD c []).length)(h1:(Aj AA c (a.nx c)).1=1)(f j:Nat):(DI AA (dQ AA a c f) τ').X j↔(DI AA a τ).X j\/j=AZ AA c (a.nx c):=
 Lv hb a hc hk (by omega) (by omega) j
theorem oC {AA:List (List Dd)}(hb:AL AA=true)(a:Ab)(τ τ':Nat->Nat){c:Nat}(hc:c<AA.length)(hk:a.nx c<(AA.getD c []).length)(h2:(Aj AA c (a.nx c)).1=2)(j:Nat):(DI AA (Sv AA a c) τ').X j↔(DI AA a τ).X j\/j=AZ AA c (a.nx c):=
 Lv hb a hc hk (by omega) (by omega) j
theorem tC {AA:List (List Dd)}(hb:AL AA=true)(a:Ab)(τ τ':Nat->Nat){c:Nat}(hc:c<AA.length)(hk:a.nx c<(AA.getD c []).length)(h2:(Aj AA c (a.nx c)).1=2)(p j:Nat):(DI AA (pX AA a c p) τ').X j↔(DI AA a τ).X j\/j=AZ AA c (a.nx c):=
 Lv hb a hc hk (by omega) (by omega) j
theorem oH {AA:List (List Dd)}(hb:AL AA=true)(a:Ab)(τ τ':Nat->Nat){c:Nat}(hc:c<AA.length)(hk:a.nx c<(AA.getD c []).length)(h3:(Aj AA c (a.nx c)).1=3)(p j:Nat):(DI AA (fH AA a c p) τ').X j↔((DI AA a τ).X j\/j=AZ AA c (a.nx c))\/j=AZ AA c (a.nx c)+1:=
 Yy hb a hc hk h3 j
end Go.Proofs.YtflehmepjhikcaaGreatDoor
