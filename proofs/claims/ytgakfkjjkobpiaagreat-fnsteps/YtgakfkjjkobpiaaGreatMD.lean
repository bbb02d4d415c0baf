/- Gathered texts. -/
import Derived.Test.YtgakfkjjkobpiaaGreatMC
import Derived.Orders
import Derived.Maps.AppendAt
import Derived.RegionTactic
set_option maxRecDepth 100000
set_option maxHeartbeats 8000000
namespace Go.Proofs.YtgakfkjjkobpiaaGreat
open Go.ChangeShapes Go.WideShapes Go.ChangeAt Go.RowKit
open Go.RowKit
theorem ZI {AA:List (List Dd)}(hb:AW AA=true){b:Bd}{a:Ab}{τ:Nat->Nat}{T:Nat}{z:Int}(M:MI AA b a τ T z)(hT:1<=T){c:Nat}(hc:c<AA.length)(hk:a.nx c<(AA.getD c []).length)
  (hz:(An AA c (a.nx c)).1≠4->DZ AA c (a.nx c)=z) (hcan:((An AA c (a.nx c)).1<=2/\Bi AA c (a.nx c)=0)\/a.N c=[]):
  ∃a' τ',MI AA (Ar AA (AB AA) b c) a' τ' T z/\a'.nx=(BS a c).nx/\(Bi AA c (a.nx c)≠0->a'.N c=[]):=by
 have hkd:=CG (B7 hb hc _ hk);rcases hkd with h|h|h|h
 ·
  obtain⟨f,τ',_,h1⟩:=Ua hb M hT hc hk h (hz (by omega)) (hcan.imp (fun h=>h.2) id);exact⟨_,τ',h1,rfl,fun hg=>hcan.resolve_left (fun h=>hg h.2)⟩
 ·
  by_cases hg:Bi AA c (a.nx c)=0
  . exact⟨_,τ,UZ hb M hc hk h hg,rfl,fun h=>absurd hg h⟩
  ·
   have hN:=hcan.resolve_left (fun h=>hg h.2);obtain⟨τ',h1⟩:=Ws hb M hT hc hk h hg (hz (by omega)) hN;exact⟨_,τ',h1,rfl,fun _=>hN⟩
 ·
  have hN:=hcan.resolve_left (fun h=>by omega);obtain⟨τ',h1⟩:=Ub hb M hT hc hk h (hz (by omega)) hN;exact⟨_,τ',h1,rfl,fun _=>hN⟩
 ·
  have hN:=hcan.resolve_left (fun h=>by omega);exact⟨BS a c,τ,Uc hb M hc hk h hN,rfl,fun _=>hN⟩
def BD (AA:List (List Dd))(a:Ab):Prop:=∀c,c<AA.length->0<a.nx c->a.nx c<(AA.getD c []).length->Bi AA c (a.nx c)≠0->Bi AA c (a.nx c-1)≠Bi AA c (a.nx c)
theorem WC {AA:List (List Dd)}(hb:AW AA=true){c:Nat}(hc:c<AA.length)(g:Int){T:Nat}(hT:1<=T){z:Int}:∀(m:Nat) (b:Bd) (a:Ab) (τ:Nat->Nat),MI AA b a τ T z->a.nx c<(AA.getD c []).length->(AA.getD c []).length<=a.nx c+m->Bi AA c (a.nx c)=g ->
  ((An AA c (a.nx c)).1≠4->DZ AA c (a.nx c)=z)->(((An AA c (a.nx c)).1<=2/\Bi AA c (a.nx c)=0)\/a.N c=[]) ->
  ∃a' τ',MI AA (GC AA (AB AA) g c m b) a' τ' T z/\a.nx c<a'.nx c/\(∀c',c'≠c->a'.nx c'=a.nx c')/\(a'.nx c<(AA.getD c []).length->Bi AA c (a'.nx c)≠0->Bi AA c (a'.nx c-1)≠Bi AA c (a'.nx c))
 | 0,b,a,τ,M,hk,hm,_,_,_=>by omega
 |m+1,b,a,τ,M,hk,hm,hg,hz,hcan=>by
  obtain⟨a1,τ1,M1,e1,e2⟩:=ZI hb M hT hc hk hz hcan;have hn1:a1.nx c=a.nx c+1:=by rw[e1,Gj,if_pos rfl]
  have ho1:∀c',c'≠c->a1.nx c'=a.nx c':=fun c' h=>by rw[e1,Gj,if_neg h]
  rw[GC,(Ii M1.DD hc).2,hn1];by_cases hs:g=0\/a.nx c+1=(AA.getD c []).length\/Bi AA c (a.nx c+1)≠g
  ·
   rw[if_pos hs];refine⟨a1,τ1,M1,by omega,ho1,?_⟩;rw[hn1];intro hl hg0;rw[show a.nx c+1-1=a.nx c by omega,hg];rcases hs with hs|hs|hs
   . rw[hs];exact fun e=>hg0 e.symm
   . omega
   . exact fun e=>hs e.symm
  ·
   rw[if_neg hs];have hs0:¬g=0:=fun h=>hs (.inl h)
   have hs1:¬a.nx c+1=(AA.getD c []).length:=fun h=>hs (.inr (.inl h))
   have hs2:Bi AA c (a.nx c+1)=g:=Classical.byContradiction (fun h=>hs (.inr (.inr h)));have hl:=M1.ZF c hc;have hk1:a.nx c+1<(AA.getD c []).length:=by omega
   have hok:=B7 hb hc;have n1:=Gi hok hk (by rw[hg];exact hs0);have n2:=Gi hok hk1 (by rw[hs2];exact hs0);have hcl:DZ AA c (a.nx c+1)=DZ AA c (a.nx c):=(Kl hok hok hk1 hk n2.1 n1.1).2 ⟨rfl,.inr ⟨by rw[hs2];exact hs0,by rw[hs2,hg]⟩⟩;obtain⟨a',τ',M',q1,q2,q3⟩:=WC hb hc g hT m (Ar AA (AB AA) b c) a1 τ1 M1 (by omega) (by omega) (by rw[hn1];exact hs2) (by rw[hn1,hcl];exact fun _=>hz n1.1) (.inr (e2 (by rw[hg];exact hs0)));exact⟨a',τ',M',by omega,fun c' h=>by rw[q2 c' h,ho1 c' h],q3⟩
theorem dh {AA:List (List Dd)}(hb:AW AA=true){a:Ab}{τ:Nat->Nat}{i:Nat}(hi:(Eh AA a τ).D (Au AA) i)(h3:3<=i):∃c k i',Dv AA i c k i'/\k<a.nx c/\(Au AA).cs i=DZ AA c k/\3<=DZ AA c k:=by
 obtain⟨c,k,i',E⟩:=He hb h3 hi.1.1;have hX:=hi.1.2;rw[Lk hb E,decide_eq_true_eq] at hX;exact⟨c,k,i',E,hX,(ED hb E).2.2.2,T0 hb E.hc E.hk E.kind⟩
theorem XK {AA:List (List Dd)}(hb:AW AA=true){b:Bd}{a:Ab}{τ:Nat->Nat}{T:Nat}{z:Int}(M:MI AA b a τ T z)(B:BD AA a){s:Int}(hs:Dx (Ae AA b) s=true):
  ∃a' τ' z',MI AA (Aq AA (AB AA) b s) a' τ' (T+1) z'/\BD AA a':=by
 have hm:=GX hs;unfold Ae at hm;rw[List.mem_append,List.mem_map,List.mem_map] at hm;rcases hm with ⟨c,hc,e⟩|⟨c,hc,e⟩
 ·
  rw[List.mem_filter,List.mem_range] at hc;obtain⟨hc,hcan⟩:=hc
  have hl3:AA.length<=3:=by
   simp only[AW,Bool.and_eq_true,decide_eq_true_eq] at hb;exact hb.1.1.1.1.2
  unfold C6 at hcan;rw[(Ii M.DD hc).2,MH M.DD hc] at hcan;simp only[Bool.and_eq_true,Bool.or_eq_true,decide_eq_true_eq,List.isEmpty_iff,List.map_eq_nil_iff] at hcan;obtain⟨hk,hcan⟩:=hcan;have hok:=B7 hb hc
  have M1:MI AA b a τ (T+1) (if (An AA c (a.nx c)).1=4 then -1 else DZ AA c (a.nx c)):=by
   refine⟨M.DD,M.inv.tick _ (fun i hi h3 e=>?_),M.ZF,M.nt⟩;obtain⟨c',k',i',E,hX,e1,e2⟩:=dh hb hi h3;rw[e1] at e;split at e
   . omega
   ·
    rename_i h4;obtain⟨rfl,hq⟩:=(Kl (B7 hb E.hc) hok E.hk hk E.kind h4).1 e;rcases hq with hq|⟨g1,g2⟩
    . omega
    ·
     have h0:Bi AA c' (a.nx c')≠0:=by rw[<-g2];exact g1
     refine B c' hc (by omega) hk h0 ?_;exact QA hb hc (j:=k') (k:=a.nx c'-1) (l:=a.nx c') (by omega) (by omega) hk h0 g2
  have hst:Aq AA (AB AA) b s=GC AA (AB AA) (Bi AA c (a.nx c)) c (AA.getD c []).length b:=by
   unfold Aq;rw[if_neg (by omega),show s.toNat=c by omega,(Ii M.DD hc).2]
  rw[hst];obtain⟨a',τ',M',q1,q2,q3⟩:=WC hb hc (Bi AA c (a.nx c)) (T:=T+1) (by omega) (AA.getD c []).length b a τ M1 hk (by omega) rfl (fun h=>by rw[if_neg h]) hcan;refine⟨a',τ',_,M',fun c' hc' h0 hl hg=>?_⟩;by_cases e:c'=c
  . subst e;exact q3 hl hg
  ·
   rw[q2 c' e] at h0 hl hg ⊢;exact B c' hc' h0 hl hg
 ·
  rw[List.mem_filter,List.mem_range] at hc;obtain⟨hc,hne⟩:=hc;rw[MH M.DD hc] at hne
  have hst:Aq AA (AB AA) b s=Bs b c:=by
   unfold Aq;rw[if_pos (by omega),show (s-10).toNat=c by omega]
  rw[hst]
  cases hN:a.N c with
  |nil=>rw[hN] at hne;simp at hne
  |cons x rest=>
   obtain⟨τ',M'⟩:=UE hb M hc hN;exact⟨_,τ',_,M',fun c' hc'=>B c' hc'⟩
def Kc:Ab:={ nx:=fun _=>0,N:=fun _=>[],R:=fun p=>if p<3 then [p] else [],F:=fun _=>0 }
theorem Y8 {AA:List (List Dd)}(hb:AW AA=true):MI AA (Bq AA) Kc (fun _=>0) 0 (-1)/\BD AA Kc:=by
 have hX:∀j,(Eh AA Kc (fun _=>0)).X j↔j<3:=by
  intro j;show (j<(AB AA).length/\FH AA Kc j=true)↔_;unfold FH Kc;simp;have:=(Re hb).1;omega
 have hN:∀c,(Eh AA Kc (fun _=>0)).N c=[]:=fun c=>by show (if 0<=c then [] else [])=[];split<;>rfl
 have hD:∀j,(Eh AA Kc (fun _=>0)).D (Au AA) j↔j<3:=fun j=>by
  unfold A7.D;rw[hX,hN];simp
 have hR:∀p,(Eh AA Kc (fun _=>0)).R p=if p<3 then [p] else []:=fun p=>rfl
 have Mt:∀j,j<3->(Au AA).rd j=false/\(Au AA).pl j=j/\(Au AA).ck j=-1/\(Au AA).cs j=(j:Int):=by
  intro j hj;obtain⟨h1,h2,h3,h4⟩:=Jl hb hj;refine⟨h2,?_,h4,h3⟩;show ((AB AA).getD j zE).2.2.2.1.toNat=j;rw[h1,Int.toNat_natCast]
 have hno:∀j,(Eh AA Kc (fun _=>0)).X j->¬ 3<=j:=fun j h1 h2=>by have:=(hX j).1 h1;omega
 refine⟨⟨?_,?_,fun c hc=>Nat.zero_le _,fun c x hx=>by cases hx⟩,fun c _ h=>absurd h (Nat.lt_irrefl _)⟩
 ·
  have hrep:∀(α:Type) (m:Nat) (x:α),List.replicate m x=(List.range m).map (fun _=>x):=by
   intro α m x;rw[List.map_const',List.length_range]
  have hrep2:∀(α β:Type) (l:List β) (x:α),List.replicate l.length x=l.map (fun _=>x):=by
   intro α β l x;rw[List.map_const']
  obtain⟨h3,b0,b1,b2⟩:=Re hb;refine⟨hrep _ _ _,hrep _ _ _,rfl,rfl,?_,?_,?_⟩
  ·
   show [0,0,0]=(List.range 3).map (fun p=>Jh AA (CO Kc p));have e0:Jh AA 0=0:=by unfold Jh;rw[b0]
   have e1:Jh AA 1=0:=by unfold Jh;rw[b1]
   have e2:Jh AA 2=0:=by unfold Jh;rw[b2]
   have r3:List.range 3=[0,1,2]:=rfl;rw[r3];show [0,0,0]=[Jh AA 0,Jh AA 1,Jh AA 2];rw[e0,e1,e2]
  ·
   show List.replicate _ (-1)=_;rw[hrep2];refine List.map_congr_left (fun r hr=>?_);obtain⟨j,rfl,hj,hjr⟩:=Fh (Bg AA) hr
   have:¬FH AA Kc j=true:=by
    intro h;have h3:=(hX j).1 ⟨hj,h⟩;rw[(Jl hb h3).2.1] at hjr;cases hjr
   rw[Int.toNat_natCast,if_neg this]
  ·
   show List.replicate _ (-1)=_;rw[hrep2];refine List.map_congr_left (fun r hr=>?_);obtain⟨j,rfl,hj,hjr⟩:=Fh (Bg AA) hr
   have:¬FH AA Kc j=true:=by
    intro h;have h3:=(hX j).1 ⟨hj,h⟩;rw[(Jl hb h3).2.1] at hjr;cases hjr
   rw[Int.toNat_natCast,if_neg this]
 ·
  constructor;case Ie=>exact fun j hj=>⟨(hX j).2 hj,(Mt j hj).1,(Mt j hj).2.1,(Mt j hj).2.2.1,rfl,(Mt j hj).2.2.2⟩
  case lt=>exact fun j hj=>hj.1
  case down=>exact fun i j hj h3 hij _=>absurd ((hX j).1 hj) (by omega)
  case note=>exact fun c x hx=>by rw[hN] at hx;cases hx
  case Oq=>exact fun c=>by rw[hN];simp
  case pend=>exact fun c x j hx=>by rw[hN] at hx;cases hx
  case rows=>
   intro p x;rw[hR,hD];by_cases hp:p<3
   ·
    rw[if_pos hp];constructor
    ·
     intro hx;have e:x=p:=by simpa using hx
     subst e;exact⟨hp,(Mt x hp).1,(Mt x hp).2.1⟩
    ·
     rintro⟨h1,h2,h3⟩;rw[(Mt x h1).2.1] at h3;simp[h3]
   ·
    rw[if_neg hp];constructor
    . intro hx;cases hx
    ·
     rintro⟨h1,h2,h3⟩;rw[(Mt x h1).2.1] at h3;omega
  case J3=>exact fun p=>by rw[hR];split<;>simp
  case Qj=>exact fun p=>by rw[hR];split<;>simp
  case N1=>exact fun j _=>Nat.le_refl _
  case tpos=>exact fun j hj h3=>absurd h3 (hno j hj.1)
  case same=>exact fun i j hi _ h3=>absurd h3 (hno i hi.1)
  case Oo=>exact fun i j hi _ h3=>absurd h3 (hno i hi.1)
  case now=>exact fun i hi h3=>absurd h3 (hno i hi.1)
  case kept=>exact fun i j hi _ h3=>absurd h3 (hno i hi.1)
  case src=>
   intro r hr hrd;rw[(Mt r ((hX r).1 hr)).1] at hrd;cases hrd
  case LQ=>
   intro r w p hr hrd;rw[(Mt r ((hX r).1 hr)).1] at hrd;cases hrd
  case UJ=>exact fun i hi h3=>absurd h3 (hno i hi)
  case Xn=>exact fun i j hi _ h3=>absurd h3 (hno i hi)
  case Pr=>exact fun i j hi _ h3=>absurd h3 (hno i hi)
theorem Oc {AA:List (List Dd)}(hb:AW AA=true){j:Nat}(hj:j<(AB AA).length):(0<=Jh AA j/\Jh AA j<=9)/\0<=Xv AA j/\Xv AA j<=2:=by
 by_cases h3:j<3
 ·
  have e:=(JP (AA:=AA) (by simp only[AW,Bool.and_eq_true,decide_eq_true_eq] at hb;intro i hi;have:=List.all_eq_true.1 hb.1.1.1.2 _ (List.getElem_mem hi);rw[List.getD_eq_getElem?_getD,List.getElem?_eq_getElem hi];exact this) AA.length (Nat.le_refl _)).1;obtain⟨t,ht⟩:=e;have e1:AB AA=B5++t:=by rw[AB,if_pos hb,ht]
  unfold Jh Xv;rw[e1,List.getD_eq_getElem?_getD,List.getElem?_append_left (by simp[B5];omega)];have:j=0\/j=1\/j=2:=by omega
  rcases this with rfl|rfl|rfl<;>simp[B5]
 ·
  obtain⟨c,k,i,E⟩:=He hb (by omega) hj;have hd:=B7 hb E.hc k E.hk;unfold Jh Xv;rw[E.at hb];simp only;unfold Uu;have hd':=hd;unfold An at hd' ⊢;simp only[FZ,Dy,decide_eq_true_eq] at hd';split<;>omega
theorem Km (AA:List (List Dd)):(AB AA).length<=9:=by
 unfold AB;split
 ·
  rename_i h;simp only[AW,Bool.and_eq_true,decide_eq_true_eq] at h;obtain⟨⟨⟨⟨_,h2⟩,_⟩,h4⟩,_⟩:=h;have:=Hf (fun i hi=>BR [] h2 i hi) AA.length (Nat.le_refl _);omega
 . simp
theorem IE {lo n:Nat}:∀ {l:List Nat},l.Nodup->(∀x∈l,lo<=x/\x<n)->l.length<=n-lo:=fun {l} hn h=>by
 have hs:∀x∈l,x∈List.range' lo (n-lo):=fun x hx=>by
  have:=h x hx;rw[List.mem_range'_1];omega
 have:l.length<=(List.range' lo (n-lo)).length:=by
  clear h;generalize List.range' lo (n-lo)=r at hs
  induction l generalizing r with
  |nil=>simp
  |cons x t ih=>
   rw[List.nodup_cons] at hn;have hx:=hs x (by simp);have:=ih hn.2 (r.erase x) (fun y hy=>(List.mem_erase_of_ne (fun e=>hn.1 (by rw[<-e];exact hy))).2 (hs y (by simp[hy])));rw[List.length_erase_of_mem hx] at this;have:0<r.length:=List.length_pos_of_mem hx;simp only[List.length_cons];omega
 simpa using this
theorem G4 {α:Type}(l:List α)(f:α->Int){lo hi:Int}{most:Nat}(h:∀x∈l,lo<=f x/\f x<=hi)(hm:l.length<=most):DW (l.map f) lo hi most=true:=by
 unfold DW;rw[Bool.and_eq_true,List.all_eq_true,decide_eq_true_eq,List.length_map];refine⟨fun y hy=>?_,hm⟩;obtain⟨x,hx,rfl⟩:=List.mem_map.1 hy;have:=h x hx;simp[this]
theorem Wd {AA:List (List Dd)}(hb:AW AA=true){b:Bd}{a:Ab}{τ:Nat->Nat}{T:Nat}{z:Int}(M:MI AA b a τ T z):Af AA b=true:=by
 have h9:=Km AA;have R:=M.DD;have I:=M.inv
 have hlen3:3<=(AB AA).length:=by
  have:=I.lt 2 (I.Ie 2 (by omega)).1;exact this
 have Qk:∀p x,x∈a.R p->x<(AB AA).length:=fun p x hx=>I.lt x ((I.rows p x).1 hx).1.1
 have Wi:∀c x,x∈a.N c->3<=x/\x<(AB AA).length:=fun c x hx=>by
  have hx':x∈(Eh AA a τ).N (c:Int):=by rw[MZ];exact hx
  have:=I.note (c:Int) x hx';exact⟨this.2.1,I.lt x this.1⟩
 have hlast:∀p,p<3->CO a p<(AB AA).length:=fun p hp=>by
  unfold CO
  cases hl:(a.R p).getLast? with
  |none=>show p<_;omega
  |some x=>exact Qk p x (List.mem_of_getLast? hl)
 have hF:∀r,r<(AB AA).length->((AB AA).getD r zE).2.2.1=true->FH AA a r=true->a.F r<(AB AA).length:=fun r h1 h2 h3=>I.lt _ (I.src r ⟨h1,h3⟩ h2).1
 have hx12:(AB AA).length<=12:=by omega
 have rl:(AX Aj (AB AA)).length<=12:=by
  unfold AX;rw[if_pos hx12];have:=Cw Aj (AB AA) (AB AA).length;omega
 have nM:∀r∈AX Aj (AB AA),(0<=r/\r<((AB AA).length:Int))/\((AB AA).getD r.toNat zE).2.2.1=true:=fun r hr=>by
  unfold AX at hr;rw[if_pos hx12] at hr;exact⟨EI _ _ _ _ hr,FK _ _ _ _ hr⟩
 unfold Af;rw[Bool.and_eq_true,Bool.and_eq_true,Bool.and_eq_true];refine⟨?_,?_,?_,?_⟩
 ·
  unfold DF;rw[hb,R.AM,R.AQ,R.rws,R.AH,R.AL];simp
 ·
  unfold Ef;rw[R.sn,R.fr,R.AM,R.AQ,List.length_map,List.length_map];simp only[decide_true,Bool.true_and,Bool.and_eq_true];refine⟨G4 _ _ (fun p hp=>(Oc hb (hlast p (List.mem_range.1 hp))).1) (by simp),G4 _ _ (fun p hp=>by have:=hlast p (List.mem_range.1 hp);omega) (by simp),G4 _ _ (fun r hr=>?_) rl,G4 _ _ (fun r hr=>?_) rl⟩
  ·
   obtain⟨h1,h2⟩:=nM r hr;by_cases hE:FH AA a r.toNat=true
   ·
    rw[if_pos hE];have:=(Oc hb (hF r.toNat (by omega) h2 hE)).1;omega
   . rw[if_neg hE];omega
  ·
   obtain⟨h1,h2⟩:=nM r hr;by_cases hE:FH AA a r.toNat=true
   ·
    rw[if_pos hE];have:=hF r.toNat (by omega) h2 hE;omega
   . rw[if_neg hE];omega
 ·
  unfold EC;rw[List.all_eq_true];intro p hp;rw[R.rws,Gd _ _ (List.mem_range.1 hp)];refine G4 _ _ (fun x hx=>by have:=Qk p x hx;exact⟨Int.natCast_nonneg _,by show (x:Int)<=_;omega⟩) ?_;have:=IE (lo:=0) (I.J3 p) (fun x hx=>⟨Nat.zero_le _,Qk p x hx⟩);have e:(Eh AA a τ).R p=a.R p:=rfl;rw[e] at this;omega
 ·
  rw[List.all_eq_true];intro c hc;have hc:=List.mem_range.1 hc;unfold Lg;rw[(Ii R hc).1,R.AH,Gd _ _ hc,List.length_map];have h1:=M.ZF c hc
  have hnd:(a.N c).Nodup:=by
   have:=I.Oq (c:Int);rw[MZ] at this;exact this.imp (fun h=>Nat.ne_of_lt h)
  have h2:=IE hnd (Wi c);simp only[Bool.and_eq_true,decide_eq_true_eq];refine⟨⟨by omega,by omega⟩,by omega,?_⟩;unfold Kd;rw[List.all_eq_true];intro y hy;obtain⟨x,hx,rfl⟩:=List.mem_map.1 hy;have hn:=Wi c x hx;have:=Oc hb hn.2;unfold SO Wj;simp only[Bool.and_eq_true,decide_eq_true_eq];omega
def Gz (f:Nat->Nat):Nat->Nat
 | 0=>0
 |m+1=>Gz f m+f m
theorem Qs {f g:Nat->Nat}:∀m:Nat,(∀c,c<m->f c=g c)->Gz f m=Gz g m
 | 0,_=>rfl
 |m+1,h=>by rw[Gz,Gz,Qs m (fun c hc=>h c (by omega)),h m (by omega)]
theorem Md {f g:Nat->Nat}{c:Nat}(h1:f c+1<=g c)(h2:∀c',c'≠c->f c'=g c'):∀m:Nat,c<m->Gz f m+1<=Gz g m
 | 0,h=>by omega
 |m+1,h=>by
  rw[Gz,Gz];by_cases e:c=m
  ·
   subst e;rw[Qs c (fun c' hc=>h2 c' (by omega))];omega
  ·
   have:=Md h1 h2 m (by omega);rw[h2 m (fun h=>e h.symm)];omega
def Ni (AA:List (List Dd))(b:Bd)(c:Nat):Nat:=2*((AA.getD c []).length-Av b c)+(b.AH.getD c []).length
def Kb (AA:List (List Dd))(b:Bd):Nat:=Gz (Ni AA b) AA.length
def LN (AA:List (List Dd))(b:Bd):Prop:=b.AL.length=AA.length/\b.AH.length=AA.length
theorem Bu {α:Type}(l:List α)(z x:α)(i j:Nat)(hi:i<l.length):(l.set i x).getD j z=if i=j then x else l.getD j z:=by
 rw[List.getD_eq_getElem?_getD,List.getElem?_set];by_cases e:i=j
 . subst e;rw[if_pos rfl,if_pos hi,if_pos rfl];rfl
 . rw[if_neg e,if_neg e,List.getD_eq_getElem?_getD]
theorem Vv (AA:List (List Dd))(es:List Ev)(b:Bd)(c k:Nat):(BM AA es b c k).AL=b.AL/\((BM AA es b c k).AH=b.AH\/∃x,(BM AA es b c k).AH=b.AH.set c (b.AH.getD c []++[x])):=by
 unfold BM;split
 . exact⟨rfl,.inl rfl⟩
 ·
  split
  . exact⟨rfl,.inl rfl⟩
  ·
   split
   . exact⟨rfl,.inl rfl⟩
   ·
    split
    . exact⟨rfl,.inr ⟨_,rfl⟩⟩
    . exact⟨rfl,.inl rfl⟩
theorem Wn {AA:List (List Dd)}{es:List Ev}{b:Bd}(hL:LN AA b)(h0:∀c,0<=b.AL.getD c 0){c:Nat}(hc:c<AA.length):(∀c',Av (Ar AA es b c) c'=if c=c' then Av b c+1 else Av b c')/\∀c',0<=(Ar AA es b c).AL.getD c' 0:=by
 have e:∀c',(Ar AA es b c).AL.getD c' 0=if c=c' then b.AL.getD c 0+1 else b.AL.getD c' 0:=fun c'=>by
  show (b.AL.set c (b.AL.getD c 0+1)).getD c' 0=_;rw[Bu _ _ _ _ _ (by rw[hL.1];exact hc)]
 constructor
 ·
  intro c';unfold Av;rw[e];split
  . have:=h0 c;omega
  . rfl
 ·
  intro c';rw[e];split
  . have:=h0 c;omega
  . exact h0 c'
theorem Y7 {AA:List (List Dd)}{es:List Ev}{b:Bd}(hL:LN AA b)(h0:∀c,0<=b.AL.getD c 0){c:Nat}(hc:c<AA.length)(hk:Av b c<(AA.getD c []).length):Kb AA (Ar AA es b c)+1<=Kb AA b/\LN AA (Ar AA es b c)/\∀c',0<=(Ar AA es b c).AL.getD c' 0:=by
 obtain⟨hn,h0'⟩:=Wn (es:=es) hL h0 hc;obtain⟨_,hd⟩:=Vv AA es b c (Av b c)
 have fK:(∀c',c'≠c->(Ar AA es b c).AH.getD c' []=b.AH.getD c' [])/\((Ar AA es b c).AH.getD c []).length<=(b.AH.getD c []).length+1/\(Ar AA es b c).AH.length=b.AH.length:=by
  have e:(Ar AA es b c).AH=(BM AA es b c (Av b c)).AH:=rfl;rw[e];rcases hd with hd|⟨x,hd⟩
  . rw[hd];exact⟨fun _ _=>rfl,by omega,rfl⟩
  ·
   rw[hd];refine⟨fun c' h=>?_,?_,by rw[List.length_set]⟩
   . rw[Bu _ _ _ _ _ (by rw[hL.2];exact hc),if_neg (fun h2=>h h2.symm)]
   . rw[Bu _ _ _ _ _ (by rw[hL.2];exact hc),if_pos rfl,List.length_append];simp
 refine⟨Md (c:=c) ?_ (fun c' h=>?_) _ hc,⟨?_,?_⟩,h0'⟩
 ·
  unfold Ni;rw[hn,if_pos rfl];have:=fK.2.1;omega
 ·
  unfold Ni;rw[hn,if_neg (fun h2=>h h2.symm),fK.1 c' h]
 ·
  show (b.AL.set c _).length=_;rw[List.length_set];exact hL.1
 . rw[fK.2.2];exact hL.2
theorem Wc {AA:List (List Dd)}{es:List Ev}(g:Int){c:Nat}(hc:c<AA.length):∀(m:Nat) (b:Bd),LN AA b->(∀c,0<=b.AL.getD c 0)->1<=m->Av b c<(AA.getD c []).length->(AA.getD c []).length<=Av b c+m ->
  Kb AA (GC AA es g c m b)+1<=Kb AA b/\LN AA (GC AA es g c m b)/\∀c',0<=(GC AA es g c m b).AL.getD c' 0
 | 0,_,_,_,h,_,_=>by omega
 |m+1,b,hL,h0,_,hk,hm=>by
  have h1:=Y7 (es:=es) hL h0 hc hk;have hn:=(Wn (es:=es) hL h0 hc).1 c;rw[if_pos rfl] at hn;rw[GC];split
  . exact h1
  ·
   rename_i hs;have hs1:¬Av (Ar AA es b c) c=(AA.getD c []).length:=fun h=>hs (.inr (.inl h))
   have h2:=Wc (es:=es) g hc m (Ar AA es b c) h1.2.1 h1.2.2 (by omega) (by omega) (by omega);exact⟨by omega,h2.2⟩
theorem UP {AA:List (List Dd)}{b:Bd}(hL:LN AA b)(h0:∀c,0<=b.AL.getD c 0){c:Nat}(hc:c<AA.length)(hne:b.AH.getD c []≠[]):Kb AA (Bs b c)+1<=Kb AA b/\LN AA (Bs b c)/\∀c',0<=(Bs b c).AL.getD c' 0:=by
 unfold Bs
 cases hq:b.AH.getD c [] with
 |nil=>exact absurd hq hne
 |cons x r=>
  have e:∀c',(b.AH.set c r).getD c' []=if c=c' then r else b.AH.getD c' []:=fun c'=>Bu _ _ _ _ _ (by rw[hL.2];exact hc)
  refine⟨Md (c:=c) ?_ (fun c' h=>?_) _ hc,⟨hL.1,?_⟩,h0⟩
  ·
   show 2*((AA.getD c []).length-Av b c)+((b.AH.set c r).getD c []).length+1<=2*((AA.getD c []).length-Av b c)+(b.AH.getD c []).length;rw[e,if_pos rfl,hq];simp only[List.length_cons];omega
  ·
   show 2*((AA.getD c' []).length-Av b c')+((b.AH.set c r).getD c' []).length=2*((AA.getD c' []).length-Av b c')+(b.AH.getD c' []).length;rw[e,if_neg (fun h2=>h h2.symm)]
  ·
   show (b.AH.set c r).length=_;rw[List.length_set];exact hL.2
theorem QT {AA:List (List Dd)}(hb:AW AA=true){es:List Ev}{b:Bd}(hL:LN AA b)(h0:∀c,0<=b.AL.getD c 0){s:Int}(hs:Dx (Ae AA b) s=true):Kb AA (Aq AA es b s)+1<=Kb AA b/\LN AA (Aq AA es b s)/\∀c',0<=(Aq AA es b s).AL.getD c' 0:=by
 have hl3:AA.length<=3:=by
  simp only[AW,Bool.and_eq_true,decide_eq_true_eq] at hb;exact hb.1.1.1.1.2
 have hm:=GX hs;unfold Ae at hm;rw[List.mem_append,List.mem_map,List.mem_map] at hm;rcases hm with ⟨c,hc,e⟩|⟨c,hc,e⟩
 ·
  rw[List.mem_filter,List.mem_range] at hc;obtain⟨hc,hcan⟩:=hc;unfold C6 at hcan;simp only[Bool.and_eq_true,decide_eq_true_eq] at hcan;unfold Aq;rw[if_neg (by omega),show s.toNat=c by omega];exact Wc _ hc _ b hL h0 (by omega) hcan.1 (by omega)
 ·
  rw[List.mem_filter,List.mem_range] at hc;obtain⟨hc,hne⟩:=hc;unfold Aq;rw[if_pos (by omega),show (s-10).toNat=c by omega];refine UP hL h0 hc (fun h=>?_);rw[h] at hne;simp at hne
theorem ZS (AA:List (List Dd)):Gz (fun c=>(AA.getD c []).length) AA.length=Cy AA:=by
 have h:∀(l:List (List Dd)) (m:Nat),m<=l.length->Gz (fun c=>(l.getD c []).length) m=Cy (l.take m):=by
  intro l m
  induction m with
  |zero=>intro _;simp[Gz,Cy]
  |succ m ih=>
   intro hm;rw[Gz,ih (by omega),List.take_add_one,List.getElem?_eq_getElem (by omega),List.getD_eq_getElem?_getD,List.getElem?_eq_getElem (by omega)];simp only[Option.toList_some,Option.getD_some]
   have:∀(x:List (List Dd)) (d:List Dd),Cy (x++[d])=Cy x+d.length:=by
    intro x d
    induction x with
    |nil=>simp[Cy]
    |cons y x ih=>rw[List.cons_append,Cy,ih,Cy];omega
   rw[this]
 have:=h AA AA.length (Nat.le_refl _);rw[List.take_length] at this;exact this
theorem IC {AA:List (List Dd)}(hb:AW AA=true):Kb AA (Bq AA)<=24/\LN AA (Bq AA)/\∀c',0<=(Bq AA).AL.getD c' 0:=by
 have h12:Cy AA<=12:=by
  simp only[AW,Bool.and_eq_true,decide_eq_true_eq] at hb;exact hb.1.1.2
 have h0:∀c',(Bq AA).AL.getD c' 0=0:=fun c'=>by
  show (List.replicate AA.length (0:Int)).getD c' 0=0;rw[List.getD_eq_getElem?_getD,List.getElem?_replicate];split<;>rfl
 refine⟨?_,⟨by show (List.replicate _ _).length=_;simp,by show (List.replicate _ _).length=_;simp⟩,fun c'=>by rw[h0];omega⟩
 have e:∀m:Nat,Gz (Ni AA (Bq AA)) m=2*Gz (fun c=>(AA.getD c []).length) m:=by
  intro m
  induction m with
  |zero=>rfl
  |succ m ih=>
   rw[Gz,Gz,ih]
   have:Ni AA (Bq AA) m=2*(AA.getD m []).length:=by
    unfold Ni Av;rw[h0]
    have:(Bq AA).AH.getD m []=[]:=by
     show (List.replicate AA.length ([]:List Nt)).getD m []=[];rw[List.getD_eq_getElem?_getD,List.getElem?_replicate];split<;>rfl
    rw[this];simp
   rw[this];omega
 unfold Kb;rw[e,ZS];omega
structure RB (AA:List (List Dd))(b:Bd)(N:Nat->Nat)(m:Nat):Prop where
 work:AW AA=true
 AM:b.AM.length=3
 AQ:b.AQ.length=3
 rws:b.rws.length=3
 AH:b.AH.length=AA.length
 AL:b.AL.length=AA.length
 sn:b.sn.length=(AX Aj (AB AA)).length
 fr:b.fr.length=(AX Aj (AB AA)).length
 vp:∀x∈b.AM,0<=x/\x<=9
 vl:∀x∈b.AQ,0<=x/\x<=((AB AA).length:Int)-1
 vs:∀x∈b.sn,-1<=x/\x<=9
 vf:∀x∈b.fr,-1<=x/\x<=((AB AA).length:Int)-1
 rl:∀p,(b.rws.getD p []).length<=m/\∀x∈b.rws.getD p [],0<=x/\x<=((AB AA).length:Int)-1
 nl:∀c,(b.AH.getD c []).length<=N c/\∀x∈b.AH.getD c [],(0<=x.1/\x.1<=2)/\(0<=x.2.1/\x.2.1<=9)/\0<=x.2.2/\x.2.2<=((AB AA).length:Int)-1
 nx:∀c,c<AA.length->0<=b.AL.getD c 0/\b.AL.getD c 0<=((AA.getD c []).length:Int)
theorem NS {α:Type}{l:List α}{z:α}{i:Nat}(h:¬i<l.length):l.getD i z=z:=by rw[List.getD_eq_getElem?_getD,List.getElem?_eq_none (by omega)];rfl
theorem JQ {α:Type}{l:List α}{z:α}{i:Nat}(h:i<l.length):l.getD i z∈l:=by rw[List.getD_eq_getElem?_getD,List.getElem?_eq_getElem h];exact List.getElem_mem h
theorem G5 {l:List Int}{lo hi:Int}{most:Nat}(h:DW l lo hi most=true):(∀x∈l,lo<=x/\x<=hi)/\l.length<=most:=by
 simp only[DW,Bool.and_eq_true,decide_eq_true_eq,List.all_eq_true] at h;exact h
theorem JF {l:List Int}{lo hi:Int}{most:Nat}(h:∀x∈l,lo<=x/\x<=hi)(hl:l.length<=most):DW l lo hi most=true:=by
 simp only[DW,Bool.and_eq_true,decide_eq_true_eq,List.all_eq_true];exact⟨h,hl⟩
theorem RB.of {AA:List (List Dd)}{b:Bd}(h:Af AA b=true){N:Nat->Nat}{m:Nat}(hN:∀c,(b.AH.getD c []).length<=N c)(hm:∀p,(b.rws.getD p []).length<=m):RB AA b N m:=by
 simp only[Af,DF,Ef,EC,Bool.and_eq_true,decide_eq_true_eq] at h;obtain⟨⟨hw,h1,h2,h3,h4,h5⟩,⟨h6,h7,p1,p2,p3,p4⟩,h8,h9⟩:=h;refine⟨hw,h1,h2,h3,h4,h5,h6,h7,(G5 p1).1,(G5 p2).1,(G5 p3).1,(G5 p4).1,fun p=>⟨hm p,?_⟩,fun c=>⟨hN c,?_⟩,fun c hc=>?_⟩
 ·
  by_cases hp:p<3
  . exact (G5 (List.all_eq_true.1 h8 p (List.mem_range.2 hp))).1
  . rw[NS (by omega)];simp
 ·
  by_cases hc:c<AA.length
  ·
   have:=List.all_eq_true.1 h9 c (List.mem_range.2 hc);simp only[Lg,Kd,SO,Bool.and_eq_true,decide_eq_true_eq,List.all_eq_true] at this;exact this.2.2
  . rw[NS (by omega)];simp
 ·
  have:=List.all_eq_true.1 h9 c (List.mem_range.2 hc);simp only[Lg,Bool.and_eq_true,decide_eq_true_eq] at this;exact this.1
theorem RB.board {AA:List (List Dd)}{b:Bd}{N:Nat->Nat}{m:Nat}(h:RB AA b N m)(hN:∀c,N c<=8)(hm:m<=20):Af AA b=true:=by
 have h9:=Km AA
 have hr:(AX Aj (AB AA)).length<=12:=by
  unfold AX;split
  . have:=Cw Aj (AB AA) (AB AA).length;omega
  . simp
 simp only[Af,DF,Ef,EC,Bool.and_eq_true,decide_eq_true_eq];refine⟨⟨h.work,h.AM,h.AQ,h.rws,h.AH,h.AL⟩,⟨h.sn,h.fr,JF h.vp (by rw[h.AM];omega),JF h.vl (by rw[h.AQ];omega),JF h.vs (by rw[h.sn];omega),JF h.vf (by rw[h.fr];omega)⟩,?_,?_⟩
 ·
  rw[List.all_eq_true];exact fun p _=>JF (h.rl p).2 (by have:=(h.rl p).1;omega)
 ·
  rw[List.all_eq_true];intro c hc;simp only[Lg,Kd,SO,Bool.and_eq_true,decide_eq_true_eq,List.all_eq_true];exact⟨h.nx c (List.mem_range.1 hc),by have:=(h.nl c).1;have:=hN c;omega,(h.nl c).2⟩
theorem ME {α:Type}{l:List α}{i:Nat}{v x:α}(h:x∈l.set i v):x∈l\/x=v:=by
 rcases List.mem_or_eq_of_mem_set h with h|h
 . exact .inl h
 . exact .inr h
theorem TM {rs:List Int}{ev v:Int}:∀ {l:List Int} {x:Int},x∈Gx rs ev v l->x∈l\/x=v:=by
 induction rs with
 |nil=>intro l x h;simp[Gx] at h
 |cons r t ih=>
  intro l x h
  cases l with
  |nil=>simp[Gx] at h
  |cons y z=>
   simp only[Gx,List.zipWith_cons_cons,List.mem_cons] at h;rcases h with h|h
   ·
    split at h
    . exact .inr h
    . exact .inl (by rw[h];simp)
   ·
    rcases ih (l:=z) (x:=x) h with h|h
    . exact .inl (List.mem_cons_of_mem _ h)
    . exact .inr h
theorem RB.see {AA:List (List Dd)}{b:Bd}{N:Nat->Nat}{m:Nat}(h:RB AA b N m)(ev v f:Int)(hv:-1<=v/\v<=9)(hf:-1<=f/\f<=((AB AA).length:Int)-1):RB AA (Fv (AX Aj (AB AA)) b ev v f) N m:=
 ⟨h.work,h.AM,h.AQ,h.rws,h.AH,h.AL,Jd h.sn,Jd h.fr,h.vp,h.vl,fun x hx=>(TM hx).elim (h.vs x) (fun e=>e ▸ hv),fun x hx=>(TM hx).elim (h.vf x) (fun e=>e ▸ hf),h.rl,h.nl,h.nx⟩
theorem RB.UK {AA:List (List Dd)}{b:Bd}{N:Nat->Nat}{m:Nat}(h:RB AA b N m)(p:Nat)(v ev:Int)(hv:0<=v/\v<=9)(he:0<=ev/\ev<=((AB AA).length:Int)-1):RB AA (Dw b p v ev) N (m+1):=by
 refine⟨h.work,by rw[<-h.AM];exact List.length_set,by rw[<-h.AQ];exact List.length_set,by rw[<-h.rws];exact List.length_set,h.AH,h.AL,h.sn,h.fr,fun x hx=>(ME hx).elim (h.vp x) (fun e=>e ▸ hv),fun x hx=>(ME hx).elim (h.vl x) (fun e=>e ▸ he),h.vs,h.vf,fun q=>?_,h.nl,h.nx⟩;show ((b.rws.set p (b.rws.getD p []++[ev])).getD q []).length<=m+1/\∀x∈(b.rws.set p (b.rws.getD p []++[ev])).getD q [],_;by_cases hp:p<b.rws.length
 ·
  rw[Bu _ _ _ _ _ hp];by_cases e:p=q
  ·
   rw[if_pos e];refine⟨by have:=(h.rl p).1;rw[List.length_append,List.length_singleton];omega,fun x hx=>?_⟩;rcases List.mem_append.1 hx with hx|hx
   . exact (h.rl p).2 x hx
   . rw[List.mem_singleton.1 hx];exact he
  ·
   rw[if_neg e];exact⟨by have:=(h.rl q).1;omega,(h.rl q).2⟩
 ·
  rw[List.set_eq_of_length_le (by omega)];exact⟨by have:=(h.rl q).1;omega,(h.rl q).2⟩
theorem RB.note {AA:List (List Dd)}{b:Bd}{N N':Nat->Nat}{m:Nat}(h:RB AA b N m)(c:Nat)(l:List Nt)(hl:∀x∈l,(0<=x.1/\x.1<=2)/\(0<=x.2.1/\x.2.1<=9)/\0<=x.2.2/\x.2.2<=((AB AA).length:Int)-1)(hn:l.length<=N' c)(hN:∀i,i≠c->N i<=N' i)(hc:c<AA.length):RB AA { b with AH:=b.AH.set c l } N' m:=by
 refine⟨h.work,h.AM,h.AQ,h.rws,by rw[<-h.AH];exact List.length_set,h.AL,h.sn,h.fr,h.vp,h.vl,h.vs,h.vf,h.rl,fun i=>?_,h.nx⟩;show ((b.AH.set c l).getD i []).length<=N' i/\∀x∈(b.AH.set c l).getD i [],_;rw[Bu _ _ _ _ _ (by rw[h.AH];exact hc)];by_cases e:c=i
 ·
  rw[if_pos e,<-e];exact⟨hn,hl⟩
 ·
  rw[if_neg e];exact⟨Nat.le_trans (h.nl i).1 (hN i (Ne.symm e)),(h.nl i).2⟩
theorem RB.next {AA:List (List Dd)}{b:Bd}{N:Nat->Nat}{m:Nat}(h:RB AA b N m)(c:Nat)(x:Int)(hx:0<=x/\x<=((AA.getD c []).length:Int)):RB AA { b with AL:=b.AL.set c x } N m:=by
 refine⟨h.work,h.AM,h.AQ,h.rws,h.AH,by rw[<-h.AL];exact List.length_set,h.sn,h.fr,h.vp,h.vl,h.vs,h.vf,h.rl,h.nl,fun i hi=>?_⟩;show 0<=(b.AL.set c x).getD i 0/\(b.AL.set c x).getD i 0<=_;by_cases hc:c<b.AL.length
 ·
  rw[Bu _ _ _ _ _ hc];by_cases e:c=i
  . rw[if_pos e,<-e];exact hx
  . rw[if_neg e];exact h.nx i hi
 . rw[List.set_eq_of_length_le (by omega)];exact h.nx i hi
theorem RB.more {AA:List (List Dd)}{b:Bd}{N N':Nat->Nat}{m m':Nat}(h:RB AA b N m)(hN:∀c,N c<=N' c)(hm:m<=m'):RB AA b N' m':=
 ⟨h.work,h.AM,h.AQ,h.rws,h.AH,h.AL,h.sn,h.fr,h.vp,h.vl,h.vs,h.vf,fun p=>⟨Nat.le_trans (h.rl p).1 hm,(h.rl p).2⟩,fun c=>⟨Nat.le_trans (h.nl c).1 (hN c),(h.nl c).2⟩,h.nx⟩
theorem RB.rdg {AA:List (List Dd)}{b:Bd}{N:Nat->Nat}{m:Nat}(h:RB AA b N m)(c:Nat){p:Nat}(hp:p<3):(0<=(C3 b c p).1/\(C3 b c p).1<=9)/\0<=(C3 b c p).2/\(C3 b c p).2<=((AB AA).length:Int)-1:=by
 unfold C3
 cases e:(b.AH.getD c []).reverse.find? (fun x=>x.1==(p:Int)) with
 |some x=>
  have hx:=List.mem_reverse.1 (List.mem_of_find?_eq_some e);exact ((h.nl c).2 x hx).2
 |none=>exact⟨h.vp _ (JQ (by rw[h.AM];exact hp)),h.vl _ (JQ (by rw[h.AQ];exact hp))⟩
theorem ML {d:Dd}(h:FZ d=true):(0<=d.2.2.1/\d.2.2.1<=9)/\0<=d.2.2.2:=by
 obtain⟨k,p,v,g⟩:=d;simp only[FZ,Dy,decide_eq_true_eq] at h;show (0<=v/\v<=9)/\0<=g;by_cases e:k=2\/k=3
 . have:=h.2.2.2.2.2.1 e;omega
 . have:=h.2.2.2.2.2.2 e;omega
theorem OW {AA:List (List Dd)}(hb:AW AA=true){c k:Nat}(hc:c<AA.length)(hk:k<(AA.getD c []).length):
  (∃p:Nat,p<3/\(An AA c k).2.1=(p:Int))/\(0<=(An AA c k).2.2.1/\(An AA c k).2.2.1<=9)/\((An AA c k).1=1\/(An AA c k).1=2\/(An AA c k).1=3\/(An AA c k).1=4)/\0<=Bi AA c k /\
  ((An AA c k).1≠4->0<=JB (AB AA) c k/\JB (AB AA) c k<=((AB AA).length:Int)-1)/\((An AA c k).1=3->JB (AB AA) c k+1<=((AB AA).length:Int)-1):=by
 have ho:=B7 hb hc k hk;have hd:=CG ho;have hev:(An AA c k).1≠4->∀i,i<FO (An AA c k)->3<=Ag AA c k+i/\Ag AA c k+i<(AB AA).length:=fun h4 i hi=>Dv.lt hb ⟨hc,hk,hi,rfl⟩
 refine⟨IL hb hc hk,?_,hd,?_,fun h4=>?_,fun h3=>?_⟩
 . exact (ML ho).1
 . exact (ML ho).2
 ·
  rw[Ip hb hc hk h4];have:=hev h4 0 (by unfold FO;rw[if_neg h4];split<;>omega);omega
 ·
  have h4:(An AA c k).1≠4:=by omega
  rw[Ip hb hc hk h4];have:=hev h4 1 (by unfold FO;rw[if_neg h4,if_pos h3];omega);omega
theorem As {AA:List (List Dd)}(h:AW AA=true):AA.length<=3/\∀i,i<AA.length->Ft (AA.getD i [])=true:=by
 simp only[AW,Bool.and_eq_true,decide_eq_true_eq] at h;obtain⟨⟨⟨⟨h1,h2⟩,_⟩,_⟩,_⟩:=h;exact⟨h1.2,fun i hi=>BR [] h2 i hi⟩
theorem eY {AA:List (List Dd)}(h:AW AA=true):(Az AA AA.length).length<=9:=by
 simp only[AW,Bool.and_eq_true,decide_eq_true_eq] at h;obtain⟨⟨⟨⟨_,h2⟩,_⟩,h4⟩,_⟩:=h;have:=Hf (fun i hi=>BR [] h2 i hi) AA.length (Nat.le_refl _);omega
theorem RB.deed {AA:List (List Dd)}{b:Bd}{N:Nat->Nat}{m:Nat}(h:RB AA b N m){c k:Nat}(hc:c<AA.length)(hk:k<(AA.getD c []).length):
  RB AA (BM AA (AB AA) b c k) (fun i=>if i=c/\Bi AA c k=0 then N i+1 else N i) (m+1):=by
 obtain⟨⟨p,hp,ep⟩,hv,hd,hg,he,he3⟩:=OW h.work hc hk
 have hN:∀i,N i<=(fun i=>if i=c/\Bi AA c k=0 then N i+1 else N i) i:=fun i=>by
  show N i<=if _ then _ else _
  split
  . exact Nat.le_succ _
  . exact Nat.le_refl _
 have hP:(An AA c k).2.1.toNat=p:=by omega
 have hr:=h.rdg c hp;unfold BM;rw[hP];split
 . exact (h.see _ _ _ ⟨by omega,by omega⟩ ⟨by omega,by omega⟩).more hN (Nat.le_succ m)
 ·
  rename_i h1;split
  ·
   rename_i h3;have e1:=he (by omega);have e2:=he3 h3;have q1:=h.vp _ (JQ (z:=0) (show p<b.AM.length by rw[h.AM];exact hp));have q2:=h.vl _ (JQ (z:=0) (show p<b.AQ.length by rw[h.AQ];exact hp));exact ((h.see _ _ _ ⟨by omega,by omega⟩ ⟨by omega,by omega⟩).UK p _ _ hv ⟨by omega,by omega⟩).more hN (Nat.le_refl _)
  ·
   rename_i h3;split
   ·
    rename_i h2;exact (h.UK p _ _ hv (he (by omega))).more hN (Nat.le_refl _)
   ·
    rename_i h2;split
    ·
     rename_i h2'
     have g0:Bi AA c k=0:=by
      by_cases e:Bi AA c k=0
      . exact e
      . exact absurd ⟨h2',by omega⟩ h2
     have e1:=he (by omega);refine (h.note (N':=fun i=>if i=c/\Bi AA c k=0 then N i+1 else N i) c _ (fun x hx=>?_) ?_ (fun i _=>hN i) hc).more (fun _=>Nat.le_refl _) (Nat.le_succ m)
     ·
      rcases List.mem_append.1 hx with hx|hx
      . exact (h.nl c).2 x hx
      ·
       rw[List.mem_singleton.1 hx];exact⟨⟨by show 0<=(An AA c k).2.1;omega,by show (An AA c k).2.1<=2;omega⟩,hv,e1⟩
     ·
      show _<=if c=c/\Bi AA c k=0 then N c+1 else N c
      rw[if_pos ⟨rfl,g0⟩,List.length_append,List.length_singleton];have:=(h.nl c).1;omega
    . exact h.more hN (Nat.le_succ m)
theorem RB.one {AA:List (List Dd)}{b:Bd}{N:Nat->Nat}{m:Nat}(h:RB AA b N m){c:Nat}(hc:c<AA.length)(hk:Av b c<(AA.getD c []).length):
  RB AA (Ar AA (AB AA) b c) (fun i=>if i=c/\Bi AA c (Av b c)=0 then N i+1 else N i) (m+1):=by
 have h0:=h.nx c hc;have hn:(Av b c:Int)=b.AL.getD c 0:=by unfold Av;omega
 have:=(h.deed hc hk).next c (b.AL.getD c 0+1) ⟨by omega,by omega⟩;rw[Li] at this;exact this
theorem gJ {AA:List (List Dd)}{b:Bd}{N:Nat->Nat}{m:Nat}(h:RB AA b N m){c:Nat}(hc:c<AA.length):Av (Ar AA (AB AA) b c) c=Av b c+1/\(Ar AA (AB AA) b c).AL.getD c 0=b.AL.getD c 0+1/\∀i,i≠c->(Ar AA (AB AA) b c).AL.getD i 0=b.AL.getD i 0:=by
 have h0:=h.nx c hc;have hl:c<b.AL.length:=by rw[h.AL];exact hc
 have e:∀i,(Ar AA (AB AA) b c).AL.getD i 0=if c=i then b.AL.getD c 0+1 else b.AL.getD i 0:=fun i=>Bu _ _ _ _ _ hl
 refine⟨?_,by rw[e,if_pos rfl],fun i hi=>by rw[e,if_neg (Ne.symm hi)]⟩;unfold Av;rw[e,if_pos rfl];omega
theorem RB.go {AA:List (List Dd)}{c:Nat}(hc:c<AA.length){g:Int}(hg:g≠0){N:Nat->Nat}:∀(k m:Nat) (b:Bd),RB AA b N m->Av b c<(AA.getD c []).length->Bi AA c (Av b c)=g->RB AA (GC AA (AB AA) g c k b) N (m+k)
 | 0,m,b,h,_,_=>by rw[GC];exact h
 |k+1,m,b,h,hk,e=>by
  have h1:=h.one hc hk
  have hs:(fun i=>if i=c/\Bi AA c (Av b c)=0 then N i+1 else N i)=N:=by
   funext i;rw[if_neg (fun hh=>hg (by rw[<-e];exact hh.2))]
  rw[hs] at h1;rw[GC];split
  . exact h1.more (fun _=>Nat.le_refl _) (by omega)
  ·
   rename_i hn;have hx:=h1.nx c hc;have hz:((Av (Ar AA (AB AA) b c) c:Nat):Int)=(Ar AA (AB AA) b c).AL.getD c 0:=by unfold Av;omega
   have:=RB.go hc hg k (m+1) _ h1 (by omega) (by
    by_cases e':Bi AA c (Av (Ar AA (AB AA) b c) c)=g
    . exact e'
    . exact absurd (.inr (.inr e')) hn)
   exact this.more (fun _=>Nat.le_refl _) (by omega)
theorem NU {AA:List (List Dd)}{es:List Ev}{c k:Nat}(hk:0<k)(b:Bd):GC AA es 0 c k b=Ar AA es b c:=by
 cases k with
 |zero=>omega
 |succ k=>rw[GC,if_pos (.inl rfl)]
theorem GM {AA:List (List Dd)}{b:Bd}{c:Nat}(h:C6 AA b c=true):Av b c<(AA.getD c []).length/\(((An AA c (Av b c)).1<=2/\Bi AA c (Av b c)=0)\/b.AH.getD c []=[]):=by
 simp only[C6,Bool.and_eq_true,Bool.or_eq_true,decide_eq_true_eq,List.isEmpty_iff] at h;exact h
theorem EE {AA:List (List Dd)}(h:AW AA=true){c:Nat}(hc:c<AA.length):(AA.getD c []).length<=5:=by
 simp only[AW,Bool.and_eq_true,List.all_eq_true] at h;have:=h.1.1.1.2 _ (JQ (z:=[]) hc);simp only[Ft,Bool.and_eq_true,decide_eq_true_eq] at this;exact this.2
theorem RB.stepped {AA:List (List Dd)}{b:Bd}{n m:Nat}(h:RB AA b (fun _=>n) m){c:Nat}(hc:c<AA.length)(hcan:C6 AA b c=true)(c10:c<10):RB AA (Aq AA (AB AA) b (c:Int)) (fun _=>n+1) (m+5):=by
 obtain⟨hk,-⟩:=GM hcan;have h5:=EE h.work hc;unfold Aq;rw[if_neg (by omega),Int.toNat_natCast];by_cases g0:Bi AA c (Av b c)=0
 ·
  rw[g0,NU (by omega)];refine (h.one hc hk).more (fun i=>?_) (by omega);show (if _ then n+1 else n)<=n+1;split
  . exact Nat.le_refl _
  . exact Nat.le_succ _
 . exact (RB.go hc g0 _ _ _ h hk rfl).more (fun _=>Nat.le_succ _) (by omega)
theorem TC {AA:List (List Dd)}{c:Nat}(hc:c<AA.length){g:Int}:∀(k:Nat) {N:Nat->Nat} {m:Nat} (b:Bd),RB AA b N m->Av b c<(AA.getD c []).length->(∀i,i≠c->(GC AA (AB AA) g c k b).AL.getD i 0=b.AL.getD i 0)/\b.AL.getD c 0<=(GC AA (AB AA) g c k b).AL.getD c 0/\(0<k->b.AL.getD c 0<(GC AA (AB AA) g c k b).AL.getD c 0)
 | 0,_,_,b,_,_=>by rw[GC];exact⟨fun _ _=>rfl,Int.le_refl _,fun h=>absurd h (Nat.lt_irrefl 0)⟩
 |k+1,_,_,b,h,hk=>by
  obtain⟨e1,e2,e3⟩:=gJ h hc;have h1:=h.one hc hk;rw[GC];split
  . exact⟨e3,by omega,fun _=>by omega⟩
  ·
   rename_i hn;have hx:=h1.nx c hc;have hz:((Av (Ar AA (AB AA) b c) c:Nat):Int)=(Ar AA (AB AA) b c).AL.getD c 0:=by unfold Av;omega
   obtain⟨f1,f2,-⟩:=TC hc (g:=g) k _ h1 (by omega);exact⟨fun i hi=>(f1 i hi).trans (e3 i hi),by omega,fun _=>by omega⟩
def PQ (rs:List Int)(c k:Nat)(pl:Bool)(b:Bd)(n:Nat)(e:Ev):Bd:=
 if e.1=(c:Int)/\e.2.1=(k:Int) then
  if e.2.2.1=true then Fv rs b (n:Int) (C3 b c e.2.2.2.1.toNat).1 (C3 b c e.2.2.2.1.toNat).2
  else if pl=true then { b with AH:=b.AH.set c (b.AH.getD c []++[(e.2.2.2.1,e.2.2.2.2.1,(n:Int))]) }
  else Dw b e.2.2.2.1.toNat e.2.2.2.2.1 (n:Int)
 else b
def Cu (es:List Ev)(rs:List Int)(c k:Nat)(pl:Bool)(b:Bd):Nat->Bd
 | 0=>b
 |n+1=>PQ rs c k pl (Cu es rs c k pl b n) n (es.getD n zE)
def Dq (d:Dd):Bool:=decide (d.2.2.2=0)&&(decide (d.1=1)||decide (d.1=2))
theorem V4 {AA:List (List Dd)}(hb:AW AA=true){c k j:Nat}(hj:j<(AB AA).length)(h:((AB AA).getD j zE).1=(c:Int)/\((AB AA).getD j zE).2.1=(k:Int)):∃i,Dv AA j c k i:=by
 by_cases h3:3<=j
 ·
  obtain⟨c',k',i,E⟩:=He hb h3 hj;rw[E.at hb] at h;obtain⟨h1,h2⟩:=h;have h1:(c':Int)=(c:Int):=h1;have h2:(k':Int)=(k:Int):=h2;obtain rfl:c'=c:=by omega
  obtain rfl:k'=k:=by omega
  exact⟨i,E⟩
 ·
  exfalso;obtain⟨t,ht⟩:=GP AA 0 AA.length (Nat.zero_le _)
  have e:(AB AA).getD j zE=B5.getD j zE:=by
   rw[AB,if_pos hb,ht];show (B5++t).getD j zE=_;rw[List.getD_eq_getElem?_getD,List.getElem?_append_left (by show j<3;omega),<-List.getD_eq_getElem?_getD]
  rw[e] at h;have:j=0\/j=1\/j=2:=by omega
  rcases this with rfl|rfl|rfl<;>(have h1:(-1:Int)=(c:Int):=h.1;omega)
theorem JN {AA:List (List Dd)}(hb:AW AA=true){c k:Nat}{rs:List Int}{pl:Bool}{b:Bd}{n:Nat}:∀m:Nat,n+m<=(AB AA).length->(∀j i,n<=j->¬Dv AA j c k i)->Cu (AB AA) rs c k pl b (n+m)=Cu (AB AA) rs c k pl b n
 | 0,_,_=>rfl
 |m+1,hm,hn=>by
  rw[<-JN hb m (by omega) hn];show PQ rs c k pl (Cu (AB AA) rs c k pl b (n+m)) (n+m) ((AB AA).getD (n+m) zE)=_;unfold PQ;rw[if_neg (fun h=>by obtain⟨i,E⟩:=V4 hb (by omega) h;exact hn _ i (by omega) E)]
theorem S5 {AA:List (List Dd)}(hb:AW AA=true){c k:Nat}{rs:List Int}{pl:Bool}{b:Bd}:∀m:Nat,m<=(AB AA).length->m<=Ag AA c k->Cu (AB AA) rs c k pl b m=b
 | 0,_,_=>rfl
 |m+1,hm,ho=>by
  show PQ rs c k pl (Cu (AB AA) rs c k pl b m) m ((AB AA).getD m zE)=_;rw[S5 hb m (by omega) (by omega)];unfold PQ;rw[if_neg (fun h=>by obtain⟨i,E⟩:=V4 hb (by omega) h;have:=E.hj;omega)]
theorem Vx {AA:List (List Dd)}(hb:AW AA=true){c k j i:Nat}(E:Dv AA j c k i)(rs:List Int)(pl:Bool)(b:Bd):
  PQ rs c k pl b j ((AB AA).getD j zE) =
   if Ke (An AA c k) i=true then Fv rs b (j:Int) (C3 b c (An AA c k).2.1.toNat).1 (C3 b c (An AA c k).2.1.toNat).2
   else if pl=true then { b with AH:=b.AH.set c (b.AH.getD c []++[((An AA c k).2.1,Uu (An AA c k) i,(j:Int))]) }
   else Dw b (An AA c k).2.1.toNat (Uu (An AA c k) i) (j:Int):=by
 unfold PQ;rw[E.at hb,if_pos ⟨rfl,rfl⟩]
theorem Yj {AA:List (List Dd)}(hb:AW AA=true){c k:Nat}(hc:c<AA.length)(hk:k<(AA.getD c []).length)(b:Bd)(h3:(An AA c k).1=3->b.AH.getD c []=[]):
  Cu (AB AA) (AX Aj (AB AA)) c k (Dq (An AA c k)) b (AB AA).length=BM AA (AB AA) b c k:=by
 have hd:=CG (B7 hb hc k hk);have hg:=(WB (B7 hb hc) hk).1;have e0:∀pl:Bool,Ag AA c k<=(AB AA).length->Cu (AB AA) (AX Aj (AB AA)) c k pl b (Ag AA c k)=b:=fun pl h=>S5 hb _ h (Nat.le_refl _)
 by_cases h4:(An AA c k).1=4
 ·
  have:∀j i,¬Dv AA j c k i:=fun j i E=>E.kind h4
  have e:=JN hb (c:=c) (k:=k) (rs:=AX Aj (AB AA)) (pl:=Dq (An AA c k)) (b:=b) (n:=0) (AB AA).length (by omega) (fun j i _=>this j i);rw[Nat.zero_add] at e;rw[e];unfold BM;rw[if_neg (by omega),if_neg (by omega),if_neg (by omega),if_neg (by omega)];rfl
 have E:=Cv hc hk h4;have hl:=E.lt hb
 have e1:Cu (AB AA) (AX Aj (AB AA)) c k (Dq (An AA c k)) b (Ag AA c k+1)=PQ (AX Aj (AB AA)) c k (Dq (An AA c k)) b (Ag AA c k) ((AB AA).getD (Ag AA c k) zE):=by
  show PQ _ _ _ _ (Cu _ _ _ _ _ _ _) _ _=_;rw[e0 _ (by omega)]
 rw[Vx hb E] at e1;have hev:=Ip hb hc hk h4;by_cases k3:(An AA c k).1=3
 ·
  have E2:=Jq hc hk k3;have hl2:=E2.lt hb;have e2:Cu (AB AA) (AX Aj (AB AA)) c k (Dq (An AA c k)) b (Ag AA c k+1+1)=PQ (AX Aj (AB AA)) c k (Dq (An AA c k)) (Cu (AB AA) (AX Aj (AB AA)) c k (Dq (An AA c k)) b (Ag AA c k+1)) (Ag AA c k+1) ((AB AA).getD (Ag AA c k+1) zE):=rfl;rw[Vx hb E2,e1] at e2
  have es:=JN hb (c:=c) (k:=k) (rs:=AX Aj (AB AA)) (pl:=Dq (An AA c k)) (b:=b) (n:=Ag AA c k+1+1) ((AB AA).length-(Ag AA c k+1+1)) (by omega) (fun j i h E=>by
   have:=E.hj;have:=E.hi;unfold FO at this;rw[if_neg h4,if_pos k3] at this
   omega)
  rw[show Ag AA c k+1+1+((AB AA).length-(Ag AA c k+1+1))=(AB AA).length by omega] at es;rw[es,e2];have r0:Ke (An AA c k) 0=true:=by unfold Ke;rw[decide_eq_true (show (An AA c k).1≠2 by omega)];rfl
  have r1:Ke (An AA c k) 1=false:=by unfold Ke;simp
  have hp:Dq (An AA c k)=false:=by unfold Dq;rw[decide_eq_false (show ¬(An AA c k).1=1 by omega),decide_eq_false (show ¬(An AA c k).1=2 by omega)];simp
  have hv:Uu (An AA c k) 1=(An AA c k).2.2.1:=by unfold Uu;rw[r1];rfl
  rw[r0,r1,hp,hv];simp only[if_true,Bool.false_eq_true,if_false];unfold BM;rw[if_neg (by omega),if_pos k3,hev]
  have hr:C3 b c (An AA c k).2.1.toNat=(b.AM.getD (An AA c k).2.1.toNat 0,b.AQ.getD (An AA c k).2.1.toNat 0):=by
   unfold C3;rw[h3 k3];rfl
  rw[hr];rfl
 ·
  have es:=JN hb (c:=c) (k:=k) (rs:=AX Aj (AB AA)) (pl:=Dq (An AA c k)) (b:=b) (n:=Ag AA c k+1) ((AB AA).length-(Ag AA c k+1)) (by omega) (fun j i h E=>by
   have:=(Kn E k3).1
   omega)
  rw[show Ag AA c k+1+((AB AA).length-(Ag AA c k+1))=(AB AA).length by omega] at es;rw[es,e1];unfold BM;by_cases k1:(An AA c k).1=1
  ·
   have r0:Ke (An AA c k) 0=true:=by unfold Ke;rw[decide_eq_true (show (An AA c k).1≠2 by omega)];rfl
   rw[r0,if_pos rfl,if_pos k1,hev]
  ·
   have k2:(An AA c k).1=2:=by omega
   have r0:Ke (An AA c k) 0=false:=by unfold Ke;rw[decide_eq_false (show ¬(An AA c k).1≠2 by omega)];rfl
   have hv:Uu (An AA c k) 0=(An AA c k).2.2.1:=by unfold Uu;rw[r0];rfl
   rw[r0,hv,if_neg (by simp),if_neg k1,if_neg k3,hev];by_cases g0:0<Bi AA c k
   ·
    have hp:Dq (An AA c k)=false:=by
     unfold Dq;rw[decide_eq_false (show ¬(An AA c k).2.2.2=0 from fun h=>by have h:Bi AA c k=0:=h;omega)];rfl
    rw[if_neg (by rw[hp];simp),if_pos ⟨k2,g0⟩]
   ·
    have hp:Dq (An AA c k)=true:=by
     unfold Dq;rw[decide_eq_true (show (An AA c k).2.2.2=0 by show Bi AA c k=0;omega),decide_eq_true k2];simp
    rw[if_pos hp,if_neg (fun h=>g0 h.2),if_pos k2]
theorem Qn {rs l:List Int}{i:Nat}{v:Int}(hr:rs.Pairwise (·<·))(hi:i<rs.length)(hl:l.length=rs.length):Gx rs (rs.getD i 0) v l=l.set i v:=by
 unfold Gx;apply List.ext_getElem?;intro j;have hgi:rs.getD i 0=rs[i]:=by rw[List.getD_eq_getElem?_getD,List.getElem?_eq_getElem hi];rfl
 rw[List.getElem?_zipWith,List.getElem?_set,hgi];by_cases hj:j<rs.length
 ·
  rw[List.getElem?_eq_getElem hj,List.getElem?_eq_getElem (by omega:j<l.length)];by_cases e:i=j
  ·
   subst e;rw[if_pos rfl,if_pos (by omega)];simp
  ·
   rw[if_neg e]
   have hne:rs[j]≠rs[i]:=by
    rw[List.pairwise_iff_getElem] at hr;rcases Nat.lt_or_ge i j with q|q
    . have:=hr i j hi hj q;omega
    . have:=hr j i hj hi (by omega);omega
   simp[hne]
 ·
  rw[List.getElem?_eq_none (by omega:rs.length<=j),List.getElem?_eq_none (by omega:l.length<=j)];by_cases e:i=j
  . omega
  . rw[if_neg e]
theorem P7 {AA:List (List Dd)}{es:List Ev}{g:Int}{c m:Nat}{b:Bd}(hlen:Av (Ar AA es b c) c<=(AA.getD c []).length)(hnx:Av (Ar AA es b c) c=Av b c+1)(hg:Bi AA c (Av b c)=g):
  GC AA es g c (m+1) b=if Av (Ar AA es b c) c<(AA.getD c []).length/\GQ (AA.getD c []) (Av (Ar AA es b c) c)=true then GC AA es g c m (Ar AA es b c) else Ar AA es b c:=by
 show (if g=0\/Av (Ar AA es b c) c=(AA.getD c []).length\/Bi AA c (Av (Ar AA es b c) c)≠g then Ar AA es b c else GC AA es g c m (Ar AA es b c))=_
 have hgo:GQ (AA.getD c []) (Av (Ar AA es b c) c)=true↔Bi AA c (Av (Ar AA es b c) c)≠0/\Bi AA c (Av (Ar AA es b c) c)=g:=by
  unfold GQ;rw[hnx];rw[show Av b c+1-1=Av b c from rfl];have e1:((AA.getD c []).getD (Av b c+1) zD).2.2.2=Bi AA c (Av b c+1):=rfl;have e2:((AA.getD c []).getD (Av b c) zD).2.2.2=Bi AA c (Av b c):=rfl;rw[e1,e2,hg];simp
 by_cases h1:Av (Ar AA es b c) c<(AA.getD c []).length/\GQ (AA.getD c []) (Av (Ar AA es b c) c)=true
 ·
  rw[if_pos h1,if_neg];obtain⟨h2,h3⟩:=hgo.1 h1.2;rintro (h|h|h)
  . omega
  . omega
  . exact h h3
 ·
  rw[if_neg h1,if_pos];by_cases h2:Av (Ar AA es b c) c<(AA.getD c []).length
  ·
   have h3:¬(Bi AA c (Av (Ar AA es b c) c)≠0/\Bi AA c (Av (Ar AA es b c) c)=g):=fun h=>h1 ⟨h2,hgo.2 h⟩
   by_cases hz:g=0
   . exact .inl hz
   ·
    right;right;intro e;exact h3 ⟨by rw[e];exact hz,e⟩
  . right;left;omega
section
section
variable {P:Program} {ops:Array Oper} {Q:Exit->Act->World->Prop} {md:Region.Mode}
def Nj (listed:Array Bool):Nat:=listed.toList.countP (fun b=>!b)
theorem NK:∀(l:List Bool) (i:Nat),l[i]? = some false->(l.set i true).countP (fun b=>!b)+1=l.countP (fun b=>!b)
 | [],i,h=>by simp at h
 |x::r,0,h=>by
  simp at h;subst h;simp
 |x::r,i+1,h=>by
  have ih:=NK r i (by simpa using h);rw[List.set_cons_succ,List.countP_cons,List.countP_cons];omega
theorem Nk {listed:Array Bool}{i:Nat}(h:listed[i]? = some false):Nj (listed.setIfInBounds i true)+1=Nj listed:=by
 unfold Nj;rw[Array.toList_setIfInBounds];exact NK _ _ (by rw[Array.getElem?_toList];exact h)
theorem AG {listed:Array Bool}{i:Nat}(h:i∈Region.ready md ops listed):i<ops.size/\listed[i]? = some false/\∀o,ops[i]? = some o->o.after.all (fun e=>!Region.binds md e||listed.getD e.on false)=true:=by
 unfold Region.ready at h;rw[List.mem_filter,List.mem_range] at h;obtain⟨h1,h2⟩:=h;simp only[Bool.and_eq_true,Bool.not_eq_true'] at h2;refine⟨h1,?_,fun o ho=>?_⟩
 ·
  have h3:=h2.1;rw[Array.getD_eq_getD_getElem?] at h3
  cases e:listed[i]? with
  |none=>rw[e] at h3;cases h3
  |some b=>rw[e] at h3;simp at h3;rw[h3]
 ·
  have h3:=h2.2;rw[ho] at h3
  simpa using h3
theorem OI (J:Array Bool->Act->World->Prop)
  (step:∀listed a w,J listed a w->∀i,i∈Region.ready md ops listed->wpOp P ops Q i (fun a' w'=>J (listed.setIfInBounds i true) a' w') a w)
  (done:∀listed a w,J listed a w->Region.ready md ops listed=[]->Q .normal a w):
  ∀(fuel:Nat) (listed:Array Bool) (a:Act) (w:World),Nj listed<=fuel->J listed a w->wpAny P md ops Q fuel listed a w
 | 0,listed,a,w,hl,hJ=>by
  have hr:Region.ready md ops listed=[]:=by
   cases h:Region.ready md ops listed with
   |nil=>rfl
   |cons i r=>
    exfalso;have h2:=(AG (md:=md) (ops:=ops) (listed:=listed) (i:=i) (by rw[h];simp)).2.1;have:=Nk h2;omega
  exact⟨hr,done listed a w hJ hr⟩
 |fuel+1,listed,a,w,hl,hJ=>by
  refine⟨fun hr=>done listed a w hJ hr,fun i hi=>?_⟩;refine wpOp_mono (fun a' w' hJ'=>OI J step done fuel _ a' w' ?_ hJ') (step listed a w hJ i hi);have:=Nk (AG hi).2.1;omega
theorem SC (n:Nat):Nj (Array.replicate n false)=n:=by
 unfold Nj;rw[Array.toList_replicate];simp[List.countP_replicate]
theorem Bk {id:Nat}{a:Act}{w:World}(hm:P.follows .mixedOrders=true)(J:Array Bool->Act->World->Prop)
  (start:J (Array.replicate ops.size false) a w.drew)
  (step:∀listed a w,J listed a w->∀i,i∈Region.ready .any ops listed->wpOp P ops Q i (fun a' w'=>J (listed.setIfInBounds i true) a' w') a w)
  (done:∀listed a w,J listed a w->Region.ready .any ops listed=[]->Q .normal a w):(Code.region id ops true).wp P Q a w:=
 wp_region_any hm (OI J step done ops.size _ a _ (by rw[SC];exact Nat.le_refl _) start)
end
end
def Gw (v:Value)(n:Nat)(a:Addr):Prop:=∃b o l c i,v = .slice (some ⟨b,o,none⟩) l c/\i<n/\a=⟨b,o+i,none⟩
def Wb (w:World)(a:Addr):Prop:=∃cur t,w.heap[a.block]? = some (.cells cur t (0,0))/\a.off<cur.size
structure Pg (S:Addr->Prop)(w w':World):Prop where
 os:w'.os=w.os
 tape:w'.tape=w.tape
 output:w'.output=w.output
 size:w.heap.size<=w'.heap.size
 cell:∀a,a.block<w.heap.size->¬S a->w'.cell? a=w.cell? a
 shape:∀(b:Nat) (cur:Array Value) (t:TypeId),w.heap[b]? = some (Obj.cells cur t (0,0))->∃cur':Array Value,w'.heap[b]? = some (Obj.cells cur' t (0,0))/\cur'.size=cur.size
 block:∀b,b<w.heap.size->(∀a,S a->a.block≠b)->w'.heap[b]? = w.heap[b]?
def iQ (w:World)(v:Value)(n:Nat)(k:Int):Prop:=∀b o l c i,v = .slice (some ⟨b,o,none⟩) l c->i<n->w.cell? ⟨b,o+i,none⟩=some (.int .i64 (k+i))
theorem Wb.lt {w:World}{a:Addr}(h:Wb w a):a.block<w.heap.size:=by
 obtain⟨cur,t,h,_⟩:=h;exact (Array.getElem?_eq_some_iff.1 h).1
theorem Wb.free {w:World}{b o:Nat}(h:Wb w ⟨b,o,none⟩):w.frozen? ⟨b,o,none⟩=false:=by
 obtain⟨cur,t,h,_⟩:=h;exact frozen_of_row w b o cur t h
theorem Wb.cell {w:World}{b o:Nat}(h:Wb w ⟨b,o,none⟩):∃u,w.cell? ⟨b,o,none⟩=some u:=by
 obtain⟨cur,t,h,hn⟩:=h;exact⟨cur[o],by rw[cell_of_row w b o cur t (0,0) h,Array.getElem?_eq_getElem hn]⟩
theorem Wb.kept {S:Addr->Prop}{w w':World}{a:Addr}(h:Wb w a)(k:Pg S w w'):Wb w' a:=by
 obtain⟨cur,t,h,hn⟩:=h;obtain⟨cur',h',e⟩:=k.shape _ _ _ h;exact⟨cur',t,h',by rw[e];exact hn⟩
theorem Wb.keep {w w':World}{a:Addr}(h:Wb w a)(k:AC w w'):Wb w' a:=by
 have hl:=h.lt;obtain⟨cur,t,h,hn⟩:=h;exact⟨cur,t,(Below.block k _ hl).trans h,hn⟩
theorem Pg.refl (S:Addr->Prop)(w:World):Pg S w w:=⟨rfl,rfl,rfl,Nat.le_refl _,fun _ _ _=>rfl,fun _ cur _ h=>⟨cur,h,rfl⟩,fun _ _ _=>rfl⟩
theorem Pg.trans {S:Addr->Prop}{a b c:World}(h:Pg S a b)(k:Pg S b c):Pg S a c:=
  ⟨k.os.trans h.os,k.tape.trans h.tape,k.output.trans h.output,Nat.le_trans h.size k.size,
   fun x hx hn=>(k.cell x (Nat.lt_of_lt_of_le hx h.size) hn).trans (h.cell x hx hn),
   fun q cur t hq=>by
    obtain⟨c1,h1,e1⟩:=h.shape q cur t hq;obtain⟨c2,h2,e2⟩:=k.shape q c1 t h1
    exact⟨c2,h2,e2.trans e1⟩,
   fun q hq hn=>(k.block q (Nat.lt_of_lt_of_le hq h.size) hn).trans (h.block q hq hn)⟩
theorem Pg.more {S T:Addr->Prop}{w w':World}(h:Pg S w w')(hs:∀a,S a->T a):Pg T w w':=
 ⟨h.os,h.tape,h.output,h.size,fun a ha hn=>h.cell a ha (fun hS=>hn (hs a hS)),h.shape,fun b hb hn=>h.block b hb (fun a ha=>hn a (hs a ha))⟩
theorem Pg.set {S:Addr->Prop}{a w:World}(h:Pg S a w){b o:Nat}(x:Value)(hb:Wb w ⟨b,o,none⟩)(hS:S ⟨b,o,none⟩):Pg S a (w.setCell ⟨b,o,none⟩ x):=by
 refine h.trans ⟨rfl,rfl,rfl,by simp,fun q _ hn=>World.cell?_setCell_other _ _ _ _ (fun e=>hn (e ▸ hS)),fun q cur t hq=>?_,fun q _ hn=>heap_setCell_other w ⟨b,o,none⟩ q x (fun e=>hn _ hS e.symm)⟩;by_cases e:q=b
 ·
  subst e;exact⟨cur.setIfInBounds o x,heap_setCell_same w q o cur t x hq,by simp⟩
 . exact⟨cur,(heap_setCell_other w ⟨b,o,none⟩ q x e).trans hq,rfl⟩
theorem Wb.set {w:World}{a:Addr}{b o:Nat}(x:Value)(h:Wb w a):Wb (w.setCell ⟨b,o,none⟩ x) a:=by
 obtain⟨cur,t,h,hn⟩:=h;by_cases e:a.block=b
 ·
  refine⟨cur.setIfInBounds o x,t,?_,by simpa using hn⟩;rw[e] at h ⊢;exact heap_setCell_same w b o cur t x h
 . exact⟨cur,t,(heap_setCell_other w ⟨b,o,none⟩ a.block x e).trans h,hn⟩
theorem iQ.kept {S:Addr->Prop}{w w':World}{v:Value}{n:Nat}{k:Int}(h:iQ w v n k)(g:Pg S w w')(hd:∀a,Gw v n a->¬S a)(hw:∀a,Gw v n a->a.block<w.heap.size):iQ w' v n k:=
 fun b o l c i e hi=>(g.cell _ (hw _ ⟨b,o,l,c,i,e,hi,rfl⟩) (hd _ ⟨b,o,l,c,i,e,hi,rfl⟩)).trans (h b o l c i e hi)
theorem iQ.keep {w w':World}{v:Value}{n:Nat}{k:Int}(h:iQ w v n k)(g:AC w w')(hw:∀a,Gw v n a->a.block<w.heap.size):iQ w' v n k:=
 fun b o l c i e hi=>(g.cell (hw _ ⟨b,o,l,c,i,e,hi,rfl⟩)).trans (h b o l c i e hi)
def Hv (rs:List (Value×Nat))(a:Addr):Prop:=∃r∈rs,Gw r.1 r.2 a
structure JE (w:World)(rs:List (Value×Nat)):Prop where
 wb:∀a,Hv rs a->Wb w a
 ap:rs.Pairwise (fun r s=>∀a,Gw r.1 r.2 a->¬Gw s.1 s.2 a)
theorem JE.kept {S:Addr->Prop}{w w':World}{rs:List (Value×Nat)}(h:JE w rs)(g:Pg S w w'):JE w' rs:=⟨fun a ha=>(h.wb a ha).kept g,h.ap⟩
theorem JE.keep {w w':World}{rs:List (Value×Nat)}(h:JE w rs)(g:AC w w'):JE w' rs:=⟨fun a ha=>(h.wb a ha).keep g,h.ap⟩
theorem JE.apart {w:World}{a b:List (Value×Nat)}(h:JE w (a++b)):∀x,Hv a x->¬Hv b x:=by
 rintro x ⟨r,hr,h1⟩ ⟨s,hs,h2⟩;exact (List.pairwise_append.1 h.ap).2.2 r hr s hs x h1 h2
theorem En {AA:List (List Dd)}{b:Bd}(h:Af AA b=true):AW AA=true/\b.AM.length=3/\b.AQ.length=3/\b.rws.length=3/\b.AH.length=AA.length/\b.AL.length=AA.length/\b.sn.length<=12/\b.fr.length<=12/\(∀i,i<3->(b.rws.getD i []).length<=20)/\∀i,i<AA.length->(b.AH.getD i []).length<=8:=by
 unfold Af DF Ef EC at h;simp only[Bool.and_eq_true,decide_eq_true_eq] at h;obtain⟨⟨h1,h2,h3,h4,h5,h6⟩,⟨_,_,_,_,h7,h8⟩,h9,h10⟩:=h;unfold DW at h7 h8;simp only[Bool.and_eq_true,decide_eq_true_eq] at h7 h8;refine⟨h1,h2,h3,h4,h5,h6,h7.2,h8.2,fun i hi=>?_,fun i hi=>?_⟩
 ·
  have:=List.all_eq_true.1 h9 i (List.mem_range.2 hi);unfold DW at this;simp only[Bool.and_eq_true,decide_eq_true_eq] at this;exact this.2
 ·
  have:=List.all_eq_true.1 h10 i (List.mem_range.2 hi);unfold Lg at this;simp only[Bool.and_eq_true,decide_eq_true_eq] at this;exact this.2.1
theorem FV {AA:List (List Dd)}(h:AW AA=true):AA.length<=3/\∀i,i<AA.length->(AA.getD i []).length<=1048576:=by
 obtain⟨h1,h2⟩:=As h;refine⟨h1,fun i hi=>?_⟩;have hq:=h2 i hi;unfold Ft at hq;rw[Bool.and_eq_true,decide_eq_true_eq] at hq;omega
theorem A8.lit {w:World}{base:Nat}{v:Value}{zs:List Int}(h:A8 w base v zs){k:Nat}(hk:k<zs.length):∃g cap,v = .slice (some ⟨g,0,none⟩) zs.length cap/\g<w.heap.size/\(∀i,i<zs.length->w.cell? ⟨g,i,none⟩=some (.int .i64 (zs.getD i 0)))/\∀i,w.frozen? ⟨g,i,none⟩=false:=by
 have h':=h;have hlt:=World.ownsRow.lt h;rcases h.2 with ⟨_,hn⟩|⟨g,cap,cur,rfl,_⟩
 . omega
 ·
  refine⟨g,cap,rfl,(hlt g rfl).2,fun i hi=>?_,fun i=>World.ownsRow.frozenAt h' i⟩;rw[World.ownsRow.cellAt h' i (by simpa using hi),List.getElem?_map,List.getElem?_eq_getElem hi,List.getD_eq_getElem?_getD,List.getElem?_eq_getElem hi];rfl
theorem Ds {P:Program}{w:World}{ops:Array Oper}{o:Oper}{a:Act}{K:Act->World->Prop}{Q:Exit->Act->World->Prop}{E:Prop}(hgd:o.guard=none)(s x:Operand)(t:TypeId)
  (ho:o.op = .call { callee:= .builtin .append,args:=#[s,x],argTypes:=#[t,t] })
  (base:Nat) (e:TypeId) (i:TypeInfo) (z:Value) (size bytes:Nat) (ht:P.underlying t=some (.slice e)) (hi:P.info? e=some i) (hz:i.zero=some z)
  (hsize:i.size=size) (hby:i.bytes=bytes) (hzs:z.cells.size=size) (hsz:0<size)
  (v:Value) (n:Nat) (xs:List Value) (hs:a.eval s=v) (hown:w.ownsRow base e size v n xs)
  (ad:Addr) (m c:Nat) (news:List Value) (hx:a.eval x = .slice (some ad) m c) (hl:news.length=m*size) (hnews:∀j u,news[j]? = some u->w.cell? (ad.add j)=some u) (h1:∀u∈news,u.oneCell'=true)
  (h63:n+m<=maxLen) (hbytes:(n+m)*bytes<=140737488355328) (hbase:base<=w.heap.size)
  (h:∀v' w',w'.ownsRow base e size v' (n+m) (xs++news)->w.grownBy w' v.ownBlock->(v'.ownBlock=v.ownBlock\/v'.ownBlock=some w.heap.size)->K (a.put o.dst v') w'):
  if Region.wanted o (yielded ops a.tmps)=true then Oper.wp P o a w K Q else E:=by
 have hw:Region.wanted o (yielded ops a.tmps)=true:=by simp[Region.wanted,hgd]
 rw[if_pos hw];obtain⟨v',w',hr,h2,h3,h4,h5⟩:=run_append_own_at (P:=P) w base t o.type e i z size bytes ht hi hz hsize hby hzs hsz v n xs hown ad m c news hl hnews h1 h63 hbytes hbase;unfold Oper.wp execOp;simp only[ho,resolve,invoke,builtin,Sem.run_bind,Sem.run_pure,Result.andThen_ok,List.map_toArray,List.map_cons,List.map_nil,hs,hx,hr];exact h v' w' h2 h3 h5
def KI (ns:List Nt)(p:Int)(y:Nt)(k:Nat):Nt:=((ns.take k).reverse.find? (fun x=>x.1==p)).getD y
theorem SZ (ns:List Nt)(p:Int)(y:Nt)(k:Nat)(h:k<ns.length):KI ns p y (k+1)=if (ns.getD k (0,0,0)).1=p then ns.getD k (0,0,0) else KI ns p y k:=by
 have e:ns.take (k+1)=ns.take k++[ns.getD k (0,0,0)]:=by
  rw[List.take_add_one,List.getD_eq_getElem?_getD,List.getElem?_eq_getElem h];rfl
 unfold KI;rw[e,List.reverse_append];simp only[List.reverse_cons,List.reverse_nil,List.nil_append,List.cons_append,List.find?_cons];by_cases q:(ns.getD k (0,0,0)).1=p
 ·
  rw[if_pos q];have:((ns.getD k (0,0,0)).1==p)=true:=by simpa using q
  rw[this];rfl
 ·
  rw[if_neg q];have:((ns.getD k (0,0,0)).1==p)=false:=by simpa using q
  rw[this]
theorem Un (b:Bd)(c p:Nat):(KI (b.AH.getD c []) (p:Int) ((p:Int),b.AM.getD p 0,b.AQ.getD p 0) (b.AH.getD c []).length).2=C3 b c p:=by
 unfold KI C3;rw[List.take_length];cases (b.AH.getD c []).reverse.find? (fun x=>x.1==(p:Int))<;>rfl
theorem WT {l:List Int}{n:Int}(h:∀i,i<l.length->l.getD i 0≠n):Dx l n=false:=by
 unfold Dx;rw[List.any_eq_false];intro x hx;obtain⟨i,hi,e⟩:=List.getElem_of_mem hx;have:=h i hi;rw[List.getD_eq_getElem?_getD,List.getElem?_eq_getElem hi] at this;simp only[Option.getD_some] at this;rw[<-e]
 simpa using this
theorem fQ {l:List Int}{n:Int}{i:Nat}(hi:i<l.length)(h:l.getD i 0=n):Dx l n=true:=by
 unfold Dx;rw[List.any_eq_true];refine⟨n,?_,by simp⟩;rw[<-h,List.getD_eq_getElem?_getD,List.getElem?_eq_getElem hi];exact List.getElem_mem hi
theorem MR {AA:List (List Dd)}(h3:AA.length<=3){b:Bd}{s:Int}(h:Dx (Ae AA b) s=true):
  (∃c:Nat,s=10+(c:Int)/\c<AA.length/\∃x r,b.AH.getD c []=x::r)\/(∃c:Nat,s=(c:Int)/\c<AA.length/\c<10/\C6 AA b c=true):=by
 have:=GX h;unfold Ae at this;rcases List.mem_append.1 this with h|h
 ·
  obtain⟨c,hc,rfl⟩:=List.mem_map.1 h;obtain⟨h1,h2⟩:=List.mem_filter.1 hc;have:=List.mem_range.1 h1;exact .inr ⟨c,rfl,this,by omega,h2⟩
 ·
  obtain⟨c,hc,rfl⟩:=List.mem_map.1 h;obtain⟨h1,h2⟩:=List.mem_filter.1 hc;refine .inl ⟨c,rfl,List.mem_range.1 h1,?_⟩
  cases e:b.AH.getD c [] with
  |nil=>rw[e] at h2;simp at h2
  |cons x r=>exact⟨x,r,rfl⟩
theorem UF {AA:List (List Dd)}{b:Bd}{N:Nat->Nat}{m:Nat}(h:RB AA b N m){c:Nat}(hc:c<AA.length){x:Nt}{r:List Nt}(e:b.AH.getD c []=x::r):
  ∃p:Nat,p<3/\x.1=(p:Int)/\(Aq AA (AB AA) b (10+(c:Int))).AM.getD p 0=x.2.1/\(Aq AA (AB AA) b (10+(c:Int))).AQ.getD p 0=x.2.2 /\
   ((Aq AA (AB AA) b (10+(c:Int))).AH.getD c []).length+1=(b.AH.getD c []).length/\(Aq AA (AB AA) b (10+(c:Int))).AL=b.AL/\(Aq AA (AB AA) b (10+(c:Int))).sn=b.sn:=by
 have hx:=((h.nl c).2 x (by rw[e];simp)).1
 have es:Aq AA (AB AA) b (10+(c:Int))=Dw { b with AH:=b.AH.set c r } x.1.toNat x.2.1 x.2.2:=by
  unfold Aq;rw[if_pos (by omega)];have:(10+(c:Int)-10).toNat=c:=by omega
  rw[this,Bs,e]
 rw[es];refine⟨x.1.toNat,by omega,by omega,?_,?_,?_,rfl,rfl⟩
 ·
  show (b.AM.set x.1.toNat x.2.1).getD x.1.toNat 0=_;rw[Bu _ _ _ _ _ (by rw[h.AM];omega),if_pos rfl]
 ·
  show (b.AQ.set x.1.toNat x.2.2).getD x.1.toNat 0=_;rw[Bu _ _ _ _ _ (by rw[h.AQ];omega),if_pos rfl]
 ·
  show ((b.AH.set c r).getD c []).length+1=_;rw[Bu _ _ _ _ _ (by rw[h.AH];exact hc),if_pos rfl,e];rfl
theorem fA {AA:List (List Dd)}{b:Bd}{N:Nat->Nat}{m:Nat}(h:RB AA b N m){c:Nat}(hc:c<AA.length)(c10:c<10)(hcan:C6 AA b c=true):
  (∀i,i≠c->(Aq AA (AB AA) b (c:Int)).AL.getD i 0=b.AL.getD i 0)/\b.AL.getD c 0<(Aq AA (AB AA) b (c:Int)).AL.getD c 0:=by
 obtain⟨hk,-⟩:=GM hcan;unfold Aq;rw[if_neg (by omega),Int.toNat_natCast];obtain⟨h1,-,h2⟩:=TC hc (g:=Bi AA c (Av b c)) (AA.getD c []).length b h hk;exact⟨h1,h2 (by omega)⟩
theorem Mc {AA:List (List Dd)}{b:Bd}{c:Nat}(c10:c<10)(hk:Av b c<(AA.getD c []).length)(g0:Bi AA c (Av b c)=0):Aq AA (AB AA) b (c:Int)=Ar AA (AB AA) b c:=by
 unfold Aq;rw[if_neg (by omega),Int.toNat_natCast,g0,NU (by omega)]
theorem Uw {AA:List (List Dd)}{b:Bd}{N:Nat->Nat}{m:Nat}(h:RB AA b N m){c:Nat}(hc:c<AA.length)(c10:c<10)(hcan:C6 AA b c=true)(h2:(An AA c (Av b c)).1=2)(g0:Bi AA c (Av b c)=0):
  (Aq AA (AB AA) b (c:Int)).AM=b.AM/\∃e,(Aq AA (AB AA) b (c:Int)).AH.getD c []=b.AH.getD c []++[((An AA c (Av b c)).2.1,(An AA c (Av b c)).2.2.1,e)]:=by
 obtain⟨hk,-⟩:=GM hcan;rw[Mc c10 hk g0]
 have e:Ar AA (AB AA) b c={ b with AH:=b.AH.set c (b.AH.getD c []++[((An AA c (Av b c)).2.1,(An AA c (Av b c)).2.2.1,JB (AB AA) c (Av b c))]),AL:=b.AL.set c (b.AL.getD c 0+1) }:=by
  unfold Ar BM;rw[if_neg (by omega),if_neg (by omega),if_neg (by rw[g0];omega),if_pos h2]
 rw[e];refine⟨rfl,JB (AB AA) c (Av b c),?_⟩;show (b.AH.set c _).getD c []=_;rw[Bu _ _ _ _ _ (by rw[h.AH];exact hc),if_pos rfl]
theorem XP {AA:List (List Dd)}{b:Bd}{N:Nat->Nat}{m:Nat}(h:RB AA b N m){c:Nat}(hc:c<AA.length)(c10:c<10)(hcan:C6 AA b c=true)(h3:(An AA c (Av b c)).1=3):
  ∃p:Nat,p<3/\(An AA c (Av b c)).2.1=(p:Int)/\(Aq AA (AB AA) b (c:Int)).AM.getD p 0=(An AA c (Av b c)).2.2.1/\(Aq AA (AB AA) b (c:Int)).AH.getD c []=[]:=by
 obtain⟨hk,hn⟩:=GM hcan;have ho:=B7 h.work hc _ hk;have g0:Bi AA c (Av b c)=0:=(Bv ho).2.2.2.2 (by show 2<(An AA c (Av b c)).1;omega)
 have n0:b.AH.getD c []=[]:=by
  rcases hn with hn|hn
  . omega
  . exact hn
 obtain⟨⟨p,hp,ep⟩,-⟩:=OW h.work hc hk;have hP:(An AA c (Av b c)).2.1.toNat=p:=by omega
 rw[Mc c10 hk g0];refine⟨p,hp,ep,?_,?_⟩
 ·
  unfold Ar BM;rw[if_neg (by omega),if_pos h3,hP];show (b.AM.set p _).getD p 0=_;rw[Bu _ _ _ _ _ (by rw[h.AM];exact hp),if_pos rfl]
 ·
  unfold Ar BM;rw[if_neg (by omega),if_pos h3];exact n0
theorem W7 {AA:List (List Dd)}{b:Bd}{c:Nat}(c10:c<10)(hcan:C6 AA b c=true)(h2:(An AA c (Av b c)).1≠2)(h3:(An AA c (Av b c)).1≠3)(g0:Bi AA c (Av b c)=0):
  (Aq AA (AB AA) b (c:Int)).AM=b.AM/\(Aq AA (AB AA) b (c:Int)).AH=b.AH:=by
 obtain⟨hk,-⟩:=GM hcan;rw[Mc c10 hk g0];unfold Ar BM;by_cases h1:(An AA c (Av b c)).1=1
 . rw[if_pos h1];exact⟨rfl,rfl⟩
 . rw[if_neg h1,if_neg h3,if_neg (fun h=>h2 h.1),if_neg h2];exact⟨rfl,rfl⟩
def IW {α:Type}:List (List α)->Nat
 | []=>0
 |d::r=>d.length+IW r
theorem QO {α:Type}:∀(l r:List (List α)),IW (l++r)=IW l+IW r
 | [],r=>by simp[IW]
 |d::l,r=>by rw[List.cons_append,IW,IW,QO l r];omega
theorem UO {α:Type}(AA:List (List α))(k:Nat)(h:k<AA.length):IW (AA.take (k+1))=IW (AA.take k)+(AA.getD k []).length:=by
 rw[List.take_add_one,List.getElem?_eq_getElem h,QO,List.getD_eq_getElem?_getD,List.getElem?_eq_getElem h];simp[IW]
def Pf (AA:List (List Dd))(b:Bd):Prop:=Cy AA<=1048576/\IW b.AH<=1048576/\IW b.rws<=1048576
theorem Sb {l:List Int}{i q:Nat}(hi:i<q)(hq:q<l.length):[l.getD i 0,l.getD q 0].Sublist l:=by
 have h1:[l.getD i 0].Sublist (l.take q):=by
  rw[List.singleton_sublist,List.mem_take_iff_getElem];refine⟨i,by omega,?_⟩;rw[List.getD_eq_getElem?_getD,List.getElem?_eq_getElem (by omega)];rfl
 have h2:[l.getD q 0].Sublist (l.drop q):=by
  rw[List.singleton_sublist,List.mem_drop_iff_getElem];refine⟨0,by omega,?_⟩;rw[List.getD_eq_getElem?_getD,List.getElem?_eq_getElem hq];simp
 have:=h1.append h2
 rwa [List.take_append_drop] at this
theorem YX {L:List Nat}(hn:L.Nodup){x y:Nat}(h:Ux L x y):L.idxOf x<L.idxOf y:=by
 induction L with
 |nil=>cases h
 |cons c L ih=>
  rw[List.nodup_cons] at hn
  have hxy:x≠y:=by
   have:=h.nodup (by rw[List.nodup_cons];exact hn);intro e;rw[e] at this;simp at this
  cases h with
  |cons _ h'=>
   have hm:=JH h';have hx:c≠x:=fun e=>hn.1 (by rw[e];exact hm.1)
   have hy:c≠y:=fun e=>hn.1 (by rw[e];exact hm.2)
   rw[List.idxOf_cons,List.idxOf_cons,beq_eq_false_iff_ne.2 hx,beq_eq_false_iff_ne.2 hy];exact Nat.succ_lt_succ (ih hn.2 h')
  |cons_cons _ h'=>
   rw[List.idxOf_cons_self,List.idxOf_cons,beq_eq_false_iff_ne.2 hxy];exact Nat.succ_pos _
structure M7 (AA:List (List Dd))(a:Ab)(τ:Nat->Nat)(T:Nat)(z:Int)(b:Bd):Prop where
 inv:Fw (Au AA) (Eh AA a τ) T z
 DD:iT AA b a
 none:∀c,(Eh AA a τ).N c=[]
 all:∀j,j<(AB AA).length->(Eh AA a τ).D (Au AA) j
theorem M7.yG {AA:List (List Dd)}{a:Ab}{τ:Nat->Nat}{T:Nat}{z:Int}{b:Bd}(h:M7 AA a τ T z b):b.fr=(AX Aj (AB AA)).map (fun r=>(a.F r.toNat:Int))/\b.sn=(AX Aj (AB AA)).map (fun r=>Jh AA (a.F r.toNat)):=by
 have hx:=Bg AA;rw[h.DD.fr,h.DD.sn]
 constructor <;>
 ·
  refine List.map_congr_left (fun r hr=>?_);obtain⟨j,rfl,hj,_⟩:=Fh hx hr;rw[Int.toNat_natCast,if_pos (h.all j hj).1.2]
theorem M7.rd {AA:List (List Dd)}{a:Ab}{τ:Nat->Nat}{T:Nat}{z:Int}{b:Bd}(h:M7 AA a τ T z b){i:Nat}(hi:i<(AX Aj (AB AA)).length):∃r:Nat,r<(AB AA).length/\(AX Aj (AB AA)).getD i 0=(r:Int)/\b.fr.getD i 0=(a.F r:Int)/\(Au AA).rd r=true:=by
 have hx:=Bg AA;obtain⟨r,e,hr,hrd⟩:=Fh hx (P0 hi);refine⟨r,hr,e,?_,hrd⟩;rw[h.yG.1,List.getD_eq_getElem?_getD,List.getElem?_map];rw[List.getD_eq_getElem?_getD,List.getElem?_eq_getElem hi] at e;rw[List.getElem?_eq_getElem hi];simp only[Option.getD_some] at e;simp[e]
theorem M7.src {AA:List (List Dd)}{a:Ab}{τ:Nat->Nat}{T:Nat}{z:Int}{b:Bd}(hb:AW AA=true)(h:M7 AA a τ T z b):Qp (Lf (AB AA)) b.fr=true:=by
 have hx:=Bg AA;have hc:(Lf (AB AA)).length=(AX Aj (AB AA)).length:=Fz _ _ _;unfold Qp;rw[Bool.and_eq_true,decide_eq_true_eq];refine⟨by rw[hc,h.yG.1,List.length_map],(MY _).2 (fun i hi=>?_)⟩;rw[hc] at hi;obtain⟨r,hr,e1,e2,e3⟩:=h.rd hi;obtain⟨q1,q2,q3,_⟩:=h.inv.src r (h.all r hr).1 e3;unfold Lf;rw[Ld _ _ _ _ hi,e1,e2];refine JW ?_;unfold AX;rw[if_pos hx];refine Lw _ _ ?_ _ (h.inv.lt _ q1);unfold JC Xu;have p1:0<=((AB AA).getD (a.F r) zE).2.2.2.1/\((AB AA).getD (a.F r) zE).2.2.2.1<=2:=GG hb (h.inv.lt _ q1);have p2:=GG hb hr;have q3':((AB AA).getD (a.F r) zE).2.2.2.1.toNat=((AB AA).getD r zE).2.2.2.1.toNat:=q3;have q2':((AB AA).getD (a.F r) zE).2.2.1=false:=q2;rw[q2',Int.toNat_natCast];have:((AB AA).getD (a.F r) zE).2.2.2.1=((AB AA).getD r zE).2.2.2.1:=by omega
 rw[this];simp
theorem M7.head {AA:List (List Dd)}{a:Ab}{τ:Nat->Nat}{T:Nat}{z:Int}{b:Bd}(h:M7 AA a τ T z b){p:Nat}(hp:p<3):(a.R p).head? = some p:=by
 obtain⟨h1,h2,h3,h4,h5,h6⟩:=h.inv.Ie p hp;have hm:p∈a.R p:=(h.inv.rows p p).2 ⟨h.all p (h.inv.lt p h1),h2,h3⟩;have ho:=h.inv.Qj p
 cases hl:a.R p with
 |nil=>rw[hl] at hm;cases hm
 |cons x r=>
  change (a.R p).Pairwise _ at ho;rw[hl] at ho hm;rw[List.pairwise_cons] at ho;rcases List.mem_cons.1 hm with e|hr
  . rw[e];rfl
  ·
   exfalso;have hx:=(h.inv.rows p x).1 (show x∈a.R p by rw[hl];simp);have ht:=ho.1 p hr;change τ x<=τ p at ht;change τ p=0 at h5;have hnd:=h.inv.J3 p;change (a.R p).Nodup at hnd;rw[hl,List.nodup_cons] at hnd;have hne:x≠p:=fun e=>hnd.1 (by rw[e];exact hr)
   by_cases h3x:3<=x
   ·
    have:=h.inv.tpos x hx.1 h3x;change 1<=τ x at this;omega
   ·
    have:=(h.inv.Ie x (by omega)).2.2.1;rw[hx.2.2] at this;exact hne this.symm
theorem M7.perm {AA:List (List Dd)}{a:Ab}{τ:Nat->Nat}{T:Nat}{z:Int}{b:Bd}(hb:AW AA=true)(h:M7 AA a τ T z b)(p:Nat):((a.R p).map Int.ofNat).Perm (Cl (AB AA) p):=by
 have hx:=Bg AA
 have hn1:((a.R p).map Int.ofNat).Nodup:=by
  have:=h.inv.J3 p;exact List.Pairwise.map _ (fun x y hxy e=>hxy (Int.ofNat.inj e)) this
 have hn2:=DT hx p
 have hm:∀y,y∈(a.R p).map Int.ofNat↔y∈Cl (AB AA) p:=by
  intro y;rw[List.mem_map];unfold Cl AX;rw[if_pos hx];constructor
  ·
   rintro⟨x,hx',rfl⟩;obtain⟨q1,q2,q3⟩:=(h.inv.rows p x).1 hx';refine Lw _ _ ?_ _ (h.inv.lt x q1.1);have p1:=GG hb (h.inv.lt x q1.1);have q2':((AB AA).getD x zE).2.2.1=false:=q2;have q3':((AB AA).getD x zE).2.2.2.1.toNat=p:=q3;unfold JC;rw[q2'];have:((AB AA).getD x zE).2.2.2.1=(p:Int):=by omega
   rw[this];simp
  ·
   intro hy;have h1:=EI _ _ _ _ hy;have h2:=FK _ _ _ _ hy;obtain⟨x,rfl⟩:=Int.eq_ofNat_of_zero_le h1.1;rw[Int.toNat_natCast] at h2;unfold JC at h2;simp only[Bool.and_eq_true,Bool.not_eq_true',beq_iff_eq] at h2;refine⟨x,(h.inv.rows p x).2 ⟨h.all x (by omega),h2.1,?_⟩,rfl⟩;show ((AB AA).getD x zE).2.2.2.1.toNat=p;rw[h2.2,Int.toNat_natCast]
 refine Ow hn1 (fun y hy=>(hm y).1 hy) (M2 hn2 (fun y hy=>(hm y).2 hy))
def Gl (b:Bd):List Int:=b.rws.getD 0 []++b.rws.getD 1 []++b.rws.getD 2 []
theorem M7.Z7 {AA:List (List Dd)}{a:Ab}{τ:Nat->Nat}{T:Nat}{z:Int}{b:Bd}(h:M7 AA a τ T z b):Gl b=(a.R 0).map Int.ofNat++(a.R 1).map Int.ofNat++(a.R 2).map Int.ofNat:=by
 unfold Gl;rw[(Iw h.DD (show 0<3 by omega)).2.2,(Iw h.DD (show 1<3 by omega)).2.2,(Iw h.DD (show 2<3 by omega)).2.2]
theorem M7.rows {AA:List (List Dd)}{a:Ab}{τ:Nat->Nat}{T:Nat}{z:Int}{b:Bd}(hb:AW AA=true)(h:M7 AA a τ T z b):Jc (AB AA) (Gl b)=true:=by
 rw[h.Z7];have hl:∀p,((a.R p).map Int.ofNat).length=(Cl (AB AA) p).length:=fun p=>(h.perm hb p).length_eq
 have hd:∀p,p<3->((a.R p).map Int.ofNat).getD 0 0=(p:Int):=by
  intro p hp;have:=h.head hp;rw[List.head?_eq_getElem?] at this;rw[List.getD_eq_getElem?_getD,List.getElem?_map,this];rfl
 have h0:∀p,p<3->0<(Cl (AB AA) p).length:=fun p hp=>(SU hb p hp).1
 have k0:=SR (A:=[]) (P:=(a.R 0).map Int.ofNat) (C:=(a.R 1).map Int.ofNat++(a.R 2).map Int.ofNat) (i:=0) (hl 0) (h.perm hb 0) (h0 0 (by omega)) (hd 0 (by omega));have k1:=SR (A:=(a.R 0).map Int.ofNat) (P:=(a.R 1).map Int.ofNat) (C:=(a.R 2).map Int.ofNat) (i:=1) (hl 1) (h.perm hb 1) (h0 1 (by omega)) (hd 1 (by omega));have k2:=SR (A:=(a.R 0).map Int.ofNat++(a.R 1).map Int.ofNat) (P:=(a.R 2).map Int.ofNat) (C:=[]) (i:=2) (hl 2) (h.perm hb 2) (h0 2 (by omega)) (hd 2 (by omega));simp only[List.nil_append,List.append_nil,List.length_nil,List.length_append,hl,<-List.append_assoc] at k0 k1 k2;unfold Jc;rw[k0,k1,k2];simp only[Bool.true_and,decide_eq_true_eq,List.length_append,hl]
end Go.Proofs.YtgakfkjjkobpiaaGreat
