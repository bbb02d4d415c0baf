/- Gathered texts. -/
import Derived.Test.YtgakfkjjkobpiaaMC
import Derived.Orders
import Derived.Maps.AppendAt
import Derived.RegionTactic
set_option maxRecDepth 100000
set_option maxHeartbeats 8000000
namespace Go.Proofs.Ytgakfkjjkobpiaa
open Go.ChangeShapes Go.WideShapes Go.ChangeAt Go.RowKit
open Go.RowKit
theorem one_sim {dss:List (List Dd)}(hb:workB dss=true){b:Bd}{a:Ab}{τ:Nat→Nat}{T:Nat}{z:Int}(M:MI dss b a τ T z)(hT:1≤T){c:Nat}(hc:c<dss.length)(hk:a.nx c<(dss.getD c []).length)
  (hz:(dAt dss c (a.nx c)).1≠4→clsD dss c (a.nx c)=z) (hcan:((dAt dss c (a.nx c)).1≤2∧gAt dss c (a.nx c)=0)∨a.N c=[]):
  ∃a' τ',MI dss (oneM dss (eventsB dss) b c) a' τ' T z∧a'.nx=(bumpA a c).nx∧(gAt dss c (a.nx c)≠0→a'.N c=[]):=by
 have hkd:=okD_kindE (okC_of hb hc _ hk);rcases hkd with h|h|h|h
 ·
  obtain⟨f,τ',_,h1⟩:=oneM_read hb M hT hc hk h (hz (by omega)) (hcan.imp (fun h=>h.2) id);exact⟨_,τ',h1,rfl,fun hg=>hcan.resolve_left (fun h=>hg h.2)⟩
 ·
  by_cases hg:gAt dss c (a.nx c)=0
  · exact⟨_,τ,oneM_note hb M hc hk h hg,rfl,fun h=>absurd hg h⟩
  ·
   have hN:=hcan.resolve_left (fun h=>hg h.2);obtain⟨τ',h1⟩:=oneM_ink hb M hT hc hk h hg (hz (by omega)) hN;exact⟨_,τ',h1,rfl,fun _=>hN⟩
 ·
  have hN:=hcan.resolve_left (fun h=>by omega);obtain⟨τ',h1⟩:=oneM_swap hb M hT hc hk h (hz (by omega)) hN;exact⟨_,τ',h1,rfl,fun _=>hN⟩
 ·
  have hN:=hcan.resolve_left (fun h=>by omega);exact⟨bumpA a c,τ,oneM_wait hb M hc hk h hN,rfl,fun _=>hN⟩
def BD (dss:List (List Dd))(a:Ab):Prop:=∀c,c<dss.length→0<a.nx c→a.nx c<(dss.getD c []).length→gAt dss c (a.nx c)≠0→gAt dss c (a.nx c-1)≠gAt dss c (a.nx c)
theorem go_sim {dss:List (List Dd)}(hb:workB dss=true){c:Nat}(hc:c<dss.length)(g:Int){T:Nat}(hT:1≤T){z:Int}:∀(m:Nat) (b:Bd) (a:Ab) (τ:Nat→Nat),MI dss b a τ T z→a.nx c<(dss.getD c []).length→(dss.getD c []).length≤a.nx c+m→gAt dss c (a.nx c)=g →
  ((dAt dss c (a.nx c)).1≠4→clsD dss c (a.nx c)=z)→(((dAt dss c (a.nx c)).1≤2∧gAt dss c (a.nx c)=0)∨a.N c=[]) →
  ∃a' τ',MI dss (goM dss (eventsB dss) g c m b) a' τ' T z∧a.nx c<a'.nx c∧(∀c',c'≠c→a'.nx c'=a.nx c')∧(a'.nx c<(dss.getD c []).length→gAt dss c (a'.nx c)≠0→gAt dss c (a'.nx c-1)≠gAt dss c (a'.nx c))
 | 0,b,a,τ,M,hk,hm,_,_,_=>by omega
 |m+1,b,a,τ,M,hk,hm,hg,hz,hcan=>by
  obtain⟨a1,τ1,M1,e1,e2⟩:=one_sim hb M hT hc hk hz hcan;have hn1:a1.nx c=a.nx c+1:=by rw[e1,nx_bump,if_pos rfl]
  have ho1:∀c',c'≠c→a1.nx c'=a.nx c':=fun c' h=>by rw[e1,nx_bump,if_neg h]
  rw[goM,(nx_at M1.rep hc).2,hn1];by_cases hs:g=0∨a.nx c+1=(dss.getD c []).length∨gAt dss c (a.nx c+1)≠g
  ·
   rw[if_pos hs];refine⟨a1,τ1,M1,by omega,ho1,?_⟩;rw[hn1];intro hl hg0;rw[show a.nx c+1-1=a.nx c by omega,hg];rcases hs with hs|hs|hs
   · rw[hs];exact fun e=>hg0 e.symm
   · omega
   · exact fun e=>hs e.symm
  ·
   rw[if_neg hs];have hs0:¬g=0:=fun h=>hs (.inl h)
   have hs1:¬a.nx c+1=(dss.getD c []).length:=fun h=>hs (.inr (.inl h))
   have hs2:gAt dss c (a.nx c+1)=g:=Classical.byContradiction (fun h=>hs (.inr (.inr h)));have hl:=M1.nxl c hc;have hk1:a.nx c+1<(dss.getD c []).length:=by omega
   have hok:=okC_of hb hc;have n1:=num_grp hok hk (by rw[hg];exact hs0);have n2:=num_grp hok hk1 (by rw[hs2];exact hs0);have hcl:clsD dss c (a.nx c+1)=clsD dss c (a.nx c):=(cls_iff hok hok hk1 hk n2.1 n1.1).2 ⟨rfl,.inr ⟨by rw[hs2];exact hs0,by rw[hs2,hg]⟩⟩;obtain⟨a',τ',M',q1,q2,q3⟩:=go_sim hb hc g hT m (oneM dss (eventsB dss) b c) a1 τ1 M1 (by omega) (by omega) (by rw[hn1];exact hs2) (by rw[hn1,hcl];exact fun _=>hz n1.1) (.inr (e2 (by rw[hg];exact hs0)));exact⟨a',τ',M',by omega,fun c' h=>by rw[q2 c' h,ho1 c' h],q3⟩
theorem cs_big {dss:List (List Dd)}(hb:workB dss=true){a:Ab}{τ:Nat→Nat}{i:Nat}(hi:(stA dss a τ).D (sysW dss) i)(h3:3≤i):∃c k i',EvIs dss i c k i'∧k<a.nx c∧(sysW dss).cs i=clsD dss c k∧3≤clsD dss c k:=by
 obtain⟨c,k,i',E⟩:=ev_dec hb h3 hi.1.1;have hX:=hi.1.2;rw[ex_at hb E,decide_eq_true_eq] at hX;exact⟨c,k,i',E,hX,(sys_at hb E).2.2.2,cls_three hb E.hc E.hk E.kind⟩
theorem step_sim {dss:List (List Dd)}(hb:workB dss=true){b:Bd}{a:Ab}{τ:Nat→Nat}{T:Nat}{z:Int}(M:MI dss b a τ T z)(B:BD dss a){s:Int}(hs:isB (possM dss b) s=true):
  ∃a' τ' z',MI dss (stepM dss (eventsB dss) b s) a' τ' (T+1) z'∧BD dss a':=by
 have hm:=isB_mem hs;unfold possM at hm;rw[List.mem_append,List.mem_map,List.mem_map] at hm;rcases hm with ⟨c,hc,e⟩|⟨c,hc,e⟩
 ·
  rw[List.mem_filter,List.mem_range] at hc;obtain⟨hc,hcan⟩:=hc
  have hl3:dss.length≤3:=by
   simp only[workB,Bool.and_eq_true,decide_eq_true_eq] at hb;exact hb.1.1.1.1.2
  unfold canM at hcan;rw[(nx_at M.rep hc).2,nts_at M.rep hc] at hcan;simp only[Bool.and_eq_true,Bool.or_eq_true,decide_eq_true_eq,List.isEmpty_iff,List.map_eq_nil_iff] at hcan;obtain⟨hk,hcan⟩:=hcan;have hok:=okC_of hb hc
  have M1:MI dss b a τ (T+1) (if (dAt dss c (a.nx c)).1=4 then -1 else clsD dss c (a.nx c)):=by
   refine⟨M.rep,M.inv.tick _ (fun i hi h3 e=>?_),M.nxl,M.nt⟩;obtain⟨c',k',i',E,hX,e1,e2⟩:=cs_big hb hi h3;rw[e1] at e;split at e
   · omega
   ·
    rename_i h4;obtain⟨rfl,hq⟩:=(cls_iff (okC_of hb E.hc) hok E.hk hk E.kind h4).1 e;rcases hq with hq|⟨g1,g2⟩
    · omega
    ·
     have h0:gAt dss c' (a.nx c')≠0:=by rw[←g2];exact g1
     refine B c' hc (by omega) hk h0 ?_;exact grp_between hb hc (j:=k') (k:=a.nx c'-1) (l:=a.nx c') (by omega) (by omega) hk h0 g2
  have hst:stepM dss (eventsB dss) b s=goM dss (eventsB dss) (gAt dss c (a.nx c)) c (dss.getD c []).length b:=by
   unfold stepM;rw[if_neg (by omega),show s.toNat=c by omega,(nx_at M.rep hc).2]
  rw[hst];obtain⟨a',τ',M',q1,q2,q3⟩:=go_sim hb hc (gAt dss c (a.nx c)) (T:=T+1) (by omega) (dss.getD c []).length b a τ M1 hk (by omega) rfl (fun h=>by rw[if_neg h]) hcan;refine⟨a',τ',_,M',fun c' hc' h0 hl hg=>?_⟩;by_cases e:c'=c
  · subst e;exact q3 hl hg
  ·
   rw[q2 c' e] at h0 hl hg ⊢;exact B c' hc' h0 hl hg
 ·
  rw[List.mem_filter,List.mem_range] at hc;obtain⟨hc,hne⟩:=hc;rw[nts_at M.rep hc] at hne
  have hst:stepM dss (eventsB dss) b s=flushM b c:=by
   unfold stepM;rw[if_pos (by omega),show (s-10).toNat=c by omega]
  rw[hst]
  cases hN:a.N c with
  |nil=>rw[hN] at hne;simp at hne
  |cons x rest=>
   obtain⟨τ',M'⟩:=flush_sim hb M hc hN;exact⟨_,τ',_,M',fun c' hc'=>B c' hc'⟩
def newA:Ab:={ nx:=fun _=>0,N:=fun _=>[],R:=fun p=>if p<3 then [p] else [],F:=fun _=>0 }
theorem new_sim {dss:List (List Dd)}(hb:workB dss=true):MI dss (newM dss) newA (fun _=>0) 0 (-1)∧BD dss newA:=by
 have hX:∀j,(stA dss newA (fun _=>0)).X j↔j<3:=by
  intro j;show (j<(eventsB dss).length∧exA dss newA j=true)↔_;unfold exA newA;simp;have:=(beg_ev hb).1;omega
 have hN:∀c,(stA dss newA (fun _=>0)).N c=[]:=fun c=>by show (if 0≤c then [] else [])=[];split<;>rfl
 have hD:∀j,(stA dss newA (fun _=>0)).D (sysW dss) j↔j<3:=fun j=>by
  unfold AbsSt.D;rw[hX,hN];simp
 have hR:∀p,(stA dss newA (fun _=>0)).R p=if p<3 then [p] else []:=fun p=>rfl
 have hbeg:∀j,j<3→(sysW dss).rd j=false∧(sysW dss).pl j=j∧(sysW dss).ck j=-1∧(sysW dss).cs j=(j:Int):=by
  intro j hj;obtain⟨h1,h2,h3,h4⟩:=beg_place hb hj;refine⟨h2,?_,h4,h3⟩;show ((eventsB dss).getD j zE).2.2.2.1.toNat=j;rw[h1,Int.toNat_natCast]
 have hno:∀j,(stA dss newA (fun _=>0)).X j→¬ 3≤j:=fun j h1 h2=>by have:=(hX j).1 h1;omega
 refine⟨⟨?_,?_,fun c hc=>Nat.zero_le _,fun c x hx=>by cases hx⟩,fun c _ h=>absurd h (Nat.lt_irrefl _)⟩
 ·
  have hrep:∀(α:Type) (m:Nat) (x:α),List.replicate m x=(List.range m).map (fun _=>x):=by
   intro α m x;rw[List.map_const',List.length_range]
  have hrep2:∀(α β:Type) (l:List β) (x:α),List.replicate l.length x=l.map (fun _=>x):=by
   intro α β l x;rw[List.map_const']
  obtain⟨h3,b0,b1,b2⟩:=beg_ev hb;refine⟨hrep _ _ _,hrep _ _ _,rfl,rfl,?_,?_,?_⟩
  ·
   show [0,0,0]=(List.range 3).map (fun p=>vlN dss (lastA newA p));have e0:vlN dss 0=0:=by unfold vlN;rw[b0]
   have e1:vlN dss 1=0:=by unfold vlN;rw[b1]
   have e2:vlN dss 2=0:=by unfold vlN;rw[b2]
   have r3:List.range 3=[0,1,2]:=rfl;rw[r3];show [0,0,0]=[vlN dss 0,vlN dss 1,vlN dss 2];rw[e0,e1,e2]
  ·
   show List.replicate _ (-1)=_;rw[hrep2];refine List.map_congr_left (fun r hr=>?_);obtain⟨j,rfl,hj,hjr⟩:=rs_in (eventsB_12 dss) hr
   have:¬exA dss newA j=true:=by
    intro h;have h3:=(hX j).1 ⟨hj,h⟩;rw[(beg_place hb h3).2.1] at hjr;cases hjr
   rw[Int.toNat_natCast,if_neg this]
  ·
   show List.replicate _ (-1)=_;rw[hrep2];refine List.map_congr_left (fun r hr=>?_);obtain⟨j,rfl,hj,hjr⟩:=rs_in (eventsB_12 dss) hr
   have:¬exA dss newA j=true:=by
    intro h;have h3:=(hX j).1 ⟨hj,h⟩;rw[(beg_place hb h3).2.1] at hjr;cases hjr
   rw[Int.toNat_natCast,if_neg this]
 ·
  constructor;case beg=>exact fun j hj=>⟨(hX j).2 hj,(hbeg j hj).1,(hbeg j hj).2.1,(hbeg j hj).2.2.1,rfl,(hbeg j hj).2.2.2⟩
  case lt=>exact fun j hj=>hj.1
  case down=>exact fun i j hj h3 hij _=>absurd ((hX j).1 hj) (by omega)
  case note=>exact fun c x hx=>by rw[hN] at hx;cases hx
  case nord=>exact fun c=>by rw[hN];simp
  case pend=>exact fun c x j hx=>by rw[hN] at hx;cases hx
  case rows=>
   intro p x;rw[hR,hD];by_cases hp:p<3
   ·
    rw[if_pos hp];constructor
    ·
     intro hx;have e:x=p:=by simpa using hx
     subst e;exact⟨hp,(hbeg x hp).1,(hbeg x hp).2.1⟩
    ·
     rintro⟨h1,h2,h3⟩;rw[(hbeg x h1).2.1] at h3;simp[h3]
   ·
    rw[if_neg hp];constructor
    · intro hx;cases hx
    ·
     rintro⟨h1,h2,h3⟩;rw[(hbeg x h1).2.1] at h3;omega
  case rnod=>exact fun p=>by rw[hR];split<;>simp
  case rord=>exact fun p=>by rw[hR];split<;>simp
  case tle=>exact fun j _=>Nat.le_refl _
  case tpos=>exact fun j hj h3=>absurd h3 (hno j hj.1)
  case same=>exact fun i j hi _ h3=>absurd h3 (hno i hi.1)
  case mate=>exact fun i j hi _ h3=>absurd h3 (hno i hi.1)
  case now=>exact fun i hi h3=>absurd h3 (hno i hi.1)
  case kept=>exact fun i j hi _ h3=>absurd h3 (hno i hi.1)
  case src=>
   intro r hr hrd;rw[(hbeg r ((hX r).1 hr)).1] at hrd;cases hrd
  case agst=>
   intro r w p hr hrd;rw[(hbeg r ((hX r).1 hr)).1] at hrd;cases hrd
  case inL=>exact fun i hi h3=>absurd h3 (hno i hi)
  case coh=>exact fun i j hi _ h3=>absurd h3 (hno i hi)
  case cohw=>exact fun i j hi _ h3=>absurd h3 (hno i hi)
theorem ev_vals {dss:List (List Dd)}(hb:workB dss=true){j:Nat}(hj:j<(eventsB dss).length):(0≤vlN dss j∧vlN dss j≤9)∧0≤plN dss j∧plN dss j≤2:=by
 by_cases h3:j<3
 ·
  have e:=(evs_good (dss:=dss) (by simp only[workB,Bool.and_eq_true,decide_eq_true_eq] at hb;intro i hi;have:=List.all_eq_true.1 hb.1.1.1.2 _ (List.getElem_mem hi);rw[List.getD_eq_getElem?_getD,List.getElem?_eq_getElem hi];exact this) dss.length (Nat.le_refl _)).1;obtain⟨t,ht⟩:=e;have e1:eventsB dss=evBeg++t:=by rw[eventsB,if_pos hb,ht]
  unfold vlN plN;rw[e1,List.getD_eq_getElem?_getD,List.getElem?_append_left (by simp[evBeg];omega)];have:j=0∨j=1∨j=2:=by omega
  rcases this with rfl|rfl|rfl<;>simp[evBeg]
 ·
  obtain⟨c,k,i,E⟩:=ev_dec hb (by omega) hj;have hd:=okC_of hb E.hc k E.hk;unfold vlN plN;rw[E.at hb];simp only;unfold vlI;have hd':=hd;unfold dAt at hd' ⊢;simp only[okD,deedB,decide_eq_true_eq] at hd';split<;>omega
theorem ev_nine (dss:List (List Dd)):(eventsB dss).length≤9:=by
 unfold eventsB;split
 ·
  rename_i h;simp only[workB,Bool.and_eq_true,decide_eq_true_eq] at h;obtain⟨⟨⟨⟨_,h2⟩,_⟩,h4⟩,_⟩:=h;have:=evsW_len (fun i hi=>all_get [] h2 i hi) dss.length (Nat.le_refl _);omega
 · simp
theorem nodup_len {lo n:Nat}:∀ {l:List Nat},l.Nodup→(∀x∈l,lo≤x∧x<n)→l.length≤n-lo:=fun {l} hn h=>by
 have hs:∀x∈l,x∈List.range' lo (n-lo):=fun x hx=>by
  have:=h x hx;rw[List.mem_range'_1];omega
 have:l.length≤(List.range' lo (n-lo)).length:=by
  clear h;generalize List.range' lo (n-lo)=r at hs
  induction l generalizing r with
  |nil=>simp
  |cons x t ih=>
   rw[List.nodup_cons] at hn;have hx:=hs x (by simp);have:=ih hn.2 (r.erase x) (fun y hy=>(List.mem_erase_of_ne (fun e=>hn.1 (by rw[←e];exact hy))).2 (hs y (by simp[hy])));rw[List.length_erase_of_mem hx] at this;have:0<r.length:=List.length_pos_of_mem hx;simp only[List.length_cons];omega
 simpa using this
theorem allB_map {α:Type}(l:List α)(f:α→Int){lo hi:Int}{most:Nat}(h:∀x∈l,lo≤f x∧f x≤hi)(hm:l.length≤most):allB (l.map f) lo hi most=true:=by
 unfold allB;rw[Bool.and_eq_true,List.all_eq_true,decide_eq_true_eq,List.length_map];refine⟨fun y hy=>?_,hm⟩;obtain⟨x,hx,rfl⟩:=List.mem_map.1 hy;have:=h x hx;simp[this]
theorem mi_board {dss:List (List Dd)}(hb:workB dss=true){b:Bd}{a:Ab}{τ:Nat→Nat}{T:Nat}{z:Int}(M:MI dss b a τ T z):boardB dss b=true:=by
 have h9:=ev_nine dss;have R:=M.rep;have I:=M.inv
 have hlen3:3≤(eventsB dss).length:=by
  have:=I.lt 2 (I.beg 2 (by omega)).1;exact this
 have rowlt:∀p x,x∈a.R p→x<(eventsB dss).length:=fun p x hx=>I.lt x ((I.rows p x).1 hx).1.1
 have notelt:∀c x,x∈a.N c→3≤x∧x<(eventsB dss).length:=fun c x hx=>by
  have hx':x∈(stA dss a τ).N (c:Int):=by rw[st_N];exact hx
  have:=I.note (c:Int) x hx';exact⟨this.2.1,I.lt x this.1⟩
 have hlast:∀p,p<3→lastA a p<(eventsB dss).length:=fun p hp=>by
  unfold lastA
  cases hl:(a.R p).getLast? with
  |none=>show p<_;omega
  |some x=>exact rowlt p x (List.mem_of_getLast? hl)
 have hF:∀r,r<(eventsB dss).length→((eventsB dss).getD r zE).2.2.1=true→exA dss a r=true→a.F r<(eventsB dss).length:=fun r h1 h2 h3=>I.lt _ (I.src r ⟨h1,h3⟩ h2).1
 have hx12:(eventsB dss).length≤12:=by omega
 have rl:(idxB rdE (eventsB dss)).length≤12:=by
  unfold idxB;rw[if_pos hx12];have:=idxK_len rdE (eventsB dss) (eventsB dss).length;omega
 have rdin:∀r∈idxB rdE (eventsB dss),(0≤r∧r<((eventsB dss).length:Int))∧((eventsB dss).getD r.toNat zE).2.2.1=true:=fun r hr=>by
  unfold idxB at hr;rw[if_pos hx12] at hr;exact⟨idxK_lt _ _ _ _ hr,idxK_mem _ _ _ _ hr⟩
 unfold boardB;rw[Bool.and_eq_true,Bool.and_eq_true,Bool.and_eq_true];refine⟨?_,?_,?_,?_⟩
 ·
  unfold shapeB;rw[hb,R.plc,R.lst,R.rws,R.nts,R.nxt];simp
 ·
  unfold fillB;rw[R.sn,R.fr,R.plc,R.lst,List.length_map,List.length_map];simp only[decide_true,Bool.true_and,Bool.and_eq_true];refine⟨allB_map _ _ (fun p hp=>(ev_vals hb (hlast p (List.mem_range.1 hp))).1) (by simp),allB_map _ _ (fun p hp=>by have:=hlast p (List.mem_range.1 hp);omega) (by simp),allB_map _ _ (fun r hr=>?_) rl,allB_map _ _ (fun r hr=>?_) rl⟩
  ·
   obtain⟨h1,h2⟩:=rdin r hr;by_cases hE:exA dss a r.toNat=true
   ·
    rw[if_pos hE];have:=(ev_vals hb (hF r.toNat (by omega) h2 hE)).1;omega
   · rw[if_neg hE];omega
  ·
   obtain⟨h1,h2⟩:=rdin r hr;by_cases hE:exA dss a r.toNat=true
   ·
    rw[if_pos hE];have:=hF r.toNat (by omega) h2 hE;omega
   · rw[if_neg hE];omega
 ·
  unfold rowsBd;rw[List.all_eq_true];intro p hp;rw[R.rws,map_at _ _ (List.mem_range.1 hp)];refine allB_map _ _ (fun x hx=>by have:=rowlt p x hx;exact⟨Int.natCast_nonneg _,by show (x:Int)≤_;omega⟩) ?_;have:=nodup_len (lo:=0) (I.rnod p) (fun x hx=>⟨Nat.zero_le _,rowlt p x hx⟩);have e:(stA dss a τ).R p=a.R p:=rfl;rw[e] at this;omega
 ·
  rw[List.all_eq_true];intro c hc;have hc:=List.mem_range.1 hc;unfold ckB;rw[(nx_at R hc).1,R.nts,map_at _ _ hc,List.length_map];have h1:=M.nxl c hc
  have hnd:(a.N c).Nodup:=by
   have:=I.nord (c:Int);rw[st_N] at this;exact this.imp (fun h=>Nat.ne_of_lt h)
  have h2:=nodup_len hnd (notelt c);simp only[Bool.and_eq_true,decide_eq_true_eq];refine⟨⟨by omega,by omega⟩,by omega,?_⟩;unfold ntsB;rw[List.all_eq_true];intro y hy;obtain⟨x,hx,rfl⟩:=List.mem_map.1 hy;have hn:=notelt c x hx;have:=ev_vals hb hn.2;unfold ntB ntE;simp only[Bool.and_eq_true,decide_eq_true_eq];omega
def sumN (f:Nat→Nat):Nat→Nat
 | 0=>0
 |m+1=>sumN f m+f m
theorem sum_same {f g:Nat→Nat}:∀m:Nat,(∀c,c<m→f c=g c)→sumN f m=sumN g m
 | 0,_=>rfl
 |m+1,h=>by rw[sumN,sumN,sum_same m (fun c hc=>h c (by omega)),h m (by omega)]
theorem sum_less {f g:Nat→Nat}{c:Nat}(h1:f c+1≤g c)(h2:∀c',c'≠c→f c'=g c'):∀m:Nat,c<m→sumN f m+1≤sumN g m
 | 0,h=>by omega
 |m+1,h=>by
  rw[sumN,sumN];by_cases e:c=m
  ·
   subst e;rw[sum_same c (fun c' hc=>h2 c' (by omega))];omega
  ·
   have:=sum_less h1 h2 m (by omega);rw[h2 m (fun h=>e h.symm)];omega
def leftM (dss:List (List Dd))(b:Bd)(c:Nat):Nat:=2*((dss.getD c []).length-nxN b c)+(b.nts.getD c []).length
def mesM (dss:List (List Dd))(b:Bd):Nat:=sumN (leftM dss b) dss.length
def LN (dss:List (List Dd))(b:Bd):Prop:=b.nxt.length=dss.length∧b.nts.length=dss.length
theorem getD_setL {α:Type}(l:List α)(z x:α)(i j:Nat)(hi:i<l.length):(l.set i x).getD j z=if i=j then x else l.getD j z:=by
 rw[List.getD_eq_getElem?_getD,List.getElem?_set];by_cases e:i=j
 · subst e;rw[if_pos rfl,if_pos hi,if_pos rfl];rfl
 · rw[if_neg e,if_neg e,List.getD_eq_getElem?_getD]
theorem deed_nts (dss:List (List Dd))(es:List Ev)(b:Bd)(c k:Nat):(deedM dss es b c k).nxt=b.nxt∧((deedM dss es b c k).nts=b.nts∨∃x,(deedM dss es b c k).nts=b.nts.set c (b.nts.getD c []++[x])):=by
 unfold deedM;split
 · exact⟨rfl,.inl rfl⟩
 ·
  split
  · exact⟨rfl,.inl rfl⟩
  ·
   split
   · exact⟨rfl,.inl rfl⟩
   ·
    split
    · exact⟨rfl,.inr ⟨_,rfl⟩⟩
    · exact⟨rfl,.inl rfl⟩
theorem nx_one {dss:List (List Dd)}{es:List Ev}{b:Bd}(hL:LN dss b)(h0:∀c,0≤b.nxt.getD c 0){c:Nat}(hc:c<dss.length):(∀c',nxN (oneM dss es b c) c'=if c=c' then nxN b c+1 else nxN b c')∧∀c',0≤(oneM dss es b c).nxt.getD c' 0:=by
 have e:∀c',(oneM dss es b c).nxt.getD c' 0=if c=c' then b.nxt.getD c 0+1 else b.nxt.getD c' 0:=fun c'=>by
  show (b.nxt.set c (b.nxt.getD c 0+1)).getD c' 0=_;rw[getD_setL _ _ _ _ _ (by rw[hL.1];exact hc)]
 constructor
 ·
  intro c';unfold nxN;rw[e];split
  · have:=h0 c;omega
  · rfl
 ·
  intro c';rw[e];split
  · have:=h0 c;omega
  · exact h0 c'
theorem mes_one {dss:List (List Dd)}{es:List Ev}{b:Bd}(hL:LN dss b)(h0:∀c,0≤b.nxt.getD c 0){c:Nat}(hc:c<dss.length)(hk:nxN b c<(dss.getD c []).length):mesM dss (oneM dss es b c)+1≤mesM dss b∧LN dss (oneM dss es b c)∧∀c',0≤(oneM dss es b c).nxt.getD c' 0:=by
 obtain⟨hn,h0'⟩:=nx_one (es:=es) hL h0 hc;obtain⟨_,hd⟩:=deed_nts dss es b c (nxN b c)
 have hnts:(∀c',c'≠c→(oneM dss es b c).nts.getD c' []=b.nts.getD c' [])∧((oneM dss es b c).nts.getD c []).length≤(b.nts.getD c []).length+1∧(oneM dss es b c).nts.length=b.nts.length:=by
  have e:(oneM dss es b c).nts=(deedM dss es b c (nxN b c)).nts:=rfl;rw[e];rcases hd with hd|⟨x,hd⟩
  · rw[hd];exact⟨fun _ _=>rfl,by omega,rfl⟩
  ·
   rw[hd];refine⟨fun c' h=>?_,?_,by rw[List.length_set]⟩
   · rw[getD_setL _ _ _ _ _ (by rw[hL.2];exact hc),if_neg (fun h2=>h h2.symm)]
   · rw[getD_setL _ _ _ _ _ (by rw[hL.2];exact hc),if_pos rfl,List.length_append];simp
 refine⟨sum_less (c:=c) ?_ (fun c' h=>?_) _ hc,⟨?_,?_⟩,h0'⟩
 ·
  unfold leftM;rw[hn,if_pos rfl];have:=hnts.2.1;omega
 ·
  unfold leftM;rw[hn,if_neg (fun h2=>h h2.symm),hnts.1 c' h]
 ·
  show (b.nxt.set c _).length=_;rw[List.length_set];exact hL.1
 · rw[hnts.2.2];exact hL.2
theorem mes_go {dss:List (List Dd)}{es:List Ev}(g:Int){c:Nat}(hc:c<dss.length):∀(m:Nat) (b:Bd),LN dss b→(∀c,0≤b.nxt.getD c 0)→1≤m→nxN b c<(dss.getD c []).length→(dss.getD c []).length≤nxN b c+m →
  mesM dss (goM dss es g c m b)+1≤mesM dss b∧LN dss (goM dss es g c m b)∧∀c',0≤(goM dss es g c m b).nxt.getD c' 0
 | 0,_,_,_,h,_,_=>by omega
 |m+1,b,hL,h0,_,hk,hm=>by
  have h1:=mes_one (es:=es) hL h0 hc hk;have hn:=(nx_one (es:=es) hL h0 hc).1 c;rw[if_pos rfl] at hn;rw[goM];split
  · exact h1
  ·
   rename_i hs;have hs1:¬nxN (oneM dss es b c) c=(dss.getD c []).length:=fun h=>hs (.inr (.inl h))
   have h2:=mes_go (es:=es) g hc m (oneM dss es b c) h1.2.1 h1.2.2 (by omega) (by omega) (by omega);exact⟨by omega,h2.2⟩
theorem mes_flush {dss:List (List Dd)}{b:Bd}(hL:LN dss b)(h0:∀c,0≤b.nxt.getD c 0){c:Nat}(hc:c<dss.length)(hne:b.nts.getD c []≠[]):mesM dss (flushM b c)+1≤mesM dss b∧LN dss (flushM b c)∧∀c',0≤(flushM b c).nxt.getD c' 0:=by
 unfold flushM
 cases hq:b.nts.getD c [] with
 |nil=>exact absurd hq hne
 |cons x r=>
  have e:∀c',(b.nts.set c r).getD c' []=if c=c' then r else b.nts.getD c' []:=fun c'=>getD_setL _ _ _ _ _ (by rw[hL.2];exact hc)
  refine⟨sum_less (c:=c) ?_ (fun c' h=>?_) _ hc,⟨hL.1,?_⟩,h0⟩
  ·
   show 2*((dss.getD c []).length-nxN b c)+((b.nts.set c r).getD c []).length+1≤2*((dss.getD c []).length-nxN b c)+(b.nts.getD c []).length;rw[e,if_pos rfl,hq];simp only[List.length_cons];omega
  ·
   show 2*((dss.getD c' []).length-nxN b c')+((b.nts.set c r).getD c' []).length=2*((dss.getD c' []).length-nxN b c')+(b.nts.getD c' []).length;rw[e,if_neg (fun h2=>h h2.symm)]
  ·
   show (b.nts.set c r).length=_;rw[List.length_set];exact hL.2
theorem mes_step {dss:List (List Dd)}(hb:workB dss=true){es:List Ev}{b:Bd}(hL:LN dss b)(h0:∀c,0≤b.nxt.getD c 0){s:Int}(hs:isB (possM dss b) s=true):mesM dss (stepM dss es b s)+1≤mesM dss b∧LN dss (stepM dss es b s)∧∀c',0≤(stepM dss es b s).nxt.getD c' 0:=by
 have hl3:dss.length≤3:=by
  simp only[workB,Bool.and_eq_true,decide_eq_true_eq] at hb;exact hb.1.1.1.1.2
 have hm:=isB_mem hs;unfold possM at hm;rw[List.mem_append,List.mem_map,List.mem_map] at hm;rcases hm with ⟨c,hc,e⟩|⟨c,hc,e⟩
 ·
  rw[List.mem_filter,List.mem_range] at hc;obtain⟨hc,hcan⟩:=hc;unfold canM at hcan;simp only[Bool.and_eq_true,decide_eq_true_eq] at hcan;unfold stepM;rw[if_neg (by omega),show s.toNat=c by omega];exact mes_go _ hc _ b hL h0 (by omega) hcan.1 (by omega)
 ·
  rw[List.mem_filter,List.mem_range] at hc;obtain⟨hc,hne⟩:=hc;unfold stepM;rw[if_pos (by omega),show (s-10).toNat=c by omega];refine mes_flush hL h0 hc (fun h=>?_);rw[h] at hne;simp at hne
theorem sum_len (dss:List (List Dd)):sumN (fun c=>(dss.getD c []).length) dss.length=lenW dss:=by
 have h:∀(l:List (List Dd)) (m:Nat),m≤l.length→sumN (fun c=>(l.getD c []).length) m=lenW (l.take m):=by
  intro l m
  induction m with
  |zero=>intro _;simp[sumN,lenW]
  |succ m ih=>
   intro hm;rw[sumN,ih (by omega),List.take_add_one,List.getElem?_eq_getElem (by omega),List.getD_eq_getElem?_getD,List.getElem?_eq_getElem (by omega)];simp only[Option.toList_some,Option.getD_some]
   have:∀(x:List (List Dd)) (d:List Dd),lenW (x++[d])=lenW x+d.length:=by
    intro x d
    induction x with
    |nil=>simp[lenW]
    |cons y x ih=>rw[List.cons_append,lenW,ih,lenW];omega
   rw[this]
 have:=h dss dss.length (Nat.le_refl _);rw[List.take_length] at this;exact this
theorem mes_new {dss:List (List Dd)}(hb:workB dss=true):mesM dss (newM dss)≤24∧LN dss (newM dss)∧∀c',0≤(newM dss).nxt.getD c' 0:=by
 have h12:lenW dss≤12:=by
  simp only[workB,Bool.and_eq_true,decide_eq_true_eq] at hb;exact hb.1.1.2
 have h0:∀c',(newM dss).nxt.getD c' 0=0:=fun c'=>by
  show (List.replicate dss.length (0:Int)).getD c' 0=0;rw[List.getD_eq_getElem?_getD,List.getElem?_replicate];split<;>rfl
 refine⟨?_,⟨by show (List.replicate _ _).length=_;simp,by show (List.replicate _ _).length=_;simp⟩,fun c'=>by rw[h0];omega⟩
 have e:∀m:Nat,sumN (leftM dss (newM dss)) m=2*sumN (fun c=>(dss.getD c []).length) m:=by
  intro m
  induction m with
  |zero=>rfl
  |succ m ih=>
   rw[sumN,sumN,ih]
   have:leftM dss (newM dss) m=2*(dss.getD m []).length:=by
    unfold leftM nxN;rw[h0]
    have:(newM dss).nts.getD m []=[]:=by
     show (List.replicate dss.length ([]:List Nt)).getD m []=[];rw[List.getD_eq_getElem?_getD,List.getElem?_replicate];split<;>rfl
    rw[this];simp
   rw[this];omega
 unfold mesM;rw[e,sum_len];omega
structure RB (dss:List (List Dd))(b:Bd)(N:Nat→Nat)(m:Nat):Prop where
 work:workB dss=true
 plc:b.plc.length=3
 lst:b.lst.length=3
 rws:b.rws.length=3
 nts:b.nts.length=dss.length
 nxt:b.nxt.length=dss.length
 sn:b.sn.length=(idxB rdE (eventsB dss)).length
 fr:b.fr.length=(idxB rdE (eventsB dss)).length
 vp:∀x∈b.plc,0≤x∧x≤9
 vl:∀x∈b.lst,0≤x∧x≤((eventsB dss).length:Int)-1
 vs:∀x∈b.sn,-1≤x∧x≤9
 vf:∀x∈b.fr,-1≤x∧x≤((eventsB dss).length:Int)-1
 rl:∀p,(b.rws.getD p []).length≤m∧∀x∈b.rws.getD p [],0≤x∧x≤((eventsB dss).length:Int)-1
 nl:∀c,(b.nts.getD c []).length≤N c∧∀x∈b.nts.getD c [],(0≤x.1∧x.1≤2)∧(0≤x.2.1∧x.2.1≤9)∧0≤x.2.2∧x.2.2≤((eventsB dss).length:Int)-1
 nx:∀c,c<dss.length→0≤b.nxt.getD c 0∧b.nxt.getD c 0≤((dss.getD c []).length:Int)
theorem getD_none {α:Type}{l:List α}{z:α}{i:Nat}(h:¬i<l.length):l.getD i z=z:=by rw[List.getD_eq_getElem?_getD,List.getElem?_eq_none (by omega)];rfl
theorem getD_in {α:Type}{l:List α}{z:α}{i:Nat}(h:i<l.length):l.getD i z∈l:=by rw[List.getD_eq_getElem?_getD,List.getElem?_eq_getElem h];exact List.getElem_mem h
theorem allB_use {l:List Int}{lo hi:Int}{most:Nat}(h:allB l lo hi most=true):(∀x∈l,lo≤x∧x≤hi)∧l.length≤most:=by
 simp only[allB,Bool.and_eq_true,decide_eq_true_eq,List.all_eq_true] at h;exact h
theorem allB_of {l:List Int}{lo hi:Int}{most:Nat}(h:∀x∈l,lo≤x∧x≤hi)(hl:l.length≤most):allB l lo hi most=true:=by
 simp only[allB,Bool.and_eq_true,decide_eq_true_eq,List.all_eq_true];exact⟨h,hl⟩
theorem RB.of {dss:List (List Dd)}{b:Bd}(h:boardB dss b=true){N:Nat→Nat}{m:Nat}(hN:∀c,(b.nts.getD c []).length≤N c)(hm:∀p,(b.rws.getD p []).length≤m):RB dss b N m:=by
 simp only[boardB,shapeB,fillB,rowsBd,Bool.and_eq_true,decide_eq_true_eq] at h;obtain⟨⟨hw,h1,h2,h3,h4,h5⟩,⟨h6,h7,p1,p2,p3,p4⟩,h8,h9⟩:=h;refine⟨hw,h1,h2,h3,h4,h5,h6,h7,(allB_use p1).1,(allB_use p2).1,(allB_use p3).1,(allB_use p4).1,fun p=>⟨hm p,?_⟩,fun c=>⟨hN c,?_⟩,fun c hc=>?_⟩
 ·
  by_cases hp:p<3
  · exact (allB_use (List.all_eq_true.1 h8 p (List.mem_range.2 hp))).1
  · rw[getD_none (by omega)];simp
 ·
  by_cases hc:c<dss.length
  ·
   have:=List.all_eq_true.1 h9 c (List.mem_range.2 hc);simp only[ckB,ntsB,ntB,Bool.and_eq_true,decide_eq_true_eq,List.all_eq_true] at this;exact this.2.2
  · rw[getD_none (by omega)];simp
 ·
  have:=List.all_eq_true.1 h9 c (List.mem_range.2 hc);simp only[ckB,Bool.and_eq_true,decide_eq_true_eq] at this;exact this.1
theorem RB.board {dss:List (List Dd)}{b:Bd}{N:Nat→Nat}{m:Nat}(h:RB dss b N m)(hN:∀c,N c≤8)(hm:m≤20):boardB dss b=true:=by
 have h9:=ev_nine dss
 have hr:(idxB rdE (eventsB dss)).length≤12:=by
  unfold idxB;split
  · have:=idxK_len rdE (eventsB dss) (eventsB dss).length;omega
  · simp
 simp only[boardB,shapeB,fillB,rowsBd,Bool.and_eq_true,decide_eq_true_eq];refine⟨⟨h.work,h.plc,h.lst,h.rws,h.nts,h.nxt⟩,⟨h.sn,h.fr,allB_of h.vp (by rw[h.plc];omega),allB_of h.vl (by rw[h.lst];omega),allB_of h.vs (by rw[h.sn];omega),allB_of h.vf (by rw[h.fr];omega)⟩,?_,?_⟩
 ·
  rw[List.all_eq_true];exact fun p _=>allB_of (h.rl p).2 (by have:=(h.rl p).1;omega)
 ·
  rw[List.all_eq_true];intro c hc;simp only[ckB,ntsB,ntB,Bool.and_eq_true,decide_eq_true_eq,List.all_eq_true];exact⟨h.nx c (List.mem_range.1 hc),by have:=(h.nl c).1;have:=hN c;omega,(h.nl c).2⟩
theorem mem_set_of {α:Type}{l:List α}{i:Nat}{v x:α}(h:x∈l.set i v):x∈l∨x=v:=by
 rcases List.mem_or_eq_of_mem_set h with h|h
 · exact .inl h
 · exact .inr h
theorem mem_zip {rs:List Int}{ev v:Int}:∀ {l:List Int} {x:Int},x∈setR rs ev v l→x∈l∨x=v:=by
 induction rs with
 |nil=>intro l x h;simp[setR] at h
 |cons r t ih=>
  intro l x h
  cases l with
  |nil=>simp[setR] at h
  |cons y z=>
   simp only[setR,List.zipWith_cons_cons,List.mem_cons] at h;rcases h with h|h
   ·
    split at h
    · exact .inr h
    · exact .inl (by rw[h];simp)
   ·
    rcases ih (l:=z) (x:=x) h with h|h
    · exact .inl (List.mem_cons_of_mem _ h)
    · exact .inr h
theorem RB.see {dss:List (List Dd)}{b:Bd}{N:Nat→Nat}{m:Nat}(h:RB dss b N m)(ev v f:Int)(hv:-1≤v∧v≤9)(hf:-1≤f∧f≤((eventsB dss).length:Int)-1):RB dss (seeM (idxB rdE (eventsB dss)) b ev v f) N m:=
 ⟨h.work,h.plc,h.lst,h.rws,h.nts,h.nxt,setR_len h.sn,setR_len h.fr,h.vp,h.vl,fun x hx=>(mem_zip hx).elim (h.vs x) (fun e=>e ▸ hv),fun x hx=>(mem_zip hx).elim (h.vf x) (fun e=>e ▸ hf),h.rl,h.nl,h.nx⟩
theorem RB.ink {dss:List (List Dd)}{b:Bd}{N:Nat→Nat}{m:Nat}(h:RB dss b N m)(p:Nat)(v ev:Int)(hv:0≤v∧v≤9)(he:0≤ev∧ev≤((eventsB dss).length:Int)-1):RB dss (inkM b p v ev) N (m+1):=by
 refine⟨h.work,by rw[←h.plc];exact List.length_set,by rw[←h.lst];exact List.length_set,by rw[←h.rws];exact List.length_set,h.nts,h.nxt,h.sn,h.fr,fun x hx=>(mem_set_of hx).elim (h.vp x) (fun e=>e ▸ hv),fun x hx=>(mem_set_of hx).elim (h.vl x) (fun e=>e ▸ he),h.vs,h.vf,fun q=>?_,h.nl,h.nx⟩;show ((b.rws.set p (b.rws.getD p []++[ev])).getD q []).length≤m+1∧∀x∈(b.rws.set p (b.rws.getD p []++[ev])).getD q [],_;by_cases hp:p<b.rws.length
 ·
  rw[getD_setL _ _ _ _ _ hp];by_cases e:p=q
  ·
   rw[if_pos e];refine⟨by have:=(h.rl p).1;rw[List.length_append,List.length_singleton];omega,fun x hx=>?_⟩;rcases List.mem_append.1 hx with hx|hx
   · exact (h.rl p).2 x hx
   · rw[List.mem_singleton.1 hx];exact he
  ·
   rw[if_neg e];exact⟨by have:=(h.rl q).1;omega,(h.rl q).2⟩
 ·
  rw[List.set_eq_of_length_le (by omega)];exact⟨by have:=(h.rl q).1;omega,(h.rl q).2⟩
theorem RB.note {dss:List (List Dd)}{b:Bd}{N N':Nat→Nat}{m:Nat}(h:RB dss b N m)(c:Nat)(l:List Nt)(hl:∀x∈l,(0≤x.1∧x.1≤2)∧(0≤x.2.1∧x.2.1≤9)∧0≤x.2.2∧x.2.2≤((eventsB dss).length:Int)-1)(hn:l.length≤N' c)(hN:∀i,i≠c→N i≤N' i)(hc:c<dss.length):RB dss { b with nts:=b.nts.set c l } N' m:=by
 refine⟨h.work,h.plc,h.lst,h.rws,by rw[←h.nts];exact List.length_set,h.nxt,h.sn,h.fr,h.vp,h.vl,h.vs,h.vf,h.rl,fun i=>?_,h.nx⟩;show ((b.nts.set c l).getD i []).length≤N' i∧∀x∈(b.nts.set c l).getD i [],_;rw[getD_setL _ _ _ _ _ (by rw[h.nts];exact hc)];by_cases e:c=i
 ·
  rw[if_pos e,←e];exact⟨hn,hl⟩
 ·
  rw[if_neg e];exact⟨Nat.le_trans (h.nl i).1 (hN i (Ne.symm e)),(h.nl i).2⟩
theorem RB.next {dss:List (List Dd)}{b:Bd}{N:Nat→Nat}{m:Nat}(h:RB dss b N m)(c:Nat)(x:Int)(hx:0≤x∧x≤((dss.getD c []).length:Int)):RB dss { b with nxt:=b.nxt.set c x } N m:=by
 refine⟨h.work,h.plc,h.lst,h.rws,h.nts,by rw[←h.nxt];exact List.length_set,h.sn,h.fr,h.vp,h.vl,h.vs,h.vf,h.rl,h.nl,fun i hi=>?_⟩;show 0≤(b.nxt.set c x).getD i 0∧(b.nxt.set c x).getD i 0≤_;by_cases hc:c<b.nxt.length
 ·
  rw[getD_setL _ _ _ _ _ hc];by_cases e:c=i
  · rw[if_pos e,←e];exact hx
  · rw[if_neg e];exact h.nx i hi
 · rw[List.set_eq_of_length_le (by omega)];exact h.nx i hi
theorem RB.more {dss:List (List Dd)}{b:Bd}{N N':Nat→Nat}{m m':Nat}(h:RB dss b N m)(hN:∀c,N c≤N' c)(hm:m≤m'):RB dss b N' m':=
 ⟨h.work,h.plc,h.lst,h.rws,h.nts,h.nxt,h.sn,h.fr,h.vp,h.vl,h.vs,h.vf,fun p=>⟨Nat.le_trans (h.rl p).1 hm,(h.rl p).2⟩,fun c=>⟨Nat.le_trans (h.nl c).1 (hN c),(h.nl c).2⟩,h.nx⟩
theorem RB.rdg {dss:List (List Dd)}{b:Bd}{N:Nat→Nat}{m:Nat}(h:RB dss b N m)(c:Nat){p:Nat}(hp:p<3):(0≤(rdgM b c p).1∧(rdgM b c p).1≤9)∧0≤(rdgM b c p).2∧(rdgM b c p).2≤((eventsB dss).length:Int)-1:=by
 unfold rdgM
 cases e:(b.nts.getD c []).reverse.find? (fun x=>x.1==(p:Int)) with
 |some x=>
  have hx:=List.mem_reverse.1 (List.mem_of_find?_eq_some e);exact ((h.nl c).2 x hx).2
 |none=>exact⟨h.vp _ (getD_in (by rw[h.plc];exact hp)),h.vl _ (getD_in (by rw[h.lst];exact hp))⟩
theorem okD_vals {d:Dd}(h:okD d=true):(0≤d.2.2.1∧d.2.2.1≤9)∧0≤d.2.2.2:=by
 obtain⟨k,p,v,g⟩:=d;simp only[okD,deedB,decide_eq_true_eq] at h;show (0≤v∧v≤9)∧0≤g;by_cases e:k=2∨k=3
 · have:=h.2.2.2.2.2.1 e;omega
 · have:=h.2.2.2.2.2.2 e;omega
theorem deed_in {dss:List (List Dd)}(hb:workB dss=true){c k:Nat}(hc:c<dss.length)(hk:k<(dss.getD c []).length):
  (∃p:Nat,p<3∧(dAt dss c k).2.1=(p:Int))∧(0≤(dAt dss c k).2.2.1∧(dAt dss c k).2.2.1≤9)∧((dAt dss c k).1=1∨(dAt dss c k).1=2∨(dAt dss c k).1=3∨(dAt dss c k).1=4)∧0≤gAt dss c k ∧
  ((dAt dss c k).1≠4→0≤evM (eventsB dss) c k∧evM (eventsB dss) c k≤((eventsB dss).length:Int)-1)∧((dAt dss c k).1=3→evM (eventsB dss) c k+1≤((eventsB dss).length:Int)-1):=by
 have ho:=okC_of hb hc k hk;have hd:=okD_kindE ho;have hev:(dAt dss c k).1≠4→∀i,i<numD (dAt dss c k)→3≤offN dss c k+i∧offN dss c k+i<(eventsB dss).length:=fun h4 i hi=>EvIs.lt hb ⟨hc,hk,hi,rfl⟩
 refine⟨place_d hb hc hk,?_,hd,?_,fun h4=>?_,fun h3=>?_⟩
 · exact (okD_vals ho).1
 · exact (okD_vals ho).2
 ·
  rw[evM_at hb hc hk h4];have:=hev h4 0 (by unfold numD;rw[if_neg h4];split<;>omega);omega
 ·
  have h4:(dAt dss c k).1≠4:=by omega
  rw[evM_at hb hc hk h4];have:=hev h4 1 (by unfold numD;rw[if_neg h4,if_pos h3];omega);omega
theorem workB_useR {dss:List (List Dd)}(h:workB dss=true):dss.length≤3∧∀i,i<dss.length→okL (dss.getD i [])=true:=by
 simp only[workB,Bool.and_eq_true,decide_eq_true_eq] at h;obtain⟨⟨⟨⟨h1,h2⟩,_⟩,_⟩,_⟩:=h;exact⟨h1.2,fun i hi=>all_get [] h2 i hi⟩
theorem evsW_9 {dss:List (List Dd)}(h:workB dss=true):(evsW dss dss.length).length≤9:=by
 simp only[workB,Bool.and_eq_true,decide_eq_true_eq] at h;obtain⟨⟨⟨⟨_,h2⟩,_⟩,h4⟩,_⟩:=h;have:=evsW_len (fun i hi=>all_get [] h2 i hi) dss.length (Nat.le_refl _);omega
theorem RB.deed {dss:List (List Dd)}{b:Bd}{N:Nat→Nat}{m:Nat}(h:RB dss b N m){c k:Nat}(hc:c<dss.length)(hk:k<(dss.getD c []).length):
  RB dss (deedM dss (eventsB dss) b c k) (fun i=>if i=c∧gAt dss c k=0 then N i+1 else N i) (m+1):=by
 obtain⟨⟨p,hp,ep⟩,hv,hd,hg,he,he3⟩:=deed_in h.work hc hk
 have hN:∀i,N i≤(fun i=>if i=c∧gAt dss c k=0 then N i+1 else N i) i:=fun i=>by
  show N i≤if _ then _ else _
  split
  · exact Nat.le_succ _
  · exact Nat.le_refl _
 have hP:(dAt dss c k).2.1.toNat=p:=by omega
 have hr:=h.rdg c hp;unfold deedM;rw[hP];split
 · exact (h.see _ _ _ ⟨by omega,by omega⟩ ⟨by omega,by omega⟩).more hN (Nat.le_succ m)
 ·
  rename_i h1;split
  ·
   rename_i h3;have e1:=he (by omega);have e2:=he3 h3;have q1:=h.vp _ (getD_in (z:=0) (show p<b.plc.length by rw[h.plc];exact hp));have q2:=h.vl _ (getD_in (z:=0) (show p<b.lst.length by rw[h.lst];exact hp));exact ((h.see _ _ _ ⟨by omega,by omega⟩ ⟨by omega,by omega⟩).ink p _ _ hv ⟨by omega,by omega⟩).more hN (Nat.le_refl _)
  ·
   rename_i h3;split
   ·
    rename_i h2;exact (h.ink p _ _ hv (he (by omega))).more hN (Nat.le_refl _)
   ·
    rename_i h2;split
    ·
     rename_i h2'
     have g0:gAt dss c k=0:=by
      by_cases e:gAt dss c k=0
      · exact e
      · exact absurd ⟨h2',by omega⟩ h2
     have e1:=he (by omega);refine (h.note (N':=fun i=>if i=c∧gAt dss c k=0 then N i+1 else N i) c _ (fun x hx=>?_) ?_ (fun i _=>hN i) hc).more (fun _=>Nat.le_refl _) (Nat.le_succ m)
     ·
      rcases List.mem_append.1 hx with hx|hx
      · exact (h.nl c).2 x hx
      ·
       rw[List.mem_singleton.1 hx];exact⟨⟨by show 0≤(dAt dss c k).2.1;omega,by show (dAt dss c k).2.1≤2;omega⟩,hv,e1⟩
     ·
      show _≤if c=c∧gAt dss c k=0 then N c+1 else N c
      rw[if_pos ⟨rfl,g0⟩,List.length_append,List.length_singleton];have:=(h.nl c).1;omega
    · exact h.more hN (Nat.le_succ m)
theorem RB.one {dss:List (List Dd)}{b:Bd}{N:Nat→Nat}{m:Nat}(h:RB dss b N m){c:Nat}(hc:c<dss.length)(hk:nxN b c<(dss.getD c []).length):
  RB dss (oneM dss (eventsB dss) b c) (fun i=>if i=c∧gAt dss c (nxN b c)=0 then N i+1 else N i) (m+1):=by
 have h0:=h.nx c hc;have hn:(nxN b c:Int)=b.nxt.getD c 0:=by unfold nxN;omega
 have:=(h.deed hc hk).next c (b.nxt.getD c 0+1) ⟨by omega,by omega⟩;rw[deed_nxt] at this;exact this
theorem RB.go {dss:List (List Dd)}{c:Nat}(hc:c<dss.length){g:Int}(hg:g≠0){N:Nat→Nat}:∀(k m:Nat) (b:Bd),RB dss b N m→nxN b c<(dss.getD c []).length→gAt dss c (nxN b c)=g→RB dss (goM dss (eventsB dss) g c k b) N (m+k)
 | 0,m,b,h,_,_=>by rw[goM];exact h
 |k+1,m,b,h,hk,e=>by
  have h1:=h.one hc hk
  have hs:(fun i=>if i=c∧gAt dss c (nxN b c)=0 then N i+1 else N i)=N:=by
   funext i;rw[if_neg (fun hh=>hg (by rw[←e];exact hh.2))]
  rw[hs] at h1;rw[goM];split
  · exact h1.more (fun _=>Nat.le_refl _) (by omega)
  ·
   rename_i hn;have hx:=h1.nx c hc;have hz:((nxN (oneM dss (eventsB dss) b c) c:Nat):Int)=(oneM dss (eventsB dss) b c).nxt.getD c 0:=by unfold nxN;omega
   have:=RB.go hc hg k (m+1) _ h1 (by omega) (by
    by_cases e':gAt dss c (nxN (oneM dss (eventsB dss) b c) c)=g
    · exact e'
    · exact absurd (.inr (.inr e')) hn)
   exact this.more (fun _=>Nat.le_refl _) (by omega)
theorem go_nought {dss:List (List Dd)}{es:List Ev}{c k:Nat}(hk:0<k)(b:Bd):goM dss es 0 c k b=oneM dss es b c:=by
 cases k with
 |zero=>omega
 |succ k=>rw[goM,if_pos (.inl rfl)]
theorem can_use {dss:List (List Dd)}{b:Bd}{c:Nat}(h:canM dss b c=true):nxN b c<(dss.getD c []).length∧(((dAt dss c (nxN b c)).1≤2∧gAt dss c (nxN b c)=0)∨b.nts.getD c []=[]):=by
 simp only[canM,Bool.and_eq_true,Bool.or_eq_true,decide_eq_true_eq,List.isEmpty_iff] at h;exact h
theorem work_five {dss:List (List Dd)}(h:workB dss=true){c:Nat}(hc:c<dss.length):(dss.getD c []).length≤5:=by
 simp only[workB,Bool.and_eq_true,List.all_eq_true] at h;have:=h.1.1.1.2 _ (getD_in (z:=[]) hc);simp only[okL,Bool.and_eq_true,decide_eq_true_eq] at this;exact this.2
theorem RB.stepped {dss:List (List Dd)}{b:Bd}{n m:Nat}(h:RB dss b (fun _=>n) m){c:Nat}(hc:c<dss.length)(hcan:canM dss b c=true)(c10:c<10):RB dss (stepM dss (eventsB dss) b (c:Int)) (fun _=>n+1) (m+5):=by
 obtain⟨hk,-⟩:=can_use hcan;have h5:=work_five h.work hc;unfold stepM;rw[if_neg (by omega),Int.toNat_natCast];by_cases g0:gAt dss c (nxN b c)=0
 ·
  rw[g0,go_nought (by omega)];refine (h.one hc hk).more (fun i=>?_) (by omega);show (if _ then n+1 else n)≤n+1;split
  · exact Nat.le_refl _
  · exact Nat.le_succ _
 · exact (RB.go hc g0 _ _ _ h hk rfl).more (fun _=>Nat.le_succ _) (by omega)
theorem step_board {dss:List (List Dd)}{b:Bd}(hb:boardB dss b=true)(hn:∀c,(b.nts.getD c []).length≤7)(hm:∀p,(b.rws.getD p []).length≤15){c:Nat}(hc:c<dss.length)(hcan:canM dss b c=true):boardB dss (stepM dss (eventsB dss) b (c:Int))=true:=by
 have h3:dss.length≤3:=(workB_useR (RB.of hb hn hm).work).1;exact ((RB.of hb hn hm).stepped hc hcan (by omega)).board (fun _=>Nat.le_refl _) (Nat.le_refl _)
def doE (rs:List Int)(c k:Nat)(pl:Bool)(b:Bd)(n:Nat)(e:Ev):Bd:=
 if e.1=(c:Int)∧e.2.1=(k:Int) then
  if e.2.2.1=true then seeM rs b (n:Int) (rdgM b c e.2.2.2.1.toNat).1 (rdgM b c e.2.2.2.1.toNat).2
  else if pl=true then { b with nts:=b.nts.set c (b.nts.getD c []++[(e.2.2.2.1,e.2.2.2.2.1,(n:Int))]) }
  else inkM b e.2.2.2.1.toNat e.2.2.2.2.1 (n:Int)
 else b
def doK (es:List Ev)(rs:List Int)(c k:Nat)(pl:Bool)(b:Bd):Nat→Bd
 | 0=>b
 |n+1=>doE rs c k pl (doK es rs c k pl b n) n (es.getD n zE)
def plnD (d:Dd):Bool:=decide (d.2.2.2=0)&&(decide (d.1=1)||decide (d.1=2))
theorem ev_of {dss:List (List Dd)}(hb:workB dss=true){c k j:Nat}(hj:j<(eventsB dss).length)(h:((eventsB dss).getD j zE).1=(c:Int)∧((eventsB dss).getD j zE).2.1=(k:Int)):∃i,EvIs dss j c k i:=by
 by_cases h3:3≤j
 ·
  obtain⟨c',k',i,E⟩:=ev_dec hb h3 hj;rw[E.at hb] at h;obtain⟨h1,h2⟩:=h;have h1:(c':Int)=(c:Int):=h1;have h2:(k':Int)=(k:Int):=h2;obtain rfl:c'=c:=by omega
  obtain rfl:k'=k:=by omega
  exact⟨i,E⟩
 ·
  exfalso;obtain⟨t,ht⟩:=evs_pre dss 0 dss.length (Nat.zero_le _)
  have e:(eventsB dss).getD j zE=evBeg.getD j zE:=by
   rw[eventsB,if_pos hb,ht];show (evBeg++t).getD j zE=_;rw[List.getD_eq_getElem?_getD,List.getElem?_append_left (by show j<3;omega),←List.getD_eq_getElem?_getD]
  rw[e] at h;have:j=0∨j=1∨j=2:=by omega
  rcases this with rfl|rfl|rfl<;>(have h1:(-1:Int)=(c:Int):=h.1;omega)
theorem doK_stay {dss:List (List Dd)}(hb:workB dss=true){c k:Nat}{rs:List Int}{pl:Bool}{b:Bd}{n:Nat}:∀m:Nat,n+m≤(eventsB dss).length→(∀j i,n≤j→¬EvIs dss j c k i)→doK (eventsB dss) rs c k pl b (n+m)=doK (eventsB dss) rs c k pl b n
 | 0,_,_=>rfl
 |m+1,hm,hn=>by
  rw[←doK_stay hb m (by omega) hn];show doE rs c k pl (doK (eventsB dss) rs c k pl b (n+m)) (n+m) ((eventsB dss).getD (n+m) zE)=_;unfold doE;rw[if_neg (fun h=>by obtain⟨i,E⟩:=ev_of hb (by omega) h;exact hn _ i (by omega) E)]
theorem doK_pre {dss:List (List Dd)}(hb:workB dss=true){c k:Nat}{rs:List Int}{pl:Bool}{b:Bd}:∀m:Nat,m≤(eventsB dss).length→m≤offN dss c k→doK (eventsB dss) rs c k pl b m=b
 | 0,_,_=>rfl
 |m+1,hm,ho=>by
  show doE rs c k pl (doK (eventsB dss) rs c k pl b m) m ((eventsB dss).getD m zE)=_;rw[doK_pre hb m (by omega) (by omega)];unfold doE;rw[if_neg (fun h=>by obtain⟨i,E⟩:=ev_of hb (by omega) h;have:=E.hj;omega)]
theorem doE_at {dss:List (List Dd)}(hb:workB dss=true){c k j i:Nat}(E:EvIs dss j c k i)(rs:List Int)(pl:Bool)(b:Bd):
  doE rs c k pl b j ((eventsB dss).getD j zE) =
   if rdI (dAt dss c k) i=true then seeM rs b (j:Int) (rdgM b c (dAt dss c k).2.1.toNat).1 (rdgM b c (dAt dss c k).2.1.toNat).2
   else if pl=true then { b with nts:=b.nts.set c (b.nts.getD c []++[((dAt dss c k).2.1,vlI (dAt dss c k) i,(j:Int))]) }
   else inkM b (dAt dss c k).2.1.toNat (vlI (dAt dss c k) i) (j:Int):=by
 unfold doE;rw[E.at hb,if_pos ⟨rfl,rfl⟩]
theorem do_deed {dss:List (List Dd)}(hb:workB dss=true){c k:Nat}(hc:c<dss.length)(hk:k<(dss.getD c []).length)(b:Bd)(h3:(dAt dss c k).1=3→b.nts.getD c []=[]):
  doK (eventsB dss) (idxB rdE (eventsB dss)) c k (plnD (dAt dss c k)) b (eventsB dss).length=deedM dss (eventsB dss) b c k:=by
 have hd:=okD_kindE (okC_of hb hc k hk);have hg:=(g_in (okC_of hb hc) hk).1;have e0:∀pl:Bool,offN dss c k≤(eventsB dss).length→doK (eventsB dss) (idxB rdE (eventsB dss)) c k pl b (offN dss c k)=b:=fun pl h=>doK_pre hb _ h (Nat.le_refl _)
 by_cases h4:(dAt dss c k).1=4
 ·
  have:∀j i,¬EvIs dss j c k i:=fun j i E=>E.kind h4
  have e:=doK_stay hb (c:=c) (k:=k) (rs:=idxB rdE (eventsB dss)) (pl:=plnD (dAt dss c k)) (b:=b) (n:=0) (eventsB dss).length (by omega) (fun j i _=>this j i);rw[Nat.zero_add] at e;rw[e];unfold deedM;rw[if_neg (by omega),if_neg (by omega),if_neg (by omega),if_neg (by omega)];rfl
 have E:=ev_first hc hk h4;have hl:=E.lt hb
 have e1:doK (eventsB dss) (idxB rdE (eventsB dss)) c k (plnD (dAt dss c k)) b (offN dss c k+1)=doE (idxB rdE (eventsB dss)) c k (plnD (dAt dss c k)) b (offN dss c k) ((eventsB dss).getD (offN dss c k) zE):=by
  show doE _ _ _ _ (doK _ _ _ _ _ _ _) _ _=_;rw[e0 _ (by omega)]
 rw[doE_at hb E] at e1;have hev:=evM_at hb hc hk h4;by_cases k3:(dAt dss c k).1=3
 ·
  have E2:=ev_second hc hk k3;have hl2:=E2.lt hb;have e2:doK (eventsB dss) (idxB rdE (eventsB dss)) c k (plnD (dAt dss c k)) b (offN dss c k+1+1)=doE (idxB rdE (eventsB dss)) c k (plnD (dAt dss c k)) (doK (eventsB dss) (idxB rdE (eventsB dss)) c k (plnD (dAt dss c k)) b (offN dss c k+1)) (offN dss c k+1) ((eventsB dss).getD (offN dss c k+1) zE):=rfl;rw[doE_at hb E2,e1] at e2
  have es:=doK_stay hb (c:=c) (k:=k) (rs:=idxB rdE (eventsB dss)) (pl:=plnD (dAt dss c k)) (b:=b) (n:=offN dss c k+1+1) ((eventsB dss).length-(offN dss c k+1+1)) (by omega) (fun j i h E=>by
   have:=E.hj;have:=E.hi;unfold numD at this;rw[if_neg h4,if_pos k3] at this
   omega)
  rw[show offN dss c k+1+1+((eventsB dss).length-(offN dss c k+1+1))=(eventsB dss).length by omega] at es;rw[es,e2];have r0:rdI (dAt dss c k) 0=true:=by unfold rdI;rw[decide_eq_true (show (dAt dss c k).1≠2 by omega)];rfl
  have r1:rdI (dAt dss c k) 1=false:=by unfold rdI;simp
  have hp:plnD (dAt dss c k)=false:=by unfold plnD;rw[decide_eq_false (show ¬(dAt dss c k).1=1 by omega),decide_eq_false (show ¬(dAt dss c k).1=2 by omega)];simp
  have hv:vlI (dAt dss c k) 1=(dAt dss c k).2.2.1:=by unfold vlI;rw[r1];rfl
  rw[r0,r1,hp,hv];simp only[if_true,Bool.false_eq_true,if_false];unfold deedM;rw[if_neg (by omega),if_pos k3,hev]
  have hr:rdgM b c (dAt dss c k).2.1.toNat=(b.plc.getD (dAt dss c k).2.1.toNat 0,b.lst.getD (dAt dss c k).2.1.toNat 0):=by
   unfold rdgM;rw[h3 k3];rfl
  rw[hr];rfl
 ·
  have es:=doK_stay hb (c:=c) (k:=k) (rs:=idxB rdE (eventsB dss)) (pl:=plnD (dAt dss c k)) (b:=b) (n:=offN dss c k+1) ((eventsB dss).length-(offN dss c k+1)) (by omega) (fun j i h E=>by
   have:=(ev_only E k3).1
   omega)
  rw[show offN dss c k+1+((eventsB dss).length-(offN dss c k+1))=(eventsB dss).length by omega] at es;rw[es,e1];unfold deedM;by_cases k1:(dAt dss c k).1=1
  ·
   have r0:rdI (dAt dss c k) 0=true:=by unfold rdI;rw[decide_eq_true (show (dAt dss c k).1≠2 by omega)];rfl
   rw[r0,if_pos rfl,if_pos k1,hev]
  ·
   have k2:(dAt dss c k).1=2:=by omega
   have r0:rdI (dAt dss c k) 0=false:=by unfold rdI;rw[decide_eq_false (show ¬(dAt dss c k).1≠2 by omega)];rfl
   have hv:vlI (dAt dss c k) 0=(dAt dss c k).2.2.1:=by unfold vlI;rw[r0];rfl
   rw[r0,hv,if_neg (by simp),if_neg k1,if_neg k3,hev];by_cases g0:0<gAt dss c k
   ·
    have hp:plnD (dAt dss c k)=false:=by
     unfold plnD;rw[decide_eq_false (show ¬(dAt dss c k).2.2.2=0 from fun h=>by have h:gAt dss c k=0:=h;omega)];rfl
    rw[if_neg (by rw[hp];simp),if_pos ⟨k2,g0⟩]
   ·
    have hp:plnD (dAt dss c k)=true:=by
     unfold plnD;rw[decide_eq_true (show (dAt dss c k).2.2.2=0 by show gAt dss c k=0;omega),decide_eq_true k2];simp
    rw[if_pos hp,if_neg (fun h=>g0 h.2),if_pos k2]
theorem setR_one {rs l:List Int}{i:Nat}{v:Int}(hr:rs.Pairwise (·<·))(hi:i<rs.length)(hl:l.length=rs.length):setR rs (rs.getD i 0) v l=l.set i v:=by
 unfold setR;apply List.ext_getElem?;intro j;have hgi:rs.getD i 0=rs[i]:=by rw[List.getD_eq_getElem?_getD,List.getElem?_eq_getElem hi];rfl
 rw[List.getElem?_zipWith,List.getElem?_set,hgi];by_cases hj:j<rs.length
 ·
  rw[List.getElem?_eq_getElem hj,List.getElem?_eq_getElem (by omega:j<l.length)];by_cases e:i=j
  ·
   subst e;rw[if_pos rfl,if_pos (by omega)];simp
  ·
   rw[if_neg e]
   have hne:rs[j]≠rs[i]:=by
    rw[List.pairwise_iff_getElem] at hr;rcases Nat.lt_or_ge i j with q|q
    · have:=hr i j hi hj q;omega
    · have:=hr j i hj hi (by omega);omega
   simp[hne]
 ·
  rw[List.getElem?_eq_none (by omega:rs.length≤j),List.getElem?_eq_none (by omega:l.length≤j)];by_cases e:i=j
  · omega
  · rw[if_neg e]
theorem goP_more {dss:List (List Dd)}{es:List Ev}{g:Int}{c m:Nat}{b:Bd}(hlen:nxN (oneM dss es b c) c≤(dss.getD c []).length)(hnx:nxN (oneM dss es b c) c=nxN b c+1)(hg:gAt dss c (nxN b c)=g):
  goM dss es g c (m+1) b=if nxN (oneM dss es b c) c<(dss.getD c []).length∧goB (dss.getD c []) (nxN (oneM dss es b c) c)=true then goM dss es g c m (oneM dss es b c) else oneM dss es b c:=by
 show (if g=0∨nxN (oneM dss es b c) c=(dss.getD c []).length∨gAt dss c (nxN (oneM dss es b c) c)≠g then oneM dss es b c else goM dss es g c m (oneM dss es b c))=_
 have hgo:goB (dss.getD c []) (nxN (oneM dss es b c) c)=true↔gAt dss c (nxN (oneM dss es b c) c)≠0∧gAt dss c (nxN (oneM dss es b c) c)=g:=by
  unfold goB;rw[hnx];rw[show nxN b c+1-1=nxN b c from rfl];have e1:((dss.getD c []).getD (nxN b c+1) zD).2.2.2=gAt dss c (nxN b c+1):=rfl;have e2:((dss.getD c []).getD (nxN b c) zD).2.2.2=gAt dss c (nxN b c):=rfl;rw[e1,e2,hg];simp
 by_cases h1:nxN (oneM dss es b c) c<(dss.getD c []).length∧goB (dss.getD c []) (nxN (oneM dss es b c) c)=true
 ·
  rw[if_pos h1,if_neg];obtain⟨h2,h3⟩:=hgo.1 h1.2;rintro (h|h|h)
  · omega
  · omega
  · exact h h3
 ·
  rw[if_neg h1,if_pos];by_cases h2:nxN (oneM dss es b c) c<(dss.getD c []).length
  ·
   have h3:¬(gAt dss c (nxN (oneM dss es b c) c)≠0∧gAt dss c (nxN (oneM dss es b c) c)=g):=fun h=>h1 ⟨h2,hgo.2 h⟩
   by_cases hz:g=0
   · exact .inl hz
   ·
    right;right;intro e;exact h3 ⟨by rw[e];exact hz,e⟩
  · right;left;omega
section
section
variable {P:Program} {ops:Array Oper} {Q:Exit→Act→World→Prop} {md:Region.Mode}
def leftN (listed:Array Bool):Nat:=listed.toList.countP (fun b=>!b)
theorem count_set:∀(l:List Bool) (i:Nat),l[i]? = some false→(l.set i true).countP (fun b=>!b)+1=l.countP (fun b=>!b)
 | [],i,h=>by simp at h
 |x::r,0,h=>by
  simp at h;subst h;simp
 |x::r,i+1,h=>by
  have ih:=count_set r i (by simpa using h);rw[List.set_cons_succ,List.countP_cons,List.countP_cons];omega
theorem leftN_set {listed:Array Bool}{i:Nat}(h:listed[i]? = some false):leftN (listed.setIfInBounds i true)+1=leftN listed:=by
 unfold leftN;rw[Array.toList_setIfInBounds];exact count_set _ _ (by rw[Array.getElem?_toList];exact h)
theorem ready_use {listed:Array Bool}{i:Nat}(h:i∈Region.ready md ops listed):i<ops.size∧listed[i]? = some false∧∀o,ops[i]? = some o→o.after.all (fun e=>!Region.binds md e||listed.getD e.on false)=true:=by
 unfold Region.ready at h;rw[List.mem_filter,List.mem_range] at h;obtain⟨h1,h2⟩:=h;simp only[Bool.and_eq_true,Bool.not_eq_true'] at h2;refine⟨h1,?_,fun o ho=>?_⟩
 ·
  have h3:=h2.1;rw[Array.getD_eq_getD_getElem?] at h3
  cases e:listed[i]? with
  |none=>rw[e] at h3;cases h3
  |some b=>rw[e] at h3;simp at h3;rw[h3]
 ·
  have h3:=h2.2;rw[ho] at h3
  simpa using h3
theorem wpAny_inv (J:Array Bool→Act→World→Prop)
  (step:∀listed a w,J listed a w→∀i,i∈Region.ready md ops listed→wpOp P ops Q i (fun a' w'=>J (listed.setIfInBounds i true) a' w') a w)
  (done:∀listed a w,J listed a w→Region.ready md ops listed=[]→Q .normal a w):
  ∀(fuel:Nat) (listed:Array Bool) (a:Act) (w:World),leftN listed≤fuel→J listed a w→wpAny P md ops Q fuel listed a w
 | 0,listed,a,w,hl,hJ=>by
  have hr:Region.ready md ops listed=[]:=by
   cases h:Region.ready md ops listed with
   |nil=>rfl
   |cons i r=>
    exfalso;have h2:=(ready_use (md:=md) (ops:=ops) (listed:=listed) (i:=i) (by rw[h];simp)).2.1;have:=leftN_set h2;omega
  exact⟨hr,done listed a w hJ hr⟩
 |fuel+1,listed,a,w,hl,hJ=>by
  refine⟨fun hr=>done listed a w hJ hr,fun i hi=>?_⟩;refine wpOp_mono (fun a' w' hJ'=>wpAny_inv J step done fuel _ a' w' ?_ hJ') (step listed a w hJ i hi);have:=leftN_set (ready_use hi).2.1;omega
theorem leftN_none (n:Nat):leftN (Array.replicate n false)=n:=by
 unfold leftN;rw[Array.toList_replicate];simp[List.countP_replicate]
theorem wp_region_inv {id:Nat}{a:Act}{w:World}(hm:P.follows .mixedOrders=true)(J:Array Bool→Act→World→Prop)
  (start:J (Array.replicate ops.size false) a w.drew)
  (step:∀listed a w,J listed a w→∀i,i∈Region.ready .any ops listed→wpOp P ops Q i (fun a' w'=>J (listed.setIfInBounds i true) a' w') a w)
  (done:∀listed a w,J listed a w→Region.ready .any ops listed=[]→Q .normal a w):(Code.region id ops true).wp P Q a w:=
 wp_region_any hm (wpAny_inv J step done ops.size _ a _ (by rw[leftN_none];exact Nat.le_refl _) start)
end
end
def rowS (v:Value)(n:Nat)(a:Addr):Prop:=∃b o l c i,v = .slice (some ⟨b,o,none⟩) l c∧i<n∧a=⟨b,o+i,none⟩
def Wb (w:World)(a:Addr):Prop:=∃cur t,w.heap[a.block]? = some (.cells cur t (0,0))∧a.off<cur.size
structure Wrt (S:Addr→Prop)(w w':World):Prop where
 os:w'.os=w.os
 tape:w'.tape=w.tape
 output:w'.output=w.output
 size:w.heap.size≤w'.heap.size
 cell:∀a,a.block<w.heap.size→¬S a→w'.cell? a=w.cell? a
 shape:∀(b:Nat) (cur:Array Value) (t:TypeId),w.heap[b]? = some (Obj.cells cur t (0,0))→∃cur':Array Value,w'.heap[b]? = some (Obj.cells cur' t (0,0))∧cur'.size=cur.size
 block:∀b,b<w.heap.size→(∀a,S a→a.block≠b)→w'.heap[b]? = w.heap[b]?
def Mkd (w:World)(v:Value)(n:Nat)(k:Int):Prop:=∀b o l c i,v = .slice (some ⟨b,o,none⟩) l c→i<n→w.cell? ⟨b,o+i,none⟩=some (.int .i64 (k+i))
theorem Wb.lt {w:World}{a:Addr}(h:Wb w a):a.block<w.heap.size:=by
 obtain⟨cur,t,h,_⟩:=h;exact (Array.getElem?_eq_some_iff.1 h).1
theorem Wb.free {w:World}{b o:Nat}(h:Wb w ⟨b,o,none⟩):w.frozen? ⟨b,o,none⟩=false:=by
 obtain⟨cur,t,h,_⟩:=h;exact frozen_of_row w b o cur t h
theorem Wb.cell {w:World}{b o:Nat}(h:Wb w ⟨b,o,none⟩):∃u,w.cell? ⟨b,o,none⟩=some u:=by
 obtain⟨cur,t,h,hn⟩:=h;exact⟨cur[o],by rw[cell_of_row w b o cur t (0,0) h,Array.getElem?_eq_getElem hn]⟩
theorem Wb.kept {S:Addr→Prop}{w w':World}{a:Addr}(h:Wb w a)(k:Wrt S w w'):Wb w' a:=by
 obtain⟨cur,t,h,hn⟩:=h;obtain⟨cur',h',e⟩:=k.shape _ _ _ h;exact⟨cur',t,h',by rw[e];exact hn⟩
theorem Wb.keep {w w':World}{a:Addr}(h:Wb w a)(k:Keep w w'):Wb w' a:=by
 have hl:=h.lt;obtain⟨cur,t,h,hn⟩:=h;exact⟨cur,t,(Below.block k _ hl).trans h,hn⟩
theorem Wrt.refl (S:Addr→Prop)(w:World):Wrt S w w:=⟨rfl,rfl,rfl,Nat.le_refl _,fun _ _ _=>rfl,fun _ cur _ h=>⟨cur,h,rfl⟩,fun _ _ _=>rfl⟩
theorem Wrt.trans {S:Addr→Prop}{a b c:World}(h:Wrt S a b)(k:Wrt S b c):Wrt S a c:=
  ⟨k.os.trans h.os,k.tape.trans h.tape,k.output.trans h.output,Nat.le_trans h.size k.size,
   fun x hx hn=>(k.cell x (Nat.lt_of_lt_of_le hx h.size) hn).trans (h.cell x hx hn),
   fun q cur t hq=>by
    obtain⟨c1,h1,e1⟩:=h.shape q cur t hq;obtain⟨c2,h2,e2⟩:=k.shape q c1 t h1
    exact⟨c2,h2,e2.trans e1⟩,
   fun q hq hn=>(k.block q (Nat.lt_of_lt_of_le hq h.size) hn).trans (h.block q hq hn)⟩
theorem Wrt.more {S T:Addr→Prop}{w w':World}(h:Wrt S w w')(hs:∀a,S a→T a):Wrt T w w':=
 ⟨h.os,h.tape,h.output,h.size,fun a ha hn=>h.cell a ha (fun hS=>hn (hs a hS)),h.shape,fun b hb hn=>h.block b hb (fun a ha=>hn a (hs a ha))⟩
theorem Wrt.set {S:Addr→Prop}{a w:World}(h:Wrt S a w){b o:Nat}(x:Value)(hb:Wb w ⟨b,o,none⟩)(hS:S ⟨b,o,none⟩):Wrt S a (w.setCell ⟨b,o,none⟩ x):=by
 refine h.trans ⟨rfl,rfl,rfl,by simp,fun q _ hn=>World.cell?_setCell_other _ _ _ _ (fun e=>hn (e ▸ hS)),fun q cur t hq=>?_,fun q _ hn=>heap_setCell_other w ⟨b,o,none⟩ q x (fun e=>hn _ hS e.symm)⟩;by_cases e:q=b
 ·
  subst e;exact⟨cur.setIfInBounds o x,heap_setCell_same w q o cur t x hq,by simp⟩
 · exact⟨cur,(heap_setCell_other w ⟨b,o,none⟩ q x e).trans hq,rfl⟩
theorem Wb.set {w:World}{a:Addr}{b o:Nat}(x:Value)(h:Wb w a):Wb (w.setCell ⟨b,o,none⟩ x) a:=by
 obtain⟨cur,t,h,hn⟩:=h;by_cases e:a.block=b
 ·
  refine⟨cur.setIfInBounds o x,t,?_,by simpa using hn⟩;rw[e] at h ⊢;exact heap_setCell_same w b o cur t x h
 · exact⟨cur,t,(heap_setCell_other w ⟨b,o,none⟩ a.block x e).trans h,hn⟩
theorem Mkd.kept {S:Addr→Prop}{w w':World}{v:Value}{n:Nat}{k:Int}(h:Mkd w v n k)(g:Wrt S w w')(hd:∀a,rowS v n a→¬S a)(hw:∀a,rowS v n a→a.block<w.heap.size):Mkd w' v n k:=
 fun b o l c i e hi=>(g.cell _ (hw _ ⟨b,o,l,c,i,e,hi,rfl⟩) (hd _ ⟨b,o,l,c,i,e,hi,rfl⟩)).trans (h b o l c i e hi)
theorem Mkd.keep {w w':World}{v:Value}{n:Nat}{k:Int}(h:Mkd w v n k)(g:Keep w w')(hw:∀a,rowS v n a→a.block<w.heap.size):Mkd w' v n k:=
 fun b o l c i e hi=>(g.cell (hw _ ⟨b,o,l,c,i,e,hi,rfl⟩)).trans (h b o l c i e hi)
def rowsS (rs:List (Value×Nat))(a:Addr):Prop:=∃r∈rs,rowS r.1 r.2 a
structure Loose (w:World)(rs:List (Value×Nat)):Prop where
 wb:∀a,rowsS rs a→Wb w a
 ap:rs.Pairwise (fun r s=>∀a,rowS r.1 r.2 a→¬rowS s.1 s.2 a)
theorem Loose.kept {S:Addr→Prop}{w w':World}{rs:List (Value×Nat)}(h:Loose w rs)(g:Wrt S w w'):Loose w' rs:=⟨fun a ha=>(h.wb a ha).kept g,h.ap⟩
theorem Loose.keep {w w':World}{rs:List (Value×Nat)}(h:Loose w rs)(g:Keep w w'):Loose w' rs:=⟨fun a ha=>(h.wb a ha).keep g,h.ap⟩
theorem Loose.apart {w:World}{a b:List (Value×Nat)}(h:Loose w (a++b)):∀x,rowsS a x→¬rowsS b x:=by
 rintro x ⟨r,hr,h1⟩ ⟨s,hs,h2⟩;exact (List.pairwise_append.1 h.ap).2.2 r hr s hs x h1 h2
theorem board_all {dss:List (List Dd)}{b:Bd}(h:boardB dss b=true):workB dss=true∧b.plc.length=3∧b.lst.length=3∧b.rws.length=3∧b.nts.length=dss.length∧b.nxt.length=dss.length∧b.sn.length≤12∧b.fr.length≤12∧(∀i,i<3→(b.rws.getD i []).length≤20)∧∀i,i<dss.length→(b.nts.getD i []).length≤8:=by
 unfold boardB shapeB fillB rowsBd at h;simp only[Bool.and_eq_true,decide_eq_true_eq] at h;obtain⟨⟨h1,h2,h3,h4,h5,h6⟩,⟨_,_,_,_,h7,h8⟩,h9,h10⟩:=h;unfold allB at h7 h8;simp only[Bool.and_eq_true,decide_eq_true_eq] at h7 h8;refine⟨h1,h2,h3,h4,h5,h6,h7.2,h8.2,fun i hi=>?_,fun i hi=>?_⟩
 ·
  have:=List.all_eq_true.1 h9 i (List.mem_range.2 hi);unfold allB at this;simp only[Bool.and_eq_true,decide_eq_true_eq] at this;exact this.2
 ·
  have:=List.all_eq_true.1 h10 i (List.mem_range.2 hi);unfold ckB at this;simp only[Bool.and_eq_true,decide_eq_true_eq] at this;exact this.2.1
theorem work_small {dss:List (List Dd)}(h:workB dss=true):dss.length≤3∧∀i,i<dss.length→(dss.getD i []).length≤1048576:=by
 obtain⟨h1,h2⟩:=workB_useR h;refine⟨h1,fun i hi=>?_⟩;have hq:=h2 i hi;unfold okL at hq;rw[Bool.and_eq_true,decide_eq_true_eq] at hq;omega
theorem Own.lit {w:World}{base:Nat}{v:Value}{zs:List Int}(h:Own w base v zs){k:Nat}(hk:k<zs.length):∃g cap,v = .slice (some ⟨g,0,none⟩) zs.length cap∧g<w.heap.size∧(∀i,i<zs.length→w.cell? ⟨g,i,none⟩=some (.int .i64 (zs.getD i 0)))∧∀i,w.frozen? ⟨g,i,none⟩=false:=by
 have h':=h;have hlt:=World.ownsRow.lt h;rcases h.2 with ⟨_,hn⟩|⟨g,cap,cur,rfl,_⟩
 · omega
 ·
  refine⟨g,cap,rfl,(hlt g rfl).2,fun i hi=>?_,fun i=>World.ownsRow.frozenAt h' i⟩;rw[World.ownsRow.cellAt h' i (by simpa using hi),List.getElem?_map,List.getElem?_eq_getElem hi,List.getD_eq_getElem?_getD,List.getElem?_eq_getElem hi];rfl
theorem step_append_at {P:Program}{w:World}{ops:Array Oper}{o:Oper}{a:Act}{K:Act→World→Prop}{Q:Exit→Act→World→Prop}{E:Prop}(hgd:o.guard=none)(s x:Operand)(t:TypeId)
  (ho:o.op = .call { callee:= .builtin .append,args:=#[s,x],argTypes:=#[t,t] })
  (base:Nat) (e:TypeId) (i:TypeInfo) (z:Value) (size bytes:Nat) (ht:P.underlying t=some (.slice e)) (hi:P.info? e=some i) (hz:i.zero=some z)
  (hsize:i.size=size) (hby:i.bytes=bytes) (hzs:z.cells.size=size) (hsz:0<size)
  (v:Value) (n:Nat) (xs:List Value) (hs:a.eval s=v) (hown:w.ownsRow base e size v n xs)
  (ad:Addr) (m c:Nat) (news:List Value) (hx:a.eval x = .slice (some ad) m c) (hl:news.length=m*size) (hnews:∀j u,news[j]? = some u→w.cell? (ad.add j)=some u) (h1:∀u∈news,u.oneCell'=true)
  (h63:n+m≤maxLen) (hbytes:(n+m)*bytes≤140737488355328) (hbase:base≤w.heap.size)
  (h:∀v' w',w'.ownsRow base e size v' (n+m) (xs++news)→w.grownBy w' v.ownBlock→(v'.ownBlock=v.ownBlock∨v'.ownBlock=some w.heap.size)→K (a.put o.dst v') w'):
  if Region.wanted o (yielded ops a.tmps)=true then Oper.wp P o a w K Q else E:=by
 have hw:Region.wanted o (yielded ops a.tmps)=true:=by simp[Region.wanted,hgd]
 rw[if_pos hw];obtain⟨v',w',hr,h2,h3,h4,h5⟩:=run_append_own_at (P:=P) w base t o.type e i z size bytes ht hi hz hsize hby hzs hsz v n xs hown ad m c news hl hnews h1 h63 hbytes hbase;unfold Oper.wp execOp;simp only[ho,resolve,invoke,builtin,Sem.run_bind,Sem.run_pure,Result.andThen_ok,List.map_toArray,List.map_cons,List.map_nil,hs,hx,hr];exact h v' w' h2 h3 h5
def seenK (ns:List Nt)(p:Int)(y:Nt)(k:Nat):Nt:=((ns.take k).reverse.find? (fun x=>x.1==p)).getD y
theorem seenK_more (ns:List Nt)(p:Int)(y:Nt)(k:Nat)(h:k<ns.length):seenK ns p y (k+1)=if (ns.getD k (0,0,0)).1=p then ns.getD k (0,0,0) else seenK ns p y k:=by
 have e:ns.take (k+1)=ns.take k++[ns.getD k (0,0,0)]:=by
  rw[List.take_add_one,List.getD_eq_getElem?_getD,List.getElem?_eq_getElem h];rfl
 unfold seenK;rw[e,List.reverse_append];simp only[List.reverse_cons,List.reverse_nil,List.nil_append,List.cons_append,List.find?_cons];by_cases q:(ns.getD k (0,0,0)).1=p
 ·
  rw[if_pos q];have:((ns.getD k (0,0,0)).1==p)=true:=by simpa using q
  rw[this];rfl
 ·
  rw[if_neg q];have:((ns.getD k (0,0,0)).1==p)=false:=by simpa using q
  rw[this]
theorem seenK_all (b:Bd)(c p:Nat):(seenK (b.nts.getD c []) (p:Int) ((p:Int),b.plc.getD p 0,b.lst.getD p 0) (b.nts.getD c []).length).2=rdgM b c p:=by
 unfold seenK rdgM;rw[List.take_length];cases (b.nts.getD c []).reverse.find? (fun x=>x.1==(p:Int))<;>rfl
theorem isB_take {l:List Int}{n:Int}(h:∀i,i<l.length→l.getD i 0≠n):isB l n=false:=by
 unfold isB;rw[List.any_eq_false];intro x hx;obtain⟨i,hi,e⟩:=List.getElem_of_mem hx;have:=h i hi;rw[List.getD_eq_getElem?_getD,List.getElem?_eq_getElem hi] at this;simp only[Option.getD_some] at this;rw[←e]
 simpa using this
theorem isB_at {l:List Int}{n:Int}{i:Nat}(hi:i<l.length)(h:l.getD i 0=n):isB l n=true:=by
 unfold isB;rw[List.any_eq_true];refine⟨n,?_,by simp⟩;rw[←h,List.getD_eq_getElem?_getD,List.getElem?_eq_getElem hi];exact List.getElem_mem hi
def lenG {α:Type}:List (List α)→Nat
 | []=>0
 |d::r=>d.length+lenG r
theorem lenG_app {α:Type}:∀(l r:List (List α)),lenG (l++r)=lenG l+lenG r
 | [],r=>by simp[lenG]
 |d::l,r=>by rw[List.cons_append,lenG,lenG,lenG_app l r];omega
theorem lenG_take {α:Type}(dss:List (List α))(k:Nat)(h:k<dss.length):lenG (dss.take (k+1))=lenG (dss.take k)+(dss.getD k []).length:=by
 rw[List.take_add_one,List.getElem?_eq_getElem h,lenG_app,List.getD_eq_getElem?_getD,List.getElem?_eq_getElem h];simp[lenG]
def SumBd (dss:List (List Dd))(b:Bd):Prop:=lenW dss≤1048576∧lenG b.nts≤1048576∧lenG b.rws≤1048576
theorem sub_of_idx {l:List Int}{i q:Nat}(hi:i<q)(hq:q<l.length):[l.getD i 0,l.getD q 0].Sublist l:=by
 have h1:[l.getD i 0].Sublist (l.take q):=by
  rw[List.singleton_sublist,List.mem_take_iff_getElem];refine⟨i,by omega,?_⟩;rw[List.getD_eq_getElem?_getD,List.getElem?_eq_getElem (by omega)];rfl
 have h2:[l.getD q 0].Sublist (l.drop q):=by
  rw[List.singleton_sublist,List.mem_drop_iff_getElem];refine⟨0,by omega,?_⟩;rw[List.getD_eq_getElem?_getD,List.getElem?_eq_getElem hq];simp
 have:=h1.append h2
 rwa [List.take_append_drop] at this
theorem bef_idx {L:List Nat}(hn:L.Nodup){x y:Nat}(h:Bef L x y):L.idxOf x<L.idxOf y:=by
 induction L with
 |nil=>cases h
 |cons c L ih=>
  rw[List.nodup_cons] at hn
  have hxy:x≠y:=by
   have:=h.nodup (by rw[List.nodup_cons];exact hn);intro e;rw[e] at this;simp at this
  cases h with
  |cons _ h'=>
   have hm:=bef_mem h';have hx:c≠x:=fun e=>hn.1 (by rw[e];exact hm.1)
   have hy:c≠y:=fun e=>hn.1 (by rw[e];exact hm.2)
   rw[List.idxOf_cons,List.idxOf_cons,beq_eq_false_iff_ne.2 hx,beq_eq_false_iff_ne.2 hy];exact Nat.succ_lt_succ (ih hn.2 h')
  |cons_cons _ h'=>
   rw[List.idxOf_cons_self,List.idxOf_cons,beq_eq_false_iff_ne.2 hxy];exact Nat.succ_pos _
structure Fin (dss:List (List Dd))(a:Ab)(τ:Nat→Nat)(T:Nat)(z:Int)(b:Bd):Prop where
 inv:AInv (sysW dss) (stA dss a τ) T z
 rep:Rep dss b a
 none:∀c,(stA dss a τ).N c=[]
 all:∀j,j<(eventsB dss).length→(stA dss a τ).D (sysW dss) j
theorem Fin.frs {dss:List (List Dd)}{a:Ab}{τ:Nat→Nat}{T:Nat}{z:Int}{b:Bd}(h:Fin dss a τ T z b):b.fr=(idxB rdE (eventsB dss)).map (fun r=>(a.F r.toNat:Int))∧b.sn=(idxB rdE (eventsB dss)).map (fun r=>vlN dss (a.F r.toNat)):=by
 have hx:=eventsB_12 dss;rw[h.rep.fr,h.rep.sn]
 constructor <;>
 ·
  refine List.map_congr_left (fun r hr=>?_);obtain⟨j,rfl,hj,_⟩:=rs_in hx hr;rw[Int.toNat_natCast,if_pos (h.all j hj).1.2]
theorem Fin.rd {dss:List (List Dd)}{a:Ab}{τ:Nat→Nat}{T:Nat}{z:Int}{b:Bd}(h:Fin dss a τ T z b){i:Nat}(hi:i<(idxB rdE (eventsB dss)).length):∃r:Nat,r<(eventsB dss).length∧(idxB rdE (eventsB dss)).getD i 0=(r:Int)∧b.fr.getD i 0=(a.F r:Int)∧(sysW dss).rd r=true:=by
 have hx:=eventsB_12 dss;obtain⟨r,e,hr,hrd⟩:=rs_in hx (getD_mem hi);refine⟨r,hr,e,?_,hrd⟩;rw[h.frs.1,List.getD_eq_getElem?_getD,List.getElem?_map];rw[List.getD_eq_getElem?_getD,List.getElem?_eq_getElem hi] at e;rw[List.getElem?_eq_getElem hi];simp only[Option.getD_some] at e;simp[e]
theorem Fin.src {dss:List (List Dd)}{a:Ab}{τ:Nat→Nat}{T:Nat}{z:Int}{b:Bd}(hb:workB dss=true)(h:Fin dss a τ T z b):srcB (chcL (eventsB dss)) b.fr=true:=by
 have hx:=eventsB_12 dss;have hc:(chcL (eventsB dss)).length=(idxB rdE (eventsB dss)).length:=chcK_len _ _ _;unfold srcB;rw[Bool.and_eq_true,decide_eq_true_eq];refine⟨by rw[hc,h.frs.1,List.length_map],(srcK_iff _).2 (fun i hi=>?_)⟩;rw[hc] at hi;obtain⟨r,hr,e1,e2,e3⟩:=h.rd hi;obtain⟨q1,q2,q3,_⟩:=h.inv.src r (h.all r hr).1 e3;unfold chcL;rw[chcK_get _ _ _ _ hi,e1,e2];refine mem_isB ?_;unfold idxB;rw[if_pos hx];refine idxK_has _ _ ?_ _ (h.inv.lt _ q1);unfold toE plE;have p1:0≤((eventsB dss).getD (a.F r) zE).2.2.2.1∧((eventsB dss).getD (a.F r) zE).2.2.2.1≤2:=place_ev hb (h.inv.lt _ q1);have p2:=place_ev hb hr;have q3':((eventsB dss).getD (a.F r) zE).2.2.2.1.toNat=((eventsB dss).getD r zE).2.2.2.1.toNat:=q3;have q2':((eventsB dss).getD (a.F r) zE).2.2.1=false:=q2;rw[q2',Int.toNat_natCast];have:((eventsB dss).getD (a.F r) zE).2.2.2.1=((eventsB dss).getD r zE).2.2.2.1:=by omega
 rw[this];simp
theorem Fin.head {dss:List (List Dd)}{a:Ab}{τ:Nat→Nat}{T:Nat}{z:Int}{b:Bd}(h:Fin dss a τ T z b){p:Nat}(hp:p<3):(a.R p).head? = some p:=by
 obtain⟨h1,h2,h3,h4,h5,h6⟩:=h.inv.beg p hp;have hm:p∈a.R p:=(h.inv.rows p p).2 ⟨h.all p (h.inv.lt p h1),h2,h3⟩;have ho:=h.inv.rord p
 cases hl:a.R p with
 |nil=>rw[hl] at hm;cases hm
 |cons x r=>
  change (a.R p).Pairwise _ at ho;rw[hl] at ho hm;rw[List.pairwise_cons] at ho;rcases List.mem_cons.1 hm with e|hr
  · rw[e];rfl
  ·
   exfalso;have hx:=(h.inv.rows p x).1 (show x∈a.R p by rw[hl];simp);have ht:=ho.1 p hr;change τ x≤τ p at ht;change τ p=0 at h5;have hnd:=h.inv.rnod p;change (a.R p).Nodup at hnd;rw[hl,List.nodup_cons] at hnd;have hne:x≠p:=fun e=>hnd.1 (by rw[e];exact hr)
   by_cases h3x:3≤x
   ·
    have:=h.inv.tpos x hx.1 h3x;change 1≤τ x at this;omega
   ·
    have:=(h.inv.beg x (by omega)).2.2.1;rw[hx.2.2] at this;exact hne this.symm
theorem Fin.perm {dss:List (List Dd)}{a:Ab}{τ:Nat→Nat}{T:Nat}{z:Int}{b:Bd}(hb:workB dss=true)(h:Fin dss a τ T z b)(p:Nat):((a.R p).map Int.ofNat).Perm (plcW (eventsB dss) p):=by
 have hx:=eventsB_12 dss
 have hn1:((a.R p).map Int.ofNat).Nodup:=by
  have:=h.inv.rnod p;exact List.Pairwise.map _ (fun x y hxy e=>hxy (Int.ofNat.inj e)) this
 have hn2:=plcW_nodup hx p
 have hm:∀y,y∈(a.R p).map Int.ofNat↔y∈plcW (eventsB dss) p:=by
  intro y;rw[List.mem_map];unfold plcW idxB;rw[if_pos hx];constructor
  ·
   rintro⟨x,hx',rfl⟩;obtain⟨q1,q2,q3⟩:=(h.inv.rows p x).1 hx';refine idxK_has _ _ ?_ _ (h.inv.lt x q1.1);have p1:=place_ev hb (h.inv.lt x q1.1);have q2':((eventsB dss).getD x zE).2.2.1=false:=q2;have q3':((eventsB dss).getD x zE).2.2.2.1.toNat=p:=q3;unfold toE;rw[q2'];have:((eventsB dss).getD x zE).2.2.2.1=(p:Int):=by omega
   rw[this];simp
  ·
   intro hy;have h1:=idxK_lt _ _ _ _ hy;have h2:=idxK_mem _ _ _ _ hy;obtain⟨x,rfl⟩:=Int.eq_ofNat_of_zero_le h1.1;rw[Int.toNat_natCast] at h2;unfold toE at h2;simp only[Bool.and_eq_true,Bool.not_eq_true',beq_iff_eq] at h2;refine⟨x,(h.inv.rows p x).2 ⟨h.all x (by omega),h2.1,?_⟩,rfl⟩;show ((eventsB dss).getD x zE).2.2.2.1.toNat=p;rw[h2.2,Int.toNat_natCast]
 refine perm_of hn1 (fun y hy=>(hm y).1 hy) (nodup_sub_len hn2 (fun y hy=>(hm y).2 hy))
def rowsOf (b:Bd):List Int:=b.rws.getD 0 []++b.rws.getD 1 []++b.rws.getD 2 []
theorem Fin.rowsE {dss:List (List Dd)}{a:Ab}{τ:Nat→Nat}{T:Nat}{z:Int}{b:Bd}(h:Fin dss a τ T z b):rowsOf b=(a.R 0).map Int.ofNat++(a.R 1).map Int.ofNat++(a.R 2).map Int.ofNat:=by
 unfold rowsOf;rw[(lst_at h.rep (show 0<3 by omega)).2.2,(lst_at h.rep (show 1<3 by omega)).2.2,(lst_at h.rep (show 2<3 by omega)).2.2]
theorem Fin.rows {dss:List (List Dd)}{a:Ab}{τ:Nat→Nat}{T:Nat}{z:Int}{b:Bd}(hb:workB dss=true)(h:Fin dss a τ T z b):rowsL (eventsB dss) (rowsOf b)=true:=by
 rw[h.rowsE];have hl:∀p,((a.R p).map Int.ofNat).length=(plcW (eventsB dss) p).length:=fun p=>(h.perm hb p).length_eq
 have hd:∀p,p<3→((a.R p).map Int.ofNat).getD 0 0=(p:Int):=by
  intro p hp;have:=h.head hp;rw[List.head?_eq_getElem?] at this;rw[List.getD_eq_getElem?_getD,List.getElem?_map,this];rfl
 have h0:∀p,p<3→0<(plcW (eventsB dss) p).length:=fun p hp=>(plcW_first hb p hp).1
 have k0:=okP_mk (A:=[]) (P:=(a.R 0).map Int.ofNat) (C:=(a.R 1).map Int.ofNat++(a.R 2).map Int.ofNat) (i:=0) (hl 0) (h.perm hb 0) (h0 0 (by omega)) (hd 0 (by omega));have k1:=okP_mk (A:=(a.R 0).map Int.ofNat) (P:=(a.R 1).map Int.ofNat) (C:=(a.R 2).map Int.ofNat) (i:=1) (hl 1) (h.perm hb 1) (h0 1 (by omega)) (hd 1 (by omega));have k2:=okP_mk (A:=(a.R 0).map Int.ofNat++(a.R 1).map Int.ofNat) (P:=(a.R 2).map Int.ofNat) (C:=[]) (i:=2) (hl 2) (h.perm hb 2) (h0 2 (by omega)) (hd 2 (by omega));simp only[List.nil_append,List.append_nil,List.length_nil,List.length_append,hl,←List.append_assoc] at k0 k1 k2;unfold rowsL;rw[k0,k1,k2];simp only[Bool.true_and,decide_eq_true_eq,List.length_append,hl]
theorem fil_own {dss:List (List Dd)}{a:Ab}{τ:Nat→Nat}{T:Nat}{z:Int}{b:Bd}(hb:workB dss=true)(h:Fin dss a τ T z b)(p q:Nat):((a.R q).map Int.ofNat).filter (fun x=>plE (eventsB dss) x==(p:Int))=if q=p then (a.R q).map Int.ofNat else []:=by
 have hq:∀x,x∈(a.R q).map Int.ofNat→plE (eventsB dss) x=(q:Int):=by
  intro x hx;obtain⟨y,hy,rfl⟩:=List.mem_map.1 hx;obtain⟨q1,q2,q3⟩:=(h.inv.rows q y).1 hy;have p1:=place_ev hb (h.inv.lt y q1.1);have q3':((eventsB dss).getD y zE).2.2.2.1.toNat=q:=q3;show ((eventsB dss).getD ((y:Int)).toNat zE).2.2.2.1=_;rw[Int.toNat_natCast];omega
 split
 ·
  rename_i e;rw[List.filter_eq_self];intro x hx;rw[hq x hx,e];simp
 ·
  rename_i e;rw[List.filter_eq_nil_iff];intro x hx;rw[hq x hx];simp;omega
theorem row_bef {dss:List (List Dd)}{a:Ab}{τ:Nat→Nat}{T:Nat}{z:Int}{b:Bd}(hb:workB dss=true)(h:Fin dss a τ T z b)(W:Webs (eventsB dss) b.fr (rowsOf b)){x y:Nat}(hx:x<(eventsB dss).length)(hl:line (rwL (eventsB dss) (rowsOf b)) x y=true):
  Bef (a.R ((sysW dss).pl x)) x y:=by
 obtain⟨i,q,hi,hq,hp,e1,e2⟩:=(W.rwl x y hx).1 hl;unfold rwP at hp;simp only[Bool.and_eq_true,decide_eq_true_eq,beq_iff_eq] at hp;have hs:=sub_of_idx hp.1 hq
 have px:plE (eventsB dss) ((rowsOf b).getD i 0)=(((sysW dss).pl x:Nat):Int):=by
  rw[e1];have:=place_ev hb hx;show ((eventsB dss).getD ((x:Int)).toNat zE).2.2.2.1=((((eventsB dss).getD x zE).2.2.2.1.toNat:Nat):Int);rw[Int.toNat_natCast];omega
 have hf:=hs.filter (fun u=>plE (eventsB dss) u==(((sysW dss).pl x:Nat):Int));rw[List.filter_cons_of_pos (by rw[px];simp),List.filter_cons_of_pos (by rw[←hp.2,px];simp),List.filter_nil,e1,e2,h.rowsE,List.filter_append,List.filter_append,fil_own hb h,fil_own hb h,fil_own hb h] at hf
 have hp3:(sysW dss).pl x<3:=by
  have:=place_ev hb hx;show ((eventsB dss).getD x zE).2.2.2.1.toNat<3;omega
 have key:[(x:Int),(y:Int)].Sublist ((a.R ((sysW dss).pl x)).map Int.ofNat):=by
  rcases (by omega:(sysW dss).pl x=0∨(sysW dss).pl x=1∨(sysW dss).pl x=2) with e|e|e<;>(rw[e] at hf ⊢;simpa using hf)
 have h2:=key.map Int.toNat;simp only[List.map_cons,List.map_nil,Int.toNat_natCast,List.map_map] at h2
 have e3:(a.R ((sysW dss).pl x)).map (Int.toNat ∘ Int.ofNat)=a.R ((sysW dss).pl x):=by
  have:(Int.toNat ∘ Int.ofNat)=id:=by funext u;simp
  rw[this,List.map_id]
 rw[e3] at h2;exact h2
theorem Fin.tale {dss:List (List Dd)}{a:Ab}{τ:Nat→Nat}{T:Nat}{z:Int}{b:Bd}(hb:workB dss=true)(h:Fin dss a τ T z b):taleB dss b.fr (rowsOf b)=true:=by
 unfold taleB sourceB rowsB;rw[hb,h.src hb,h.rows hb];rfl
def posA (dss:List (List Dd))(a:Ab)(x:Nat):Nat:=(a.R ((sysW dss).pl x)).idxOf x
def keyA (dss:List (List Dd))(a:Ab)(i:Nat):Nat:=if (sysW dss).rd i=true then 2*posA dss a (a.F i)+1 else 2*posA dss a i
theorem key_lt {n k k' i j:Nat}(hi:i<n)(h:k<k'∨(k=k'∧i<j)):k*n+i<k'*n+j:=by
 rcases h with h|⟨rfl,h⟩
 ·
  have:=Nat.mul_le_mul_right n h;rw[Nat.succ_mul] at this;omega
 · omega
theorem Fin.each {dss:List (List Dd)}{a:Ab}{τ:Nat→Nat}{T:Nat}{z:Int}{b:Bd}(hb:workB dss=true)(h:Fin dss a τ T z b):roundB (pwL (eventsB dss) b.fr (rowsOf b))=false:=by
 have W:=told_of (h.tale hb);have hx:=W.twelve
 have hpos:∀ {p x y:Nat},(sysW dss).pl x=p→(sysW dss).pl y=p→Bef (a.R p) x y→posA dss a x<posA dss a y:=by
  intro p x y e1 e2 hB;unfold posA;rw[e1,e2];exact bef_idx (h.inv.rnod p) hB
 have hsrc:∀ {r:Nat},r<(eventsB dss).length→(sysW dss).rd r=true→a.F r<(eventsB dss).length∧(sysW dss).rd (a.F r)=false∧(sysW dss).pl (a.F r)=(sysW dss).pl r:=by
  intro r hr hrd;obtain⟨q1,q2,q3,_⟩:=h.inv.src r (h.all r hr).1 hrd;exact⟨h.inv.lt _ q1,q2,q3⟩
 have hrow:∀ {x y:Nat},x<(eventsB dss).length→line (rwL (eventsB dss) (rowsOf b)) x y=true→posA dss a x<posA dss a y∧(sysW dss).rd x=false∧(sysW dss).rd y=false:=by
  intro x y hx' hl;have hB:=row_bef hb h W.webs hx' hl;have m1:=(h.inv.rows _ _).1 (bef_mem hB).1;have m2:=(h.inv.rows _ _).1 (bef_mem hB).2;exact⟨hpos rfl m2.2.2 hB,m1.2.1,m2.2.1⟩
 refine up_round W.pw (fun i=>keyA dss a i*(eventsB dss).length+i) (fun i j hi hj hl=>?_);refine key_lt hi ?_;rw[W.pwl i j hi] at hl;simp only[Bool.or_eq_true] at hl;rcases hl with (g|g)|(g|g)
 ·
  rw[(plc_line hx).2 i j hi] at g;simp only[Bool.and_eq_true,Bool.not_eq_true'] at g;obtain⟨⟨_,g2⟩,g3⟩:=g;have hlt:=behP_lt g2
  have hpl:(sysW dss).pl i=(sysW dss).pl j:=by
   unfold plcP at g3;rw[bne_eq_false_iff_eq] at g3;show ((eventsB dss).getD i zE).2.2.2.1.toNat=((eventsB dss).getD j zE).2.2.2.1.toNat;rw[g3]
  unfold behP at g2;simp only[Bool.and_eq_true,Bool.or_eq_true,decide_eq_true_eq,beq_iff_eq] at g2;rcases g2.2 with ⟨g4,g5⟩|⟨g4,g5⟩
  ·
   left;obtain⟨_,b2,b3,_⟩:=h.inv.beg i g4
   have k0:keyA dss a i=0:=by
    unfold keyA posA;rw[b2,b3];have hh:=h.head g4
    cases hl:a.R i with
    |nil=>rw[hl] at hh;cases hh
    |cons y r=>
     rw[hl] at hh;simp only[List.head?_cons,Option.some.injEq] at hh;rw[hh,List.idxOf_cons_self];rfl
   rw[k0];unfold keyA;split
   · omega
   ·
    rename_i hr
    have hr':(sysW dss).rd j=false:=by cases hq:(sysW dss).rd j with
     |false=>rfl
     |true=>exact absurd hq hr
    have hm:j∈a.R i:=(h.inv.rows i j).2 ⟨h.all j hj,hr',by rw[←hpl,b3]⟩;unfold posA;rw[←hpl,b3];have hh:=h.head g4
    cases hl:a.R i with
    |nil=>rw[hl] at hh;cases hh
    |cons y r=>
     rw[hl] at hh;simp only[List.head?_cons,Option.some.injEq] at hh;rw[List.idxOf_cons,hh,beq_eq_false_iff_ne.2 (show i≠j by omega)];exact Nat.mul_pos (by omega) (Nat.succ_pos _)
  ·
   have hcoh:=h.inv.coh i j (h.all i hi).1 (h.all j hj).1 g4 hlt g5 hpl
   have hL:(stA dss a τ).L (sysW dss) ((sysW dss).ck i) ((sysW dss).pl i)=a.R ((sysW dss).pl i):=by
    unfold AbsSt.L;rw[h.none,List.filter_nil,List.append_nil];rfl
   rw[hL] at hcoh
   have vplace:∀x,x<(eventsB dss).length→(sysW dss).pl ((stA dss a τ).v (sysW dss) x)=(sysW dss).pl x:=by
    intro x hx';unfold AbsSt.v;split
    · rename_i hr;exact (hsrc hx' hr).2.2
    · rfl
   have hle:(stA dss a τ).v (sysW dss) i=(stA dss a τ).v (sysW dss) j∨posA dss a ((stA dss a τ).v (sysW dss) i)<posA dss a ((stA dss a τ).v (sysW dss) j):=
    hcoh.imp id (fun hB=>hpos (vplace i hi) ((vplace j hj).trans hpl.symm) hB)
   have hw:=h.inv.cohw i j (h.all i hi).1 (h.all j hj).1 g4 hlt g5 hpl;unfold AbsSt.v at hle;unfold keyA
   cases ri:(sysW dss).rd i with
   |true=>
    rw[ri,if_pos rfl] at hle;rw[if_pos rfl]
    cases rj:(sysW dss).rd j with
    |true=>
     rw[rj,if_pos rfl] at hle;rw[if_pos rfl];rcases hle with e|e
     ·
      right;change a.F i=a.F j at e;rw[e];exact⟨rfl,hlt⟩
     ·
      left;change posA dss a (a.F i)<posA dss a (a.F j) at e;omega
    |false=>
     rw[rj,if_neg (by simp)] at hle;rw[if_neg (by simp)];rcases hle with e|e
     · exact absurd e (hw ri rj)
     ·
      left;change posA dss a (a.F i)<posA dss a j at e;omega
   |false=>
    rw[ri,if_neg (by simp)] at hle;rw[if_neg (by simp)]
    cases rj:(sysW dss).rd j with
    |true=>
     rw[rj,if_pos rfl] at hle;rw[if_pos rfl];rcases hle with e|e
     ·
      left;change i=a.F j at e;rw[←e];omega
     ·
      left;change posA dss a i<posA dss a (a.F j) at e;omega
    |false=>
     rw[rj,if_neg (by simp)] at hle;rw[if_neg (by simp)];rcases hle with e|e
     · omega
     · left;omega
 ·
  obtain⟨q,hq1,hq2,hq3⟩:=(W.webs.fwl i j hi).1 g;obtain⟨r,hr,e1,e2,e3⟩:=h.rd hq1;have er:r=j:=by omega
  subst er;have ei:a.F r=i:=by omega
  have hs:=hsrc hr e3;rw[ei] at hs;left;unfold keyA;rw[e3,hs.2.1,if_pos rfl,if_neg (by simp),ei];omega
 ·
  obtain⟨p1,p2,p3⟩:=hrow hi g;left;unfold keyA;rw[p2,p3,if_neg (by simp),if_neg (by simp)];omega
 ·
  obtain⟨q,hq1,hq2,hq3⟩:=(W.webs.agl i j hi).1 g;obtain⟨r,hr,e1,e2,e3⟩:=h.rd hq1;have er:r=i:=by omega
  subst er;rw[e2,Int.toNat_natCast] at hq3;obtain⟨p1,p2,p3⟩:=hrow (hsrc hr e3).1 hq3;left;unfold keyA;rw[e3,p3,if_pos rfl,if_neg (by simp)];omega
def fromN (dss:List (List Dd))(f:List Int)(r:Nat):Nat:=(f.getD ((idxB rdE (eventsB dss)).idxOf (r:Int)) 0).toNat
abbrev rowlt (dss:List (List Dd))(rows:List Int)(x y:Nat):Prop:=line (rwL (eventsB dss) rows) x y=true
structure CI (dss:List (List Dd))(f rows:List Int)(Q:Int→Prop)(κ:Int)(b:Bd)(a:Ab)(τ:Nat→Nat)(T:Nat)(z:Int):Prop where
 mi:MI dss b a τ T z
 dq:∀j,j<(eventsB dss).length→((stA dss a τ).D (sysW dss) j↔Q ((sysW dss).cs j)∨((sysW dss).cs j=κ∧(stA dss a τ).X j))
 ro:∀p,(a.R p).Pairwise (rowlt dss rows)
 fo:∀r,(stA dss a τ).X r→(sysW dss).rd r=true→a.F r=fromN dss f r
def goesM (dss:List (List Dd))(es:List Ev):List Int→Bd→Bool
 | [],_=>true
 |s::r,b=>isB (possM dss b) s&&goesM dss es r (stepM dss es b s)
theorem goes_snoc {dss:List (List Dd)}{es:List Ev}:∀(l:List Int) (b:Bd) (s:Int),goesM dss es l b=true→isB (possM dss (runM dss es b l)) s=true→goesM dss es (l++[s]) b=true∧runM dss es b (l++[s])=stepM dss es (runM dss es b l) s
 | [],b,s,_,h2=>by
  have h2':isB (possM dss b) s=true:=h2;refine⟨by show (isB (possM dss b) s&&true)=true;rw[h2'];rfl,?_⟩;show (if isB (possM dss b) s=true then stepM dss es b s else b)=stepM dss es b s;rw[if_pos h2']
 |x::l,b,s,h1,h2=>by
  rw[goesM,Bool.and_eq_true] at h1;rw[runM,if_pos h1.1] at h2;obtain⟨e1,e2⟩:=goes_snoc l (stepM dss es b x) s h1.2 h2;rw[List.cons_append,goesM,runM,h1.1,e1,if_pos rfl,e2,runM,if_pos h1.1];exact⟨rfl,rfl⟩
structure Way0 (dss:List (List Dd))(p:Bd×List Int):Prop where
 goes:goesM dss (eventsB dss) p.2 (newM dss)=true
 run:runM dss (eventsB dss) (newM dss) p.2=p.1
theorem Way0.step {dss:List (List Dd)}{p:Bd×List Int}(h:Way0 dss p){s:Int}(hs:isB (possM dss p.1) s=true):Way0 dss (stepM dss (eventsB dss) p.1 s,p.2++[s]):=by
 obtain⟨e1,e2⟩:=goes_snoc p.2 (newM dss) s h.goes (by rw[h.run];exact hs);exact⟨e1,by rw[e2,h.run]⟩
def quickM (dss:List (List Dd))(es:List Ev)(b:Bd)(c:Nat):Bd:=
 if ((stepM dss es b (c:Int)).nts.getD c []).isEmpty=true then stepM dss es b (c:Int) else stepM dss es (stepM dss es b (c:Int)) (10+(c:Int))
theorem run_app (dss:List (List Dd))(es:List Ev):∀(l r:List Int) (b:Bd),runM dss es b (l++r)=runM dss es (runM dss es b l) r
 | [],r,b=>rfl
 |s::l,r,b=>by rw[List.cons_append,runM,runM];exact run_app dss es l r _
def Run (dss:List (List Dd))(b:Bd):Prop:=∃a τ T z,MI dss b a τ T z∧BD dss a
theorem Run.new {dss:List (List Dd)}(hb:workB dss=true):Run dss (newM dss):=⟨_,_,_,_,new_sim hb⟩
theorem Run.step {dss:List (List Dd)}(hb:workB dss=true){b:Bd}(h:Run dss b){s:Int}(hs:isB (possM dss b) s=true):Run dss (stepM dss (eventsB dss) b s):=by
 obtain⟨a,τ,T,z,M,B⟩:=h;obtain⟨a',τ',z',M',B'⟩:=step_sim hb M B hs;exact⟨a',τ',_,z',M',B'⟩
theorem Run.board {dss:List (List Dd)}(hb:workB dss=true){b:Bd}(h:Run dss b):boardB dss b=true:=by
 obtain⟨a,τ,T,z,M,_⟩:=h;exact mi_board hb M
theorem rd_cells {w:World}{b off:Nat}{zs:List Int}(hc:∀i,i<zs.length→w.cell? ⟨b,off+i,none⟩=some (.int .i64 (zs.getD i 0))):
  ∀j u,(zs.map (Value.int .i64))[j]? = some u→w.cell? ((⟨b,off,none⟩:Addr).add j)=some u:=by
 intro j u hj;rw[List.getElem?_map] at hj
 have hjl:j<zs.length:=by
  apply Classical.byContradiction;intro hno;rw[List.getElem?_eq_none (by omega)] at hj;cases hj
 have e1:(⟨b,off,none⟩:Addr).add j=⟨b,off+j,none⟩:=by unfold Addr.add;split<;>simp_all
 rw[e1,hc j hjl,List.getD_eq_getElem?_getD];rw[List.getElem?_eq_getElem hjl] at hj ⊢
 simpa using hj
theorem ints_one (zs:List Int):∀u∈zs.map (Value.int .i64),u.oneCell'=true:=by
 intro u hu;obtain⟨y,_,rfl⟩:=List.mem_map.1 hu;rfl
end Go.Proofs.Ytgakfkjjkobpiaa
