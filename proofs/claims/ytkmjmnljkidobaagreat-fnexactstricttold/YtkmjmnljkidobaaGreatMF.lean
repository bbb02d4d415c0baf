/- Gathered texts. -/
import Derived.Test.YtkmjmnljkidobaaGreatME
set_option maxRecDepth 100000
set_option maxHeartbeats 8000000
namespace Go.Proofs.YtkmjmnljkidobaaGreat
open Go.RowKit
theorem one_sim {dss:List (List Dd)}(hb:workB dss=true){b:Bd}{a:Ab}{τ:Nat→Nat}{T:Nat}{z:Int}(M:MI dss b a τ T z)(hT:1≤T){c:Nat}(hc:c<dss.length)(hk:a.nx c<(dss.getD c []).length)
  (hz:(dAt dss c (a.nx c)).1≠4→clsD dss c (a.nx c)=z) (hcan:((dAt dss c (a.nx c)).1≤2∧gAt dss c (a.nx c)=0)∨a.N c=[]):
  ∃a' τ',MI dss (oneM dss (eventsB dss) b c) a' τ' T z∧a'.nx=(bumpA a c).nx∧(gAt dss c (a.nx c)≠0→a'.N c=[]):=by
 have hkd:=okD_kindE (okC_of hb hc _ hk);rcases hkd with h|h|h|h
 ·
  obtain⟨f,τ',_,h1⟩:=oneM_read hb M hT hc hk h (hz (by omega)) (hcan.imp (fun h=>h.2) id);exact⟨_,τ',h1,rfl,fun hg=>hcan.resolve_left (fun h=>hg h.2)⟩
 ·
  by_cases hg:gAt dss c (a.nx c)=0
  · exact⟨_,τ,oneM_note hb M hc hk h hg,rfl,fun h=>absurd hg h⟩
  ·
   have hN:=hcan.resolve_left (fun h=>hg h.2);obtain⟨τ',h1⟩:=oneM_ink hb M hT hc hk h hg (hz (by omega)) hN;exact⟨_,τ',h1,rfl,fun _=>hN⟩
 ·
  have hN:=hcan.resolve_left (fun h=>by omega);obtain⟨τ',h1⟩:=oneM_swap hb M hT hc hk h (hz (by omega)) hN;exact⟨_,τ',h1,rfl,fun _=>hN⟩
 ·
  have hN:=hcan.resolve_left (fun h=>by omega);exact⟨bumpA a c,τ,oneM_wait hb M hc hk h hN,rfl,fun _=>hN⟩
def BD (dss:List (List Dd))(a:Ab):Prop:=∀c,c<dss.length→0<a.nx c→a.nx c<(dss.getD c []).length→gAt dss c (a.nx c)≠0→gAt dss c (a.nx c-1)≠gAt dss c (a.nx c)
theorem go_sim {dss:List (List Dd)}(hb:workB dss=true){c:Nat}(hc:c<dss.length)(g:Int){T:Nat}(hT:1≤T){z:Int}:∀(m:Nat) (b:Bd) (a:Ab) (τ:Nat→Nat),MI dss b a τ T z→a.nx c<(dss.getD c []).length→(dss.getD c []).length≤a.nx c+m→gAt dss c (a.nx c)=g →
  ((dAt dss c (a.nx c)).1≠4→clsD dss c (a.nx c)=z)→(((dAt dss c (a.nx c)).1≤2∧gAt dss c (a.nx c)=0)∨a.N c=[]) →
  ∃a' τ',MI dss (goM dss (eventsB dss) g c m b) a' τ' T z∧a.nx c<a'.nx c∧(∀c',c'≠c→a'.nx c'=a.nx c')∧(a'.nx c<(dss.getD c []).length→gAt dss c (a'.nx c)≠0→gAt dss c (a'.nx c-1)≠gAt dss c (a'.nx c))
 | 0,b,a,τ,M,hk,hm,_,_,_=>by omega
 |m+1,b,a,τ,M,hk,hm,hg,hz,hcan=>by
  obtain⟨a1,τ1,M1,e1,e2⟩:=one_sim hb M hT hc hk hz hcan;have hn1:a1.nx c=a.nx c+1:=by rw[e1,nx_bump,if_pos rfl]
  have ho1:∀c',c'≠c→a1.nx c'=a.nx c':=fun c' h=>by rw[e1,nx_bump,if_neg h]
  rw[goM,(nx_at M1.rep hc).2,hn1];by_cases hs:g=0∨a.nx c+1=(dss.getD c []).length∨gAt dss c (a.nx c+1)≠g
  ·
   rw[if_pos hs];refine⟨a1,τ1,M1,by omega,ho1,?_⟩;rw[hn1];intro hl hg0;rw[show a.nx c+1-1=a.nx c by omega,hg];rcases hs with hs|hs|hs
   · rw[hs];exact fun e=>hg0 e.symm
   · omega
   · exact fun e=>hs e.symm
  ·
   rw[if_neg hs];have hs0:¬g=0:=fun h=>hs (.inl h)
   have hs1:¬a.nx c+1=(dss.getD c []).length:=fun h=>hs (.inr (.inl h))
   have hs2:gAt dss c (a.nx c+1)=g:=Classical.byContradiction (fun h=>hs (.inr (.inr h)));have hl:=M1.nxl c hc;have hk1:a.nx c+1<(dss.getD c []).length:=by omega
   have hok:=okC_of hb hc;have n1:=num_grp hok hk (by rw[hg];exact hs0);have n2:=num_grp hok hk1 (by rw[hs2];exact hs0);have hcl:clsD dss c (a.nx c+1)=clsD dss c (a.nx c):=(cls_iff hok hok hk1 hk n2.1 n1.1).2 ⟨rfl,.inr ⟨by rw[hs2];exact hs0,by rw[hs2,hg]⟩⟩;obtain⟨a',τ',M',q1,q2,q3⟩:=go_sim hb hc g hT m (oneM dss (eventsB dss) b c) a1 τ1 M1 (by omega) (by omega) (by rw[hn1];exact hs2) (by rw[hn1,hcl];exact fun _=>hz n1.1) (.inr (e2 (by rw[hg];exact hs0)));exact⟨a',τ',M',by omega,fun c' h=>by rw[q2 c' h,ho1 c' h],q3⟩
theorem cs_big {dss:List (List Dd)}(hb:workB dss=true){a:Ab}{τ:Nat→Nat}{i:Nat}(hi:(stA dss a τ).D (sysW dss) i)(h3:3≤i):∃c k i',EvIs dss i c k i'∧k<a.nx c∧(sysW dss).cs i=clsD dss c k∧3≤clsD dss c k:=by
 obtain⟨c,k,i',E⟩:=ev_dec hb h3 hi.1.1;have hX:=hi.1.2;rw[ex_at hb E,decide_eq_true_eq] at hX;exact⟨c,k,i',E,hX,(sys_at hb E).2.2.2,cls_three hb E.hc E.hk E.kind⟩
theorem step_sim {dss:List (List Dd)}(hb:workB dss=true){b:Bd}{a:Ab}{τ:Nat→Nat}{T:Nat}{z:Int}(M:MI dss b a τ T z)(B:BD dss a){s:Int}(hs:isB (possM dss b) s=true):
  ∃a' τ' z',MI dss (stepM dss (eventsB dss) b s) a' τ' (T+1) z'∧BD dss a':=by
 have hm:=isB_mem hs;unfold possM at hm;rw[List.mem_append,List.mem_map,List.mem_map] at hm;rcases hm with ⟨c,hc,e⟩|⟨c,hc,e⟩
 ·
  rw[List.mem_filter,List.mem_range] at hc;obtain⟨hc,hcan⟩:=hc
  have hl3:dss.length≤3:=by
   simp only[workB,Bool.and_eq_true,decide_eq_true_eq] at hb;exact hb.1.1.1.1.2
  unfold canM at hcan;rw[(nx_at M.rep hc).2,nts_at M.rep hc] at hcan;simp only[Bool.and_eq_true,Bool.or_eq_true,decide_eq_true_eq,List.isEmpty_iff,List.map_eq_nil_iff] at hcan;obtain⟨hk,hcan⟩:=hcan;have hok:=okC_of hb hc
  have M1:MI dss b a τ (T+1) (if (dAt dss c (a.nx c)).1=4 then -1 else clsD dss c (a.nx c)):=by
   refine⟨M.rep,M.inv.tick _ (fun i hi h3 e=>?_),M.nxl,M.nt⟩;obtain⟨c',k',i',E,hX,e1,e2⟩:=cs_big hb hi h3;rw[e1] at e;split at e
   · omega
   ·
    rename_i h4;obtain⟨rfl,hq⟩:=(cls_iff (okC_of hb E.hc) hok E.hk hk E.kind h4).1 e;rcases hq with hq|⟨g1,g2⟩
    · omega
    ·
     have h0:gAt dss c' (a.nx c')≠0:=by rw[←g2];exact g1
     refine B c' hc (by omega) hk h0 ?_;exact grp_between hb hc (j:=k') (k:=a.nx c'-1) (l:=a.nx c') (by omega) (by omega) hk h0 g2
  have hst:stepM dss (eventsB dss) b s=goM dss (eventsB dss) (gAt dss c (a.nx c)) c (dss.getD c []).length b:=by
   unfold stepM;rw[if_neg (by omega),show s.toNat=c by omega,(nx_at M.rep hc).2]
  rw[hst];obtain⟨a',τ',M',q1,q2,q3⟩:=go_sim hb hc (gAt dss c (a.nx c)) (T:=T+1) (by omega) (dss.getD c []).length b a τ M1 hk (by omega) rfl (fun h=>by rw[if_neg h]) hcan;refine⟨a',τ',_,M',fun c' hc' h0 hl hg=>?_⟩;by_cases e:c'=c
  · subst e;exact q3 hl hg
  ·
   rw[q2 c' e] at h0 hl hg ⊢;exact B c' hc' h0 hl hg
 ·
  rw[List.mem_filter,List.mem_range] at hc;obtain⟨hc,hne⟩:=hc;rw[nts_at M.rep hc] at hne
  have hst:stepM dss (eventsB dss) b s=flushM b c:=by
   unfold stepM;rw[if_pos (by omega),show (s-10).toNat=c by omega]
  rw[hst]
  cases hN:a.N c with
  |nil=>rw[hN] at hne;simp at hne
  |cons x rest=>
   obtain⟨τ',M'⟩:=flush_sim hb M hc hN;exact⟨_,τ',_,M',fun c' hc'=>B c' hc'⟩
def newA:Ab:={ nx:=fun _=>0,N:=fun _=>[],R:=fun p=>if p<3 then [p] else [],F:=fun _=>0 }
theorem new_sim {dss:List (List Dd)}(hb:workB dss=true):MI dss (newM dss) newA (fun _=>0) 0 (-1)∧BD dss newA:=by
 have hX:∀j,(stA dss newA (fun _=>0)).X j↔j<3:=by
  intro j;show (j<(eventsB dss).length∧exA dss newA j=true)↔_;unfold exA newA;simp;have:=(beg_ev hb).1;omega
 have hN:∀c,(stA dss newA (fun _=>0)).N c=[]:=fun c=>by show (if 0≤c then [] else [])=[];split<;>rfl
 have hD:∀j,(stA dss newA (fun _=>0)).D (sysW dss) j↔j<3:=fun j=>by
  unfold AbsSt.D;rw[hX,hN];simp
 have hR:∀p,(stA dss newA (fun _=>0)).R p=if p<3 then [p] else []:=fun p=>rfl
 have hbeg:∀j,j<3→(sysW dss).rd j=false∧(sysW dss).pl j=j∧(sysW dss).ck j=-1∧(sysW dss).cs j=(j:Int):=by
  intro j hj;obtain⟨h1,h2,h3,h4⟩:=beg_place hb hj;refine⟨h2,?_,h4,h3⟩;show ((eventsB dss).getD j zE).2.2.2.1.toNat=j;rw[h1,Int.toNat_natCast]
 have hno:∀j,(stA dss newA (fun _=>0)).X j→¬ 3≤j:=fun j h1 h2=>by have:=(hX j).1 h1;omega
 refine⟨⟨?_,?_,fun c hc=>Nat.zero_le _,fun c x hx=>by cases hx⟩,fun c _ h=>absurd h (Nat.lt_irrefl _)⟩
 ·
  have hrep:∀(α:Type) (m:Nat) (x:α),List.replicate m x=(List.range m).map (fun _=>x):=by
   intro α m x;rw[List.map_const',List.length_range]
  have hrep2:∀(α β:Type) (l:List β) (x:α),List.replicate l.length x=l.map (fun _=>x):=by
   intro α β l x;rw[List.map_const']
  obtain⟨h3,b0,b1,b2⟩:=beg_ev hb;refine⟨hrep _ _ _,hrep _ _ _,rfl,rfl,?_,?_,?_⟩
  ·
   show [0,0,0]=(List.range 3).map (fun p=>vlN dss (lastA newA p));have e0:vlN dss 0=0:=by unfold vlN;rw[b0]
   have e1:vlN dss 1=0:=by unfold vlN;rw[b1]
   have e2:vlN dss 2=0:=by unfold vlN;rw[b2]
   have r3:List.range 3=[0,1,2]:=rfl;rw[r3];show [0,0,0]=[vlN dss 0,vlN dss 1,vlN dss 2];rw[e0,e1,e2]
  ·
   show List.replicate _ (-1)=_;rw[hrep2];refine List.map_congr_left (fun r hr=>?_);obtain⟨j,rfl,hj,hjr⟩:=rs_in (eventsB_12 dss) hr
   have:¬exA dss newA j=true:=by
    intro h;have h3:=(hX j).1 ⟨hj,h⟩;rw[(beg_place hb h3).2.1] at hjr;cases hjr
   rw[Int.toNat_natCast,if_neg this]
  ·
   show List.replicate _ (-1)=_;rw[hrep2];refine List.map_congr_left (fun r hr=>?_);obtain⟨j,rfl,hj,hjr⟩:=rs_in (eventsB_12 dss) hr
   have:¬exA dss newA j=true:=by
    intro h;have h3:=(hX j).1 ⟨hj,h⟩;rw[(beg_place hb h3).2.1] at hjr;cases hjr
   rw[Int.toNat_natCast,if_neg this]
 ·
  constructor;case beg=>exact fun j hj=>⟨(hX j).2 hj,(hbeg j hj).1,(hbeg j hj).2.1,(hbeg j hj).2.2.1,rfl,(hbeg j hj).2.2.2⟩
  case lt=>exact fun j hj=>hj.1
  case down=>exact fun i j hj h3 hij _=>absurd ((hX j).1 hj) (by omega)
  case note=>exact fun c x hx=>by rw[hN] at hx;cases hx
  case nord=>exact fun c=>by rw[hN];simp
  case pend=>exact fun c x j hx=>by rw[hN] at hx;cases hx
  case rows=>
   intro p x;rw[hR,hD];by_cases hp:p<3
   ·
    rw[if_pos hp];constructor
    ·
     intro hx;have e:x=p:=by simpa using hx
     subst e;exact⟨hp,(hbeg x hp).1,(hbeg x hp).2.1⟩
    ·
     rintro⟨h1,h2,h3⟩;rw[(hbeg x h1).2.1] at h3;simp[h3]
   ·
    rw[if_neg hp];constructor
    · intro hx;cases hx
    ·
     rintro⟨h1,h2,h3⟩;rw[(hbeg x h1).2.1] at h3;omega
  case rnod=>exact fun p=>by rw[hR];split<;>simp
  case rord=>exact fun p=>by rw[hR];split<;>simp
  case tle=>exact fun j _=>Nat.le_refl _
  case tpos=>exact fun j hj h3=>absurd h3 (hno j hj.1)
  case same=>exact fun i j hi _ h3=>absurd h3 (hno i hi.1)
  case mate=>exact fun i j hi _ h3=>absurd h3 (hno i hi.1)
  case now=>exact fun i hi h3=>absurd h3 (hno i hi.1)
  case kept=>exact fun i j hi _ h3=>absurd h3 (hno i hi.1)
  case src=>
   intro r hr hrd;rw[(hbeg r ((hX r).1 hr)).1] at hrd;cases hrd
  case agst=>
   intro r w p hr hrd;rw[(hbeg r ((hX r).1 hr)).1] at hrd;cases hrd
  case inL=>exact fun i hi h3=>absurd h3 (hno i hi)
  case coh=>exact fun i j hi _ h3=>absurd h3 (hno i hi)
  case cohw=>exact fun i j hi _ h3=>absurd h3 (hno i hi)
theorem sub_of_idx {l:List Int}{i q:Nat}(hi:i<q)(hq:q<l.length):[l.getD i 0,l.getD q 0].Sublist l:=by
 have h1:[l.getD i 0].Sublist (l.take q):=by
  rw[List.singleton_sublist,List.mem_take_iff_getElem];refine⟨i,by omega,?_⟩;rw[List.getD_eq_getElem?_getD,List.getElem?_eq_getElem (by omega)];rfl
 have h2:[l.getD q 0].Sublist (l.drop q):=by
  rw[List.singleton_sublist,List.mem_drop_iff_getElem];refine⟨0,by omega,?_⟩;rw[List.getD_eq_getElem?_getD,List.getElem?_eq_getElem hq];simp
 have:=h1.append h2
 rwa [List.take_append_drop] at this
theorem bef_idx {L:List Nat}(hn:L.Nodup){x y:Nat}(h:Bef L x y):L.idxOf x<L.idxOf y:=by
 induction L with
 |nil=>cases h
 |cons c L ih=>
  rw[List.nodup_cons] at hn
  have hxy:x≠y:=by
   have:=h.nodup (by rw[List.nodup_cons];exact hn);intro e;rw[e] at this;simp at this
  cases h with
  |cons _ h'=>
   have hm:=bef_mem h';have hx:c≠x:=fun e=>hn.1 (by rw[e];exact hm.1)
   have hy:c≠y:=fun e=>hn.1 (by rw[e];exact hm.2)
   rw[List.idxOf_cons,List.idxOf_cons,beq_eq_false_iff_ne.2 hx,beq_eq_false_iff_ne.2 hy];exact Nat.succ_lt_succ (ih hn.2 h')
  |cons_cons _ h'=>
   rw[List.idxOf_cons_self,List.idxOf_cons,beq_eq_false_iff_ne.2 hxy];exact Nat.succ_pos _
structure Fin (dss:List (List Dd))(a:Ab)(τ:Nat→Nat)(T:Nat)(z:Int)(b:Bd):Prop where
 inv:AInv (sysW dss) (stA dss a τ) T z
 rep:Rep dss b a
 none:∀c,(stA dss a τ).N c=[]
 all:∀j,j<(eventsB dss).length→(stA dss a τ).D (sysW dss) j
theorem fin_of {dss:List (List Dd)}(hb:workB dss=true){b:Bd}{a:Ab}{τ:Nat→Nat}{T:Nat}{z:Int}(M:MI dss b a τ T z)(he:endM dss b=true):Fin dss a τ T z b:=by
 unfold endM at he;rw[List.all_eq_true] at he
 have hc:∀c,c<dss.length→a.nx c=(dss.getD c []).length∧a.N c=[]:=by
  intro c hc;have h1:=he c (List.mem_range.2 hc);rw[(nx_at M.rep hc).2,nts_at M.rep hc] at h1;simp only[Bool.and_eq_true,decide_eq_true_eq,List.isEmpty_iff,List.map_eq_nil_iff] at h1;have:=M.nxl c hc;exact⟨by omega,h1.2⟩
 have hN:∀c,a.N c=[]:=by
  intro c;by_cases h:c<dss.length
  · exact (hc c h).2
  ·
   cases hN:a.N c with
   |nil=>rfl
   |cons x r=>exact absurd (M.nt c x (by rw[hN];simp)).1 h
 have hst:∀c,(stA dss a τ).N c=[]:=fun c=>by
  show (if 0≤c then a.N c.toNat else [])=[];split
  · exact hN _
  · rfl
 refine⟨M.inv,M.rep,hst,fun j hj=>⟨⟨hj,?_⟩,by rw[hst];simp⟩⟩;by_cases h3:j<3
 · unfold exA;simp[h3]
 ·
  obtain⟨c,k,i,E⟩:=ev_dec hb (by omega) hj;rw[ex_at hb E,decide_eq_true_eq,(hc c E.hc).1];exact E.hk
theorem Fin.frs {dss:List (List Dd)}{a:Ab}{τ:Nat→Nat}{T:Nat}{z:Int}{b:Bd}(h:Fin dss a τ T z b):b.fr=(idxB rdE (eventsB dss)).map (fun r=>(a.F r.toNat:Int))∧b.sn=(idxB rdE (eventsB dss)).map (fun r=>vlN dss (a.F r.toNat)):=by
 have hx:=eventsB_12 dss;rw[h.rep.fr,h.rep.sn]
 constructor <;>
 ·
  refine List.map_congr_left (fun r hr=>?_);obtain⟨j,rfl,hj,_⟩:=rs_in hx hr;rw[Int.toNat_natCast,if_pos (h.all j hj).1.2]
theorem Fin.rd {dss:List (List Dd)}{a:Ab}{τ:Nat→Nat}{T:Nat}{z:Int}{b:Bd}(h:Fin dss a τ T z b){i:Nat}(hi:i<(idxB rdE (eventsB dss)).length):∃r:Nat,r<(eventsB dss).length∧(idxB rdE (eventsB dss)).getD i 0=(r:Int)∧b.fr.getD i 0=(a.F r:Int)∧(sysW dss).rd r=true:=by
 have hx:=eventsB_12 dss;obtain⟨r,e,hr,hrd⟩:=rs_in hx (getD_mem hi);refine⟨r,hr,e,?_,hrd⟩;rw[h.frs.1,List.getD_eq_getElem?_getD,List.getElem?_map];rw[List.getD_eq_getElem?_getD,List.getElem?_eq_getElem hi] at e;rw[List.getElem?_eq_getElem hi];simp only[Option.getD_some] at e;simp[e]
theorem Fin.src {dss:List (List Dd)}{a:Ab}{τ:Nat→Nat}{T:Nat}{z:Int}{b:Bd}(hb:workB dss=true)(h:Fin dss a τ T z b):srcB (chcL (eventsB dss)) b.fr=true:=by
 have hx:=eventsB_12 dss;have hc:(chcL (eventsB dss)).length=(idxB rdE (eventsB dss)).length:=chcK_len _ _ _;unfold srcB;rw[Bool.and_eq_true,decide_eq_true_eq];refine⟨by rw[hc,h.frs.1,List.length_map],(srcK_iff _).2 (fun i hi=>?_)⟩;rw[hc] at hi;obtain⟨r,hr,e1,e2,e3⟩:=h.rd hi;obtain⟨q1,q2,q3,_⟩:=h.inv.src r (h.all r hr).1 e3;unfold chcL;rw[chcK_get _ _ _ _ hi,e1,e2];refine mem_isB ?_;unfold idxB;rw[if_pos hx];refine idxK_has _ _ ?_ _ (h.inv.lt _ q1);unfold toE plE;have p1:0≤((eventsB dss).getD (a.F r) zE).2.2.2.1∧((eventsB dss).getD (a.F r) zE).2.2.2.1≤2:=place_ev hb (h.inv.lt _ q1);have p2:=place_ev hb hr;have q3':((eventsB dss).getD (a.F r) zE).2.2.2.1.toNat=((eventsB dss).getD r zE).2.2.2.1.toNat:=q3;have q2':((eventsB dss).getD (a.F r) zE).2.2.1=false:=q2;rw[q2',Int.toNat_natCast];have:((eventsB dss).getD (a.F r) zE).2.2.2.1=((eventsB dss).getD r zE).2.2.2.1:=by omega
 rw[this];simp
theorem Fin.head {dss:List (List Dd)}{a:Ab}{τ:Nat→Nat}{T:Nat}{z:Int}{b:Bd}(h:Fin dss a τ T z b){p:Nat}(hp:p<3):(a.R p).head? = some p:=by
 obtain⟨h1,h2,h3,h4,h5,h6⟩:=h.inv.beg p hp;have hm:p∈a.R p:=(h.inv.rows p p).2 ⟨h.all p (h.inv.lt p h1),h2,h3⟩;have ho:=h.inv.rord p
 cases hl:a.R p with
 |nil=>rw[hl] at hm;cases hm
 |cons x r=>
  change (a.R p).Pairwise _ at ho;rw[hl] at ho hm;rw[List.pairwise_cons] at ho;rcases List.mem_cons.1 hm with e|hr
  · rw[e];rfl
  ·
   exfalso;have hx:=(h.inv.rows p x).1 (show x∈a.R p by rw[hl];simp);have ht:=ho.1 p hr;change τ x≤τ p at ht;change τ p=0 at h5;have hnd:=h.inv.rnod p;change (a.R p).Nodup at hnd;rw[hl,List.nodup_cons] at hnd;have hne:x≠p:=fun e=>hnd.1 (by rw[e];exact hr)
   by_cases h3x:3≤x
   ·
    have:=h.inv.tpos x hx.1 h3x;change 1≤τ x at this;omega
   ·
    have:=(h.inv.beg x (by omega)).2.2.1;rw[hx.2.2] at this;exact hne this.symm
theorem Fin.perm {dss:List (List Dd)}{a:Ab}{τ:Nat→Nat}{T:Nat}{z:Int}{b:Bd}(hb:workB dss=true)(h:Fin dss a τ T z b)(p:Nat):((a.R p).map Int.ofNat).Perm (plcW (eventsB dss) p):=by
 have hx:=eventsB_12 dss
 have hn1:((a.R p).map Int.ofNat).Nodup:=by
  have:=h.inv.rnod p;exact List.Pairwise.map _ (fun x y hxy e=>hxy (Int.ofNat.inj e)) this
 have hn2:=plcW_nodup hx p
 have hm:∀y,y∈(a.R p).map Int.ofNat↔y∈plcW (eventsB dss) p:=by
  intro y;rw[List.mem_map];unfold plcW idxB;rw[if_pos hx];constructor
  ·
   rintro⟨x,hx',rfl⟩;obtain⟨q1,q2,q3⟩:=(h.inv.rows p x).1 hx';refine idxK_has _ _ ?_ _ (h.inv.lt x q1.1);have p1:=place_ev hb (h.inv.lt x q1.1);have q2':((eventsB dss).getD x zE).2.2.1=false:=q2;have q3':((eventsB dss).getD x zE).2.2.2.1.toNat=p:=q3;unfold toE;rw[q2'];have:((eventsB dss).getD x zE).2.2.2.1=(p:Int):=by omega
   rw[this];simp
  ·
   intro hy;have h1:=idxK_lt _ _ _ _ hy;have h2:=idxK_mem _ _ _ _ hy;obtain⟨x,rfl⟩:=Int.eq_ofNat_of_zero_le h1.1;rw[Int.toNat_natCast] at h2;unfold toE at h2;simp only[Bool.and_eq_true,Bool.not_eq_true',beq_iff_eq] at h2;refine⟨x,(h.inv.rows p x).2 ⟨h.all x (by omega),h2.1,?_⟩,rfl⟩;show ((eventsB dss).getD x zE).2.2.2.1.toNat=p;rw[h2.2,Int.toNat_natCast]
 refine perm_of hn1 (fun y hy=>(hm y).1 hy) (nodup_sub_len hn2 (fun y hy=>(hm y).2 hy))
def rowsOf (b:Bd):List Int:=b.rws.getD 0 []++b.rws.getD 1 []++b.rws.getD 2 []
theorem Fin.rowsE {dss:List (List Dd)}{a:Ab}{τ:Nat→Nat}{T:Nat}{z:Int}{b:Bd}(h:Fin dss a τ T z b):rowsOf b=(a.R 0).map Int.ofNat++(a.R 1).map Int.ofNat++(a.R 2).map Int.ofNat:=by
 unfold rowsOf;rw[(lst_at h.rep (show 0<3 by omega)).2.2,(lst_at h.rep (show 1<3 by omega)).2.2,(lst_at h.rep (show 2<3 by omega)).2.2]
theorem Fin.rows {dss:List (List Dd)}{a:Ab}{τ:Nat→Nat}{T:Nat}{z:Int}{b:Bd}(hb:workB dss=true)(h:Fin dss a τ T z b):rowsL (eventsB dss) (rowsOf b)=true:=by
 rw[h.rowsE];have hl:∀p,((a.R p).map Int.ofNat).length=(plcW (eventsB dss) p).length:=fun p=>(h.perm hb p).length_eq
 have hd:∀p,p<3→((a.R p).map Int.ofNat).getD 0 0=(p:Int):=by
  intro p hp;have:=h.head hp;rw[List.head?_eq_getElem?] at this;rw[List.getD_eq_getElem?_getD,List.getElem?_map,this];rfl
 have h0:∀p,p<3→0<(plcW (eventsB dss) p).length:=fun p hp=>(plcW_first hb p hp).1
 have k0:=okP_mk (A:=[]) (P:=(a.R 0).map Int.ofNat) (C:=(a.R 1).map Int.ofNat++(a.R 2).map Int.ofNat) (i:=0) (hl 0) (h.perm hb 0) (h0 0 (by omega)) (hd 0 (by omega));have k1:=okP_mk (A:=(a.R 0).map Int.ofNat) (P:=(a.R 1).map Int.ofNat) (C:=(a.R 2).map Int.ofNat) (i:=1) (hl 1) (h.perm hb 1) (h0 1 (by omega)) (hd 1 (by omega));have k2:=okP_mk (A:=(a.R 0).map Int.ofNat++(a.R 1).map Int.ofNat) (P:=(a.R 2).map Int.ofNat) (C:=[]) (i:=2) (hl 2) (h.perm hb 2) (h0 2 (by omega)) (hd 2 (by omega));simp only[List.nil_append,List.append_nil,List.length_nil,List.length_append,hl,←List.append_assoc] at k0 k1 k2;unfold rowsL;rw[k0,k1,k2];simp only[Bool.true_and,decide_eq_true_eq,List.length_append,hl]
theorem fil_own {dss:List (List Dd)}{a:Ab}{τ:Nat→Nat}{T:Nat}{z:Int}{b:Bd}(hb:workB dss=true)(h:Fin dss a τ T z b)(p q:Nat):((a.R q).map Int.ofNat).filter (fun x=>plE (eventsB dss) x==(p:Int))=if q=p then (a.R q).map Int.ofNat else []:=by
 have hq:∀x,x∈(a.R q).map Int.ofNat→plE (eventsB dss) x=(q:Int):=by
  intro x hx;obtain⟨y,hy,rfl⟩:=List.mem_map.1 hx;obtain⟨q1,q2,q3⟩:=(h.inv.rows q y).1 hy;have p1:=place_ev hb (h.inv.lt y q1.1);have q3':((eventsB dss).getD y zE).2.2.2.1.toNat=q:=q3;show ((eventsB dss).getD ((y:Int)).toNat zE).2.2.2.1=_;rw[Int.toNat_natCast];omega
 split
 ·
  rename_i e;rw[List.filter_eq_self];intro x hx;rw[hq x hx,e];simp
 ·
  rename_i e;rw[List.filter_eq_nil_iff];intro x hx;rw[hq x hx];simp;omega
theorem row_bef {dss:List (List Dd)}{a:Ab}{τ:Nat→Nat}{T:Nat}{z:Int}{b:Bd}(hb:workB dss=true)(h:Fin dss a τ T z b)(W:Webs (eventsB dss) b.fr (rowsOf b)){x y:Nat}(hx:x<(eventsB dss).length)(hl:line (rwL (eventsB dss) (rowsOf b)) x y=true):
  Bef (a.R ((sysW dss).pl x)) x y:=by
 obtain⟨i,q,hi,hq,hp,e1,e2⟩:=(W.rwl x y hx).1 hl;unfold rwP at hp;simp only[Bool.and_eq_true,decide_eq_true_eq,beq_iff_eq] at hp;have hs:=sub_of_idx hp.1 hq
 have px:plE (eventsB dss) ((rowsOf b).getD i 0)=(((sysW dss).pl x:Nat):Int):=by
  rw[e1];have:=place_ev hb hx;show ((eventsB dss).getD ((x:Int)).toNat zE).2.2.2.1=((((eventsB dss).getD x zE).2.2.2.1.toNat:Nat):Int);rw[Int.toNat_natCast];omega
 have hf:=hs.filter (fun u=>plE (eventsB dss) u==(((sysW dss).pl x:Nat):Int));rw[List.filter_cons_of_pos (by rw[px];simp),List.filter_cons_of_pos (by rw[←hp.2,px];simp),List.filter_nil,e1,e2,h.rowsE,List.filter_append,List.filter_append,fil_own hb h,fil_own hb h,fil_own hb h] at hf
 have hp3:(sysW dss).pl x<3:=by
  have:=place_ev hb hx;show ((eventsB dss).getD x zE).2.2.2.1.toNat<3;omega
 have key:[(x:Int),(y:Int)].Sublist ((a.R ((sysW dss).pl x)).map Int.ofNat):=by
  rcases (by omega:(sysW dss).pl x=0∨(sysW dss).pl x=1∨(sysW dss).pl x=2) with e|e|e<;>(rw[e] at hf ⊢;simpa using hf)
 have h2:=key.map Int.toNat;simp only[List.map_cons,List.map_nil,Int.toNat_natCast,List.map_map] at h2
 have e3:(a.R ((sysW dss).pl x)).map (Int.toNat ∘ Int.ofNat)=a.R ((sysW dss).pl x):=by
  have:(Int.toNat ∘ Int.ofNat)=id:=by funext u;simp
  rw[this,List.map_id]
 rw[e3] at h2;exact h2
theorem bef_pair {r:Nat→Nat→Prop}{L:List Nat}(h:L.Pairwise r){x y:Nat}(hb:Bef L x y):r x y:=by
 have:=h.sublist hb
 simpa using this
theorem row_time {dss:List (List Dd)}{a:Ab}{τ:Nat→Nat}{T:Nat}{z:Int}{b:Bd}(h:Fin dss a τ T z b){p x y:Nat}(hB:Bef (a.R p) x y)(hc:(sysW dss).cs x≠(sysW dss).cs y):τ x<τ y:=by
 have h1:τ x≤τ y:=bef_pair (h.inv.rord p) hB;obtain⟨mx,my⟩:=bef_mem hB;have dx:=(h.inv.rows p x).1 mx;have dy:=(h.inv.rows p y).1 my;by_cases hx3:3≤x
 ·
  by_cases hy3:3≤y
  ·
   have h2:τ x≠τ y:=fun e=>hc (h.inv.same x y dx.1 dy.1 hx3 hy3 e)
   omega
  ·
   have h3:=(h.inv.beg y (by omega)).2.2.2.2.1;have h4:=h.inv.tpos x dx.1 hx3;change τ y=0 at h3;change 1≤τ x at h4;omega
 ·
  have h3:=(h.inv.beg x (by omega)).2.2.2.2.1;change τ x=0 at h3;by_cases hy3:3≤y
  ·
   have h4:=h.inv.tpos y dy.1 hy3;change 1≤τ y at h4;omega
  ·
   exfalso;have a1:=(h.inv.beg x (by omega)).2.2.1;have a2:=(h.inv.beg y (by omega)).2.2.1;rw[dx.2.2] at a1;rw[dy.2.2] at a2;exact hc (by rw[←a1,←a2])
theorem Fin.tale {dss:List (List Dd)}{a:Ab}{τ:Nat→Nat}{T:Nat}{z:Int}{b:Bd}(hb:workB dss=true)(h:Fin dss a τ T z b):taleB dss b.fr (rowsOf b)=true:=by
 unfold taleB sourceB rowsB;rw[hb,h.src hb,h.rows hb];rfl
theorem rd_three {dss:List (List Dd)}(hb:workB dss=true){r:Nat}(h:(sysW dss).rd r=true):3≤r:=by
 apply Classical.byContradiction;intro hn;have:=(beg_place hb (show r<3 by omega)).2.1;rw[show (sysW dss).rd r=((eventsB dss).getD r zE).2.2.1 from rfl,this] at h;cases h
theorem Fin.slow {dss:List (List Dd)}{a:Ab}{τ:Nat→Nat}{T:Nat}{z:Int}{b:Bd}(hb:workB dss=true)(h:Fin dss a τ T z b):roundB (liftL (swL dss (eventsB dss) b.fr (rowsOf b)) (clsB (eventsB dss)))=false:=by
 have W:=told_of (h.tale hb);have hx:=W.twelve;refine up_lift W.sw W.cls τ (fun i j hi hj e=>?_) (fun i j hi hj hl hne=>?_)
 ·
  rw[cls_get hx hi,cls_get hx hj] at e;by_cases hi3:3≤i
  ·
   by_cases hj3:3≤j
   · exact h.inv.mate i j (h.all i hi) (h.all j hj) hi3 hj3 e
   ·
    exfalso;obtain⟨c,k,i',E⟩:=ev_dec hb hi3 hi;have e1:csE ((eventsB dss).getD i zE)=clsD dss c k:=by rw[E.at hb];rfl
    have:=cls_three hb E.hc E.hk E.kind;rw[(beg_place hb (show j<3 by omega)).2.2.1,e1] at e;omega
  ·
   by_cases hj3:3≤j
   ·
    exfalso;obtain⟨c,k,i',E⟩:=ev_dec hb hj3 hj;have e1:csE ((eventsB dss).getD j zE)=clsD dss c k:=by rw[E.at hb];rfl
    have:=cls_three hb E.hc E.hk E.kind;rw[(beg_place hb (show i<3 by omega)).2.2.1,e1] at e;omega
   ·
    rw[(beg_place hb (show i<3 by omega)).2.2.1,(beg_place hb (show j<3 by omega)).2.2.1] at e;rw[show i=j by omega]
 ·
  rw[cls_get hx hi,cls_get hx hj] at hne;have hz:∀i,i<3→τ i=0:=fun i hi=>(h.inv.beg i hi).2.2.2.2.1
  have hp:∀j,j<(eventsB dss).length→3≤j→1≤τ j:=fun j hj h3=>h.inv.tpos j (h.all j hj) h3
  rw[W.swl i j hi] at hl;simp only[Bool.or_eq_true] at hl;rcases hl with (g|g)|(g|g)
  ·
   rw[(kep_line hx).2 i j hi] at g;simp only[Bool.and_eq_true,Bool.not_eq_true'] at g;obtain⟨⟨_,g2⟩,g3⟩:=g;have hlt:=behP_lt g2;unfold behP at g2;simp only[Bool.and_eq_true,Bool.or_eq_true,decide_eq_true_eq,beq_iff_eq] at g2;rcases g2.2 with g2|g2
   · have:=hz i g2.1;have:=hp j hj g2.2;omega
   · exact h.inv.kept i j (h.all i hi) (h.all j hj) g2.1 hlt g2.2 hne g3
  ·
   rw[(ow_line W.webs).2 i j hi] at g;simp only[Bool.and_eq_true,Bool.not_eq_true'] at g;obtain⟨q,hq1,hq2,hq3⟩:=(W.webs.fwl i j hi).1 g.1;obtain⟨r,hr,e1,e2,e3⟩:=h.rd hq1;have er:r=j:=by omega
   subst er;have ei:a.F r=i:=by omega
   obtain⟨q1,q2,q3,q4⟩:=h.inv.src r (h.all r hr).1 e3;change (3≤a.F r∧(sysW dss).ck (a.F r)=(sysW dss).ck r)∨((stA dss a τ).D (sysW dss) (a.F r)∧τ (a.F r)≤τ r) at q4;rw[ei] at q4;have h3r:=rd_three hb e3;rcases q4 with q4|q4
   ·
    exfalso
    have:owP (eventsB dss) i r=true:=by
     unfold owP;have q5:((eventsB dss).getD i zE).1=((eventsB dss).getD r zE).1:=q4.2;rw[q5];simp[q4.1,h3r]
    rw[this] at g;cases g.2
   ·
    by_cases hi3:3≤i
    ·
     have:τ i≠τ r:=fun e=>hne (h.inv.same i r (h.all i hi) (h.all r hr) hi3 h3r e)
     omega
    · have:=hz i (by omega);have:=hp r hr h3r;omega
  · exact row_time h (row_bef hb h W.webs hi g) hne
  ·
   obtain⟨q,hq1,hq2,hq3⟩:=(W.webs.agl i j hi).1 g;obtain⟨r,hr,e1,e2,e3⟩:=h.rd hq1;have er:r=i:=by omega
   subst er;rw[e2,Int.toNat_natCast] at hq3;have hF:a.F r<(eventsB dss).length:=h.inv.lt _ (h.inv.src r (h.all r hr).1 e3).1;have hB:=row_bef hb h W.webs hF hq3;have h1:τ r≤τ j:=h.inv.agst r j _ (h.all r hr).1 e3 hB;have h3r:=rd_three hb e3;by_cases hj3:3≤j
   ·
    have:τ r≠τ j:=fun e=>hne (h.inv.same r j (h.all r hr) (h.all j hj) h3r hj3 e)
    omega
   · have:=hz j (by omega);have:=hp r hr h3r;omega
def posA (dss:List (List Dd))(a:Ab)(x:Nat):Nat:=(a.R ((sysW dss).pl x)).idxOf x
def keyA (dss:List (List Dd))(a:Ab)(i:Nat):Nat:=if (sysW dss).rd i=true then 2*posA dss a (a.F i)+1 else 2*posA dss a i
theorem key_lt {n k k' i j:Nat}(hi:i<n)(h:k<k'∨(k=k'∧i<j)):k*n+i<k'*n+j:=by
 rcases h with h|⟨rfl,h⟩
 ·
  have:=Nat.mul_le_mul_right n h;rw[Nat.succ_mul] at this;omega
 · omega
theorem Fin.each {dss:List (List Dd)}{a:Ab}{τ:Nat→Nat}{T:Nat}{z:Int}{b:Bd}(hb:workB dss=true)(h:Fin dss a τ T z b):roundB (pwL (eventsB dss) b.fr (rowsOf b))=false:=by
 have W:=told_of (h.tale hb);have hx:=W.twelve
 have hpos:∀ {p x y:Nat},(sysW dss).pl x=p→(sysW dss).pl y=p→Bef (a.R p) x y→posA dss a x<posA dss a y:=by
  intro p x y e1 e2 hB;unfold posA;rw[e1,e2];exact bef_idx (h.inv.rnod p) hB
 have hsrc:∀ {r:Nat},r<(eventsB dss).length→(sysW dss).rd r=true→a.F r<(eventsB dss).length∧(sysW dss).rd (a.F r)=false∧(sysW dss).pl (a.F r)=(sysW dss).pl r:=by
  intro r hr hrd;obtain⟨q1,q2,q3,_⟩:=h.inv.src r (h.all r hr).1 hrd;exact⟨h.inv.lt _ q1,q2,q3⟩
 have hrow:∀ {x y:Nat},x<(eventsB dss).length→line (rwL (eventsB dss) (rowsOf b)) x y=true→posA dss a x<posA dss a y∧(sysW dss).rd x=false∧(sysW dss).rd y=false:=by
  intro x y hx' hl;have hB:=row_bef hb h W.webs hx' hl;have m1:=(h.inv.rows _ _).1 (bef_mem hB).1;have m2:=(h.inv.rows _ _).1 (bef_mem hB).2;exact⟨hpos rfl m2.2.2 hB,m1.2.1,m2.2.1⟩
 refine up_round W.pw (fun i=>keyA dss a i*(eventsB dss).length+i) (fun i j hi hj hl=>?_);refine key_lt hi ?_;rw[W.pwl i j hi] at hl;simp only[Bool.or_eq_true] at hl;rcases hl with (g|g)|(g|g)
 ·
  rw[(plc_line hx).2 i j hi] at g;simp only[Bool.and_eq_true,Bool.not_eq_true'] at g;obtain⟨⟨_,g2⟩,g3⟩:=g;have hlt:=behP_lt g2
  have hpl:(sysW dss).pl i=(sysW dss).pl j:=by
   unfold plcP at g3;rw[bne_eq_false_iff_eq] at g3;show ((eventsB dss).getD i zE).2.2.2.1.toNat=((eventsB dss).getD j zE).2.2.2.1.toNat;rw[g3]
  unfold behP at g2;simp only[Bool.and_eq_true,Bool.or_eq_true,decide_eq_true_eq,beq_iff_eq] at g2;rcases g2.2 with ⟨g4,g5⟩|⟨g4,g5⟩
  ·
   left;obtain⟨_,b2,b3,_⟩:=h.inv.beg i g4
   have k0:keyA dss a i=0:=by
    unfold keyA posA;rw[b2,b3];have hh:=h.head g4
    cases hl:a.R i with
    |nil=>rw[hl] at hh;cases hh
    |cons y r=>
     rw[hl] at hh;simp only[List.head?_cons,Option.some.injEq] at hh;rw[hh,List.idxOf_cons_self];rfl
   rw[k0];unfold keyA;split
   · omega
   ·
    rename_i hr
    have hr':(sysW dss).rd j=false:=by cases hq:(sysW dss).rd j with
     |false=>rfl
     |true=>exact absurd hq hr
    have hm:j∈a.R i:=(h.inv.rows i j).2 ⟨h.all j hj,hr',by rw[←hpl,b3]⟩;unfold posA;rw[←hpl,b3];have hh:=h.head g4
    cases hl:a.R i with
    |nil=>rw[hl] at hh;cases hh
    |cons y r=>
     rw[hl] at hh;simp only[List.head?_cons,Option.some.injEq] at hh;rw[List.idxOf_cons,hh,beq_eq_false_iff_ne.2 (show i≠j by omega)];exact Nat.mul_pos (by omega) (Nat.succ_pos _)
  ·
   have hcoh:=h.inv.coh i j (h.all i hi).1 (h.all j hj).1 g4 hlt g5 hpl
   have hL:(stA dss a τ).L (sysW dss) ((sysW dss).ck i) ((sysW dss).pl i)=a.R ((sysW dss).pl i):=by
    unfold AbsSt.L;rw[h.none,List.filter_nil,List.append_nil];rfl
   rw[hL] at hcoh
   have vplace:∀x,x<(eventsB dss).length→(sysW dss).pl ((stA dss a τ).v (sysW dss) x)=(sysW dss).pl x:=by
    intro x hx';unfold AbsSt.v;split
    · rename_i hr;exact (hsrc hx' hr).2.2
    · rfl
   have hle:(stA dss a τ).v (sysW dss) i=(stA dss a τ).v (sysW dss) j∨posA dss a ((stA dss a τ).v (sysW dss) i)<posA dss a ((stA dss a τ).v (sysW dss) j):=
    hcoh.imp id (fun hB=>hpos (vplace i hi) ((vplace j hj).trans hpl.symm) hB)
   have hw:=h.inv.cohw i j (h.all i hi).1 (h.all j hj).1 g4 hlt g5 hpl;unfold AbsSt.v at hle;unfold keyA
   cases ri:(sysW dss).rd i with
   |true=>
    rw[ri,if_pos rfl] at hle;rw[if_pos rfl]
    cases rj:(sysW dss).rd j with
    |true=>
     rw[rj,if_pos rfl] at hle;rw[if_pos rfl];rcases hle with e|e
     ·
      right;change a.F i=a.F j at e;rw[e];exact⟨rfl,hlt⟩
     ·
      left;change posA dss a (a.F i)<posA dss a (a.F j) at e;omega
    |false=>
     rw[rj,if_neg (by simp)] at hle;rw[if_neg (by simp)];rcases hle with e|e
     · exact absurd e (hw ri rj)
     ·
      left;change posA dss a (a.F i)<posA dss a j at e;omega
   |false=>
    rw[ri,if_neg (by simp)] at hle;rw[if_neg (by simp)]
    cases rj:(sysW dss).rd j with
    |true=>
     rw[rj,if_pos rfl] at hle;rw[if_pos rfl];rcases hle with e|e
     ·
      left;change i=a.F j at e;rw[←e];omega
     ·
      left;change posA dss a i<posA dss a (a.F j) at e;omega
    |false=>
     rw[rj,if_neg (by simp)] at hle;rw[if_neg (by simp)];rcases hle with e|e
     · omega
     · left;omega
 ·
  obtain⟨q,hq1,hq2,hq3⟩:=(W.webs.fwl i j hi).1 g;obtain⟨r,hr,e1,e2,e3⟩:=h.rd hq1;have er:r=j:=by omega
  subst er;have ei:a.F r=i:=by omega
  have hs:=hsrc hr e3;rw[ei] at hs;left;unfold keyA;rw[e3,hs.2.1,if_pos rfl,if_neg (by simp),ei];omega
 ·
  obtain⟨p1,p2,p3⟩:=hrow hi g;left;unfold keyA;rw[p2,p3,if_neg (by simp),if_neg (by simp)];omega
 ·
  obtain⟨q,hq1,hq2,hq3⟩:=(W.webs.agl i j hi).1 g;obtain⟨r,hr,e1,e2,e3⟩:=h.rd hq1;have er:r=i:=by omega
  subst er;rw[e2,Int.toNat_natCast] at hq3;obtain⟨p1,p2,p3⟩:=hrow (hsrc hr e3).1 hq3;left;unfold keyA;rw[e3,p3,if_pos rfl,if_neg (by simp)];omega
theorem D_flush {S:Sys}{s:AbsSt}{T:Nat}{z:Int}(h:AInv S s T z){c:Int}{x:Nat}{rest:List Nat}(hN:s.N c=x::rest)(t i:Nat):(s.doFlush S t c x rest).D S i↔s.D S i∨i=x:=by
 obtain⟨hxX,hx3,hxc,hxr⟩:=h.note c x (by rw[hN];simp);have hord:=h.nord c;rw[hN,List.pairwise_cons] at hord;have hxrest:x∉rest:=fun hm=>by have:=hord.1 x hm;omega
 have nmem:∀c' y,y∈(s.doFlush S t c x rest).N c'↔y∈s.N c'∧¬(c'=c∧y=x):=by
  intro c' y;show y∈(if c'=c then rest else s.N c')↔_;by_cases e:c'=c
  ·
   subst e;rw[if_pos rfl,hN];constructor
   ·
    intro hm;exact⟨List.mem_cons_of_mem _ hm,fun hq=>hxrest (by rw[←hq.2];exact hm)⟩
   ·
    rintro⟨hm,hq⟩;rcases List.mem_cons.1 hm with rfl|hm
    · exact absurd ⟨rfl,rfl⟩ hq
    · exact hm
  ·
   rw[if_neg e];exact⟨fun hm=>⟨hm,fun hq=>e hq.1⟩,fun hm=>hm.1⟩
 unfold AbsSt.D;rw[nmem];show (s.X i∧_)↔_;constructor
 ·
  rintro⟨h1,h2⟩;by_cases e:i=x
  · exact .inr e
  · exact .inl ⟨h1,fun hm=>h2 ⟨hm,fun hq=>e hq.2⟩⟩
 ·
  rintro (⟨h1,h2⟩|rfl)
  · exact⟨h1,fun hm=>h2 hm.1⟩
  · exact⟨hxX,fun hm=>hm.2 ⟨hxc,rfl⟩⟩
theorem X_read {dss:List (List Dd)}(hb:workB dss=true)(a:Ab)(τ τ':Nat→Nat){c:Nat}(hc:c<dss.length)(hk:a.nx c<(dss.getD c []).length)(h1:(dAt dss c (a.nx c)).1=1)(f j:Nat):(stA dss (readA dss a c f) τ').X j↔(stA dss a τ).X j∨j=offN dss c (a.nx c):=
 X_one hb a hc hk (by omega) (by omega) j
theorem X_note {dss:List (List Dd)}(hb:workB dss=true)(a:Ab)(τ τ':Nat→Nat){c:Nat}(hc:c<dss.length)(hk:a.nx c<(dss.getD c []).length)(h2:(dAt dss c (a.nx c)).1=2)(j:Nat):(stA dss (noteA dss a c) τ').X j↔(stA dss a τ).X j∨j=offN dss c (a.nx c):=
 X_one hb a hc hk (by omega) (by omega) j
theorem X_ink {dss:List (List Dd)}(hb:workB dss=true)(a:Ab)(τ τ':Nat→Nat){c:Nat}(hc:c<dss.length)(hk:a.nx c<(dss.getD c []).length)(h2:(dAt dss c (a.nx c)).1=2)(p j:Nat):(stA dss (inkA dss a c p) τ').X j↔(stA dss a τ).X j∨j=offN dss c (a.nx c):=
 X_one hb a hc hk (by omega) (by omega) j
theorem X_swap {dss:List (List Dd)}(hb:workB dss=true)(a:Ab)(τ τ':Nat→Nat){c:Nat}(hc:c<dss.length)(hk:a.nx c<(dss.getD c []).length)(h3:(dAt dss c (a.nx c)).1=3)(p j:Nat):(stA dss (swapA dss a c p) τ').X j↔((stA dss a τ).X j∨j=offN dss c (a.nx c))∨j=offN dss c (a.nx c)+1:=
 X_two hb a hc hk h3 j
theorem D_def (dss:List (List Dd))(a:Ab)(τ:Nat→Nat)(j:Nat):(stA dss a τ).D (sysW dss) j↔(stA dss a τ).X j∧j∉(stA dss a τ).N ((sysW dss).ck j):=Iff.rfl
theorem nN_of {dss:List (List Dd)}{a:Ab}{τ:Nat→Nat}{T:Nat}{z:Int}(h:AInv (sysW dss) (stA dss a τ) T z){j:Nat}(hj:¬(stA dss a τ).X j)(c:Int):j∉(stA dss a τ).N c:=fun hm=>hj (h.note c j hm).1
def fromN (dss:List (List Dd))(f:List Int)(r:Nat):Nat:=(f.getD ((idxB rdE (eventsB dss)).idxOf (r:Int)) 0).toNat
abbrev rowlt (dss:List (List Dd))(rows:List Int)(x y:Nat):Prop:=line (rwL (eventsB dss) rows) x y=true
structure Front (dss:List (List Dd))(f rows:List Int)(Q:Int→Prop)(κ:Int):Prop where
 slow:slowB dss f rows=true
 beg:∀z:Int,0≤z→z<3→Q z
 new:¬Q κ
 cl:∀j i,j<(eventsB dss).length→i<(eventsB dss).length→line (swL dss (eventsB dss) f rows) j i=true→(sysW dss).cs j≠(sysW dss).cs i→Q ((sysW dss).cs i)∨(sysW dss).cs i=κ→Q ((sysW dss).cs j)
structure CI (dss:List (List Dd))(f rows:List Int)(Q:Int→Prop)(κ:Int)(b:Bd)(a:Ab)(τ:Nat→Nat)(T:Nat)(z:Int):Prop where
 mi:MI dss b a τ T z
 dq:∀j,j<(eventsB dss).length→((stA dss a τ).D (sysW dss) j↔Q ((sysW dss).cs j)∨((sysW dss).cs j=κ∧(stA dss a τ).X j))
 ro:∀p,(a.R p).Pairwise (rowlt dss rows)
 fo:∀r,(stA dss a τ).X r→(sysW dss).rd r=true→a.F r=fromN dss f r
theorem from_at {dss:List (List Dd)}{f rows:List Int}(T:Told dss f rows){r:Nat}(hr:r<(eventsB dss).length)(hrd:(sysW dss).rd r=true):
  ∃q,q<(idxB rdE (eventsB dss)).length∧(idxB rdE (eventsB dss)).getD q 0=(r:Int)∧f.getD q 0=(fromN dss f r:Int)∧fromN dss f r<(eventsB dss).length∧(sysW dss).rd (fromN dss f r)=false∧(sysW dss).pl (fromN dss f r)=(sysW dss).pl r ∧
   ((eventsB dss).getD (fromN dss f r) zE).2.2.2.1=((eventsB dss).getD r zE).2.2.2.1:=by
 have hm:(r:Int)∈idxB rdE (eventsB dss):=by
  unfold idxB;rw[if_pos T.twelve];exact idxK_has _ _ hrd _ hr
 have hq:=List.idxOf_lt_length_of_mem hm
 have e:(idxB rdE (eventsB dss)).getD ((idxB rdE (eventsB dss)).idxOf (r:Int)) 0=(r:Int):=by
  rw[List.getD_eq_getElem?_getD,List.getElem?_eq_getElem hq];simp
 obtain⟨sl,su⟩:=src_use T.twelve T.src;obtain⟨⟨p1,p2⟩,p3⟩:=su _ hq;have hw:=fr_is T.twelve T.src hq;have ef:f.getD ((idxB rdE (eventsB dss)).idxOf (r:Int)) 0=(fromN dss f r:Int):=by unfold fromN;omega
 rw[ef,Int.toNat_natCast] at hw p3;unfold plE at p3;rw[e,Int.toNat_natCast] at p3;refine⟨_,hq,e,ef,by omega,hw,?_,p3⟩;show ((eventsB dss).getD (fromN dss f r) zE).2.2.2.1.toNat=((eventsB dss).getD r zE).2.2.2.1.toNat;rw[p3]
theorem row_anti {dss:List (List Dd)}{f rows:List Int}(T:Told dss f rows){x y:Nat}(hx:x<(eventsB dss).length)(h1:rowlt dss rows x y)(h2:rowlt dss rows y x):False:=
 two_round T.webs.rw' (rw_round T.twelve T.rws) hx h1 h2
theorem row_pair {dss:List (List Dd)}{f rows:List Int}(T:Told dss f rows){x y:Nat}(hx:x<(eventsB dss).length)(hy:y<(eventsB dss).length)(wx:(sysW dss).rd x=false)(wy:(sysW dss).rd y=false)(hp:(sysW dss).pl x=(sysW dss).pl y)(hne:x≠y):rowlt dss rows x y∨rowlt dss rows y x:=by
 have p1:=place_ev T.work hx;have p2:=place_ev T.work hy;have hp':((eventsB dss).getD x zE).2.2.2.1.toNat=((eventsB dss).getD y zE).2.2.2.1.toNat:=hp;exact row_tot T.twelve T.rws hx hy wx wy p1 (by omega) hne
theorem row_own {dss:List (List Dd)}{f rows:List Int}(he:eachB dss f rows=true){x y:Nat}(h3:3≤x)(hxy:x<y)(hy:y<(eventsB dss).length)(hc:(sysW dss).ck x=(sysW dss).ck y)(wx:(sysW dss).rd x=false)(wy:(sysW dss).rd y=false)(hp:(sysW dss).pl x=(sysW dss).pl y):rowlt dss rows x y:=by
 obtain⟨ht,hr0⟩:=each_parts he;have T:=told_of ht;have hx:x<(eventsB dss).length:=by omega
 have p1:=place_ev T.work hx;have p2:=place_ev T.work hy;have hp':((eventsB dss).getD x zE).2.2.2.1.toNat=((eventsB dss).getD y zE).2.2.2.1.toNat:=hp;rcases row_pair T hx hy wx wy hp (by omega) with h|h
 · exact h
 ·
  exfalso;refine two_round T.pw hr0 hx (j:=y) ?_ ?_
  ·
   have:=plc_is T.twelve hxy hy (.inr ⟨h3,hc⟩) (by omega);rw[T.pwl x y hx,this];simp
  · rw[T.pwl y x hy,h];simp
theorem sw_row {dss:List (List Dd)}{f rows:List Int}(T:Told dss f rows){x y:Nat}(hx:x<(eventsB dss).length)(h:rowlt dss rows x y):line (swL dss (eventsB dss) f rows) x y=true:=by
 rw[T.swl x y hx,h];simp
theorem note_cls {dss:List (List Dd)}(hb:workB dss=true){b:Bd}{a:Ab}{τ:Nat→Nat}{T:Nat}{z:Int}(M:MI dss b a τ T z){c x y:Nat}(hx:x∈a.N c)(hy:y<(eventsB dss).length)(e:(sysW dss).cs x=(sysW dss).cs y):y=x:=by
 obtain⟨_,k,E,h1,h2,h3,_⟩:=M.nt c x hx;have s4:=(sys_at hb E).2.2.2;by_cases h3y:3≤y
 ·
  obtain⟨c',k',i',E'⟩:=ev_dec hb h3y hy;rw[s4,(sys_at hb E').2.2.2] at e;obtain⟨rfl,hq⟩:=(cls_iff (okC_of hb E.hc) (okC_of hb E'.hc) E.hk E'.hk E.kind E'.kind).1 e
  have hkk:k'=k:=by
   rcases hq with hq|hq
   · exact hq.symm
   · exact absurd h3 hq.1
  subst hkk;have e1:=(ev_only E' (by omega)).1;have e2:=(ev_only E (by omega)).1;omega
 ·
  exfalso;have e2:=(beg_place hb (show y<3 by omega)).2.2.1;have:=cls_three hb E.hc E.hk E.kind;rw[s4] at e;change clsD dss c k=csE ((eventsB dss).getD y zE) at e;omega
theorem L_sorted {dss:List (List Dd)}{f rows:List Int}{Q:Int→Prop}{κ:Int}{b:Bd}{a:Ab}{τ:Nat→Nat}{Tm:Nat}{z:Int}(F:Front dss f rows Q κ)(C:CI dss f rows Q κ b a τ Tm z)(c p:Nat):((stA dss a τ).L (sysW dss) (c:Int) p).Pairwise (rowlt dss rows):=by
 have he:=slow_each F.slow;have T:=told_of (each_parts he).1;have hb:=T.work;have I:=C.mi.inv;unfold AbsSt.L;rw[st_N,List.pairwise_append];refine⟨C.ro p,?_,?_⟩
 ·
  have ho:(a.N c).Pairwise (·<·):=by have:=I.nord (c:Int);rw[st_N] at this;exact this
  refine (ho.sublist List.filter_sublist).imp_of_mem (fun {x y} hx hy hxy=>?_);rw[List.mem_filter] at hx hy;have nx:=I.note (c:Int) x (by rw[st_N];exact hx.1);have ny:=I.note (c:Int) y (by rw[st_N];exact hy.1);exact row_own he nx.2.1 hxy (I.lt y ny.1) (by rw[nx.2.2.1,ny.2.2.1]) nx.2.2.2 ny.2.2.2 (by rw[beq_iff_eq.1 hx.2,beq_iff_eq.1 hy.2])
 ·
  intro x hx y hy;rw[List.mem_filter] at hy;have ny:=I.note (c:Int) y (by rw[st_N];exact hy.1);have hyD:¬(stA dss a τ).D (sysW dss) y:=fun hd=>hd.2 (by rw[ny.2.2.1,st_N];exact hy.1)
  obtain⟨d1,d2,d3⟩:=(I.rows p x).1 hx;have hxn:=I.lt x d1.1;have hyn:=I.lt y ny.1;rcases row_pair T hxn hyn d2 ny.2.2.2 (by rw[d3,beq_iff_eq.1 hy.2]) (fun e=>hyD (by rw[←e];exact d1)) with h|h
  · exact h
  ·
   exfalso;have hcs:(sysW dss).cs y≠(sysW dss).cs x:=fun e=>hyD (by have:=note_cls hb C.mi hy.1 hxn e;rw[←this];exact d1)
   have hq:=F.cl y x hyn hxn (sw_row T hyn h) hcs (((C.dq x hxn).1 d1).imp id (fun h=>h.1));exact hyD ((C.dq y hyn).2 (.inl hq))
theorem read_from {dss:List (List Dd)}{f rows:List Int}{Q:Int→Prop}{κ:Int}{b:Bd}{a:Ab}{τ:Nat→Nat}{Tm:Nat}{z:Int}(F:Front dss f rows Q κ)(C:CI dss f rows Q κ b a τ Tm z){c j l:Nat}(hn:Nxt (sysW dss) (stA dss a τ) j)(hck:(sysW dss).ck j=(c:Int))(hrd:(sysW dss).rd j=true)(hκ:(sysW dss).cs j=κ)
  (hl:((stA dss a τ).L (sysW dss) (c:Int) ((sysW dss).pl j)).getLast? = some l):l=fromN dss f j:=by
 have he:=slow_each F.slow;have T:=told_of (each_parts he).1;have hb:=T.work;have I:=C.mi.inv;obtain⟨q,hq,eq,ef,hfn,hfw,hfp,hfp'⟩:=from_at T hn.lt hrd;have hne:fromN dss f j≠j:=fun e=>by rw[e,hrd] at hfw;cases hfw
 have c1:fromN dss f j∈(stA dss a τ).L (sysW dss) (c:Int) ((sysW dss).pl j):=by
  have inR:(stA dss a τ).D (sysW dss) (fromN dss f j)→fromN dss f j∈(stA dss a τ).L (sysW dss) (c:Int) ((sysW dss).pl j):=fun hd=>by
   unfold AbsSt.L;exact List.mem_append_left _ ((I.rows _ _).2 ⟨hd,hfw,hfp⟩)
  by_cases h3:3≤fromN dss f j
  ·
   by_cases hc:(sysW dss).ck (fromN dss f j)=(c:Int)
   ·
    have hu:=(each_use he hq eq hfn hfw (.inr ⟨h3,hn.three,by show (sysW dss).ck _=(sysW dss).ck _;rw[hc,hck]⟩) hfp').1
    have hlt:fromN dss f j<j:=by
     apply Classical.byContradiction;intro hno;exact hu (by omega) ef
    have hX:=hn.all _ h3 hlt (by rw[hc,hck]);by_cases hN:fromN dss f j∈a.N c
    ·
     unfold AbsSt.L;rw[st_N];exact List.mem_append_right _ (List.mem_filter.2 ⟨hN,by rw[hfp];simp⟩)
    · exact inR ⟨hX,by rw[hc,st_N];exact hN⟩
   ·
    have hcs:(sysW dss).cs (fromN dss f j)≠(sysW dss).cs j:=by
     intro e;obtain⟨c1,k1,i1,E1⟩:=ev_dec hb h3 hfn;obtain⟨c2,k2,i2,E2⟩:=ev_dec hb hn.three hn.lt;rw[(sys_at hb E1).2.2.2,(sys_at hb E2).2.2.2] at e;have:=((cls_iff (okC_of hb E1.hc) (okC_of hb E2.hc) E1.hk E2.hk E1.kind E2.kind).1 e).1;rw[(sys_at hb E1).1] at hc;rw[(sys_at hb E2).1] at hck;omega
    have ho:line (swL dss (eventsB dss) f rows) (fromN dss f j) j=true:=by
     have h1:line (fwL (eventsB dss) f) (fromN dss f j) j=true:=(T.webs.fwl _ j hfn).2 ⟨q,hq,ef,eq⟩
     have h2:owP (eventsB dss) (fromN dss f j) j=false:=by
      cases hq2:owP (eventsB dss) (fromN dss f j) j with
      |false=>rfl
      |true=>
       unfold owP at hq2;simp only[Bool.and_eq_true,beq_iff_eq] at hq2;exact absurd (hq2.2.trans hck) hc
     rw[T.swl _ j hfn,(ow_line T.webs).2 _ j hfn,h1,h2];simp
    exact inR ((C.dq _ hfn).2 (.inl (F.cl _ j hfn hn.lt ho hcs (.inr hκ))))
  ·
   refine inR ((C.dq _ hfn).2 (.inl ?_));have:=(beg_place hb (show fromN dss f j<3 by omega)).2.2.1;show Q (csE ((eventsB dss).getD (fromN dss f j) zE));rw[this];exact F.beg _ (by omega) (by omega)
 have c2:∀y,y∈(stA dss a τ).L (sysW dss) (c:Int) ((sysW dss).pl j)→y≠fromN dss f j→rowlt dss rows y (fromN dss f j):=by
  intro y hy hyne;unfold AbsSt.L at hy;rw[List.mem_append,List.mem_filter,st_N] at hy
  have hyX:(stA dss a τ).X y∧(sysW dss).rd y=false∧(sysW dss).pl y=(sysW dss).pl j:=by
   rcases hy with hy|hy
   ·
    obtain⟨d1,d2,d3⟩:=(I.rows _ y).1 hy;exact⟨d1.1,d2,d3⟩
   ·
    have ny:=I.note (c:Int) y (by rw[st_N];exact hy.1);exact⟨ny.1,ny.2.2.2,beq_iff_eq.1 hy.2⟩
  have hyn:=I.lt y hyX.1;have p1:=place_ev hb hyn;have p2:=place_ev hb hn.lt
  have hyp:((eventsB dss).getD y zE).2.2.2.1=((eventsB dss).getD j zE).2.2.2.1:=by
   have:((eventsB dss).getD y zE).2.2.2.1.toNat=((eventsB dss).getD j zE).2.2.2.1.toNat:=hyX.2.2;omega
  have own:3≤y→(sysW dss).ck y=(c:Int)→rowlt dss rows y (fromN dss f j):=by
   intro h3 hcy;have hlt:=hn.last y hyX.1 h3 (by rw[hcy,hck]);have:=(each_use he hq eq hyn hyX.2.1 (.inr ⟨h3,hn.three,by show (sysW dss).ck _=(sysW dss).ck _;rw[hcy,hck]⟩) hyp).2 hlt (by rw[ef];omega);rw[ef,Int.toNat_natCast] at this;exact this
  rcases row_pair T hyn hfn hyX.2.1 hfw (by rw[hyX.2.2,hfp]) hyne with h|h
  · exact h
  ·
   have hag:line (swL dss (eventsB dss) f rows) j y=true:=by
    have:line (agL (eventsB dss) f rows) j y=true:=(T.webs.agl j y hn.lt).2 ⟨q,hq,eq,by rw[ef,Int.toNat_natCast];exact h⟩;rw[T.swl j y hn.lt,this];simp
   rcases hy with hy|hy
   ·
    obtain⟨d1,d2,d3⟩:=(I.rows _ y).1 hy;by_cases hcs:(sysW dss).cs j=(sysW dss).cs y
    ·
     have h3y:3≤y:=by
      apply Classical.byContradiction;intro hno;have e2:=(beg_place hb (show y<3 by omega)).2.2.1;obtain⟨c2,k2,i2,E2⟩:=ev_dec hb hn.three hn.lt;have:=cls_three hb E2.hc E2.hk E2.kind;rw[(sys_at hb E2).2.2.2] at hcs;change clsD dss c2 k2=csE ((eventsB dss).getD y zE) at hcs;omega
     obtain⟨c1,k1,i1,E1⟩:=ev_dec hb h3y hyn;obtain⟨c2,k2,i2,E2⟩:=ev_dec hb hn.three hn.lt;rw[(sys_at hb E1).2.2.2,(sys_at hb E2).2.2.2] at hcs;have hcc:=((cls_iff (okC_of hb E2.hc) (okC_of hb E1.hc) E2.hk E1.hk E2.kind E1.kind).1 hcs).1;refine own h3y ?_;rw[(sys_at hb E1).1,←hcc,←(sys_at hb E2).1];exact hck
    ·
     exfalso;rcases (C.dq y hyn).1 d1 with hQ|hQ
     · exact F.new (by rw[←hκ];exact F.cl j y hn.lt hyn hag hcs (.inl hQ))
     · exact hcs (by rw[hκ,hQ.1])
   ·
    have ny:=I.note (c:Int) y (by rw[st_N];exact hy.1);exact own ny.2.1 ny.2.2.1
 apply Classical.byContradiction;intro hlne;have hlm:=List.mem_of_getLast? hl;have h1:=c2 l hlm hlne;rcases bef_of_last c1 hl with h|h
 · exact hlne h.symm
 ·
  have hln:l<(eventsB dss).length:=(row_use T.webs T.twelve T.rws hfn (bef_pair (L_sorted F C c _) h)).1;exact row_anti T hln h1 (bef_pair (L_sorted F C c _) h)
theorem dq_add {dss:List (List Dd)}{f rows:List Int}{Q:Int→Prop}{κ:Int}{b:Bd}{a a':Ab}{τ τ':Nat→Nat}{Tm:Nat}{z:Int}(C:CI dss f rows Q κ b a τ Tm z)(New:Nat→Prop)(hX:∀j,(stA dss a' τ').X j↔(stA dss a τ).X j∨New j)
  (hnew:∀j,New j→(sysW dss).cs j=κ∧¬(stA dss a τ).X j) (hN:a'.N=a.N):∀j,j<(eventsB dss).length→((stA dss a' τ').D (sysW dss) j↔Q ((sysW dss).cs j)∨((sysW dss).cs j=κ∧(stA dss a' τ').X j)):=by
 intro j hj
 have hNN:∀c,(stA dss a' τ').N c=(stA dss a τ).N c:=fun c=>by
  show (if 0≤c then a'.N c.toNat else [])=if 0≤c then a.N c.toNat else []
  rw[hN]
 have hd:(stA dss a' τ').D (sysW dss) j↔(stA dss a' τ').X j∧j∉(stA dss a τ).N ((sysW dss).ck j):=by
  show ((stA dss a' τ').X j∧j∉(stA dss a' τ').N ((sysW dss).ck j))↔_;rw[hNN]
 rw[hd,hX];constructor
 ·
  rintro⟨h1|h1,h2⟩
  ·
   rcases (C.dq j hj).1 ⟨h1,h2⟩ with h|h
   · exact .inl h
   · exact .inr ⟨h.1,.inl h.2⟩
  · exact .inr ⟨(hnew j h1).1,.inr h1⟩
 ·
  rintro (h|⟨h1,h2|h2⟩)
  ·
   have:=(C.dq j hj).2 (.inl h);exact⟨.inl this.1,this.2⟩
  ·
   have:=(C.dq j hj).2 (.inr ⟨h1,h2⟩);exact⟨.inl this.1,this.2⟩
  · exact⟨.inr h2,nN_of C.mi.inv (hnew j h2).2 _⟩
theorem CI_wait {dss:List (List Dd)}{f rows:List Int}{Q:Int→Prop}{κ:Int}{b:Bd}{a:Ab}{τ:Nat→Nat}{Tm:Nat}{z:Int}(hb:workB dss=true)(C:CI dss f rows Q κ b a τ Tm z){c:Nat}(hc:c<dss.length)(hk:a.nx c<(dss.getD c []).length)(h4:(dAt dss c (a.nx c)).1=4)(hN:a.N c=[]):
  CI dss f rows Q κ (oneM dss (eventsB dss) b c) (bumpA a c) τ Tm z:=by
 have e:=st_bump hb a τ hc hk h4;exact⟨oneM_wait hb C.mi hc hk h4 hN,by rw[e];exact C.dq,C.ro,by rw[e];exact C.fo⟩
theorem CI_note {dss:List (List Dd)}{f rows:List Int}{Q:Int→Prop}{κ:Int}{b:Bd}{a:Ab}{τ:Nat→Nat}{Tm:Nat}{z:Int}(hb:workB dss=true)(C:CI dss f rows Q κ b a τ Tm z){c:Nat}(hc:c<dss.length)(hk:a.nx c<(dss.getD c []).length)(h2:(dAt dss c (a.nx c)).1=2)(hg:gAt dss c (a.nx c)=0)(hκ:clsD dss c (a.nx c)≠κ):
  CI dss f rows Q κ (oneM dss (eventsB dss) b c) (noteA dss a c) τ Tm z:=by
 have E:=ev_first hc hk (by omega:(dAt dss c (a.nx c)).1≠4);obtain⟨s1,s2,s3,s4⟩:=sys_at hb E;have hn:=nxt_first hb a τ hc hk (by omega:(dAt dss c (a.nx c)).1≠4);have hX:=X_note hb a τ τ hc hk h2
 have hNd:∀i,(stA dss (noteA dss a c) τ).D (sysW dss) i↔(stA dss a τ).D (sysW dss) i:=by
  intro i
  have nm:∀c':Int,i∈(stA dss (noteA dss a c) τ).N c'↔i∈(stA dss a τ).N c'∨(c'=(c:Int)∧i=offN dss c (a.nx c)):=by
   intro c';show i∈(if 0≤c' then (if c'.toNat=c then a.N c'.toNat++[offN dss c (a.nx c)] else a.N c'.toNat) else [])↔i∈(if 0≤c' then a.N c'.toNat else [])∨_;by_cases h0:0≤c'
   ·
    rw[if_pos h0,if_pos h0];by_cases e:c'.toNat=c
    ·
     rw[if_pos e,List.mem_append];simp only[List.mem_singleton];constructor
     ·
      rintro (h|h)
      · exact .inl h
      · exact .inr ⟨by omega,h⟩
     ·
      rintro (h|h)
      · exact .inl h
      · exact .inr h.2
    ·
     rw[if_neg e];constructor
     · exact fun h => .inl h
     ·
      rintro (h|h)
      · exact h
      · omega
   ·
    rw[if_neg h0,if_neg h0];constructor
    · intro h;cases h
    ·
     rintro (h|h)
     · exact h
     · omega
  rw[D_def,D_def,hX,nm];constructor
  ·
   rintro⟨h|rfl,h3⟩
   · exact⟨h,fun hm=>h3 (.inl hm)⟩
   · exact absurd (.inr ⟨s1,rfl⟩) h3
  ·
   rintro⟨h,h3⟩;refine⟨.inl h,?_⟩;rintro (hm|hm)
   · exact h3 hm
   · exact hn.new (by rw[←hm.2];exact h)
 refine⟨oneM_note hb C.mi hc hk h2 hg,fun j hj=>?_,C.ro,fun r hr hrd=>?_⟩
 ·
  rw[hNd,hX,C.dq j hj];constructor
  ·
   rintro (h|h)
   · exact .inl h
   · exact .inr ⟨h.1,.inl h.2⟩
  ·
   rintro (h|⟨h1,h|h⟩)
   · exact .inl h
   · exact .inr ⟨h1,h⟩
   ·
    rw[h,s4] at h1;exact absurd h1 hκ
 ·
  rcases (hX r).1 hr with h|h
  · exact C.fo r h hrd
  ·
   rw[h,s3,rdI_two h2 0] at hrd;cases hrd
theorem CI_read {dss:List (List Dd)}{f rows:List Int}{Q:Int→Prop}{κ:Int}{b:Bd}{a:Ab}{τ:Nat→Nat}{Tm:Nat}(F:Front dss f rows Q κ)(C:CI dss f rows Q κ b a τ Tm κ)(hT:1≤Tm){c:Nat}(hc:c<dss.length)(hk:a.nx c<(dss.getD c []).length)(h1:(dAt dss c (a.nx c)).1=1)
  (hκ:clsD dss c (a.nx c)=κ) (hcan:gAt dss c (a.nx c)=0∨a.N c=[]):
  ∃a' τ',CI dss f rows Q κ (oneM dss (eventsB dss) b c) a' τ' Tm κ∧a'.nx=(bumpA a c).nx∧a'.N=a.N:=by
 have hb:=(told_of (each_parts (slow_each F.slow)).1).work;have E:=ev_first hc hk (by omega:(dAt dss c (a.nx c)).1≠4);obtain⟨s1,s2,s3,s4⟩:=sys_at hb E;have hn:=nxt_first hb a τ hc hk (by omega:(dAt dss c (a.nx c)).1≠4);have hrd:(sysW dss).rd (offN dss c (a.nx c))=true:=by rw[s3];exact rdI_first (by omega)
 obtain⟨l,τ',hl,M'⟩:=oneM_read hb C.mi hT hc hk h1 hκ hcan;have el:=read_from F C hn s1 hrd (by rw[s4,hκ]) (by rw[s2];exact hl);refine⟨readA dss a c l,τ',⟨M',dq_add C (fun j=>j=offN dss c (a.nx c)) (X_read hb a τ τ' hc hk h1 l) (fun j e=>by subst e;exact⟨by rw[s4,hκ],hn.new⟩) rfl,C.ro,fun r hr hr2=>?_⟩,rfl,rfl⟩;show (if r=offN dss c (a.nx c) then l else a.F r)=_;rcases (X_read hb a τ τ' hc hk h1 l r).1 hr with h|h
 ·
  rw[if_neg (fun e=>hn.new (by rw[←e];exact h))];exact C.fo r h hr2
 · rw[if_pos h,el,h]
theorem ink_row {dss:List (List Dd)}{f rows:List Int}{Q:Int→Prop}{κ:Int}{b:Bd}{a:Ab}{τ:Nat→Nat}{Tm:Nat}{z:Int}(F:Front dss f rows Q κ)(C:CI dss f rows Q κ b a τ Tm z){j x:Nat}(h3:3≤j)(hj:j<(eventsB dss).length)(hnew:¬(stA dss a τ).X j)(hlast:∀i,(stA dss a τ).X i→3≤i→(sysW dss).ck i=(sysW dss).ck j→i<j)
  (hrd:(sysW dss).rd j=false) (hκ:(sysW dss).cs j=κ) (hx:x∈a.R ((sysW dss).pl j)):rowlt dss rows x j:=by
 have he:=slow_each F.slow;have T:=told_of (each_parts he).1;have hb:=T.work;obtain⟨d1,d2,d3⟩:=(C.mi.inv.rows _ x).1 hx;have hxn:=C.mi.inv.lt x d1.1;have hne:x≠j:=fun e=>hnew (by rw[←e];exact d1.1)
 rcases row_pair T hxn hj d2 hrd d3 hne with h|h
 · exact h
 ·
  by_cases hcs:(sysW dss).cs j=(sysW dss).cs x
  ·
   have h3x:3≤x:=by
    apply Classical.byContradiction;intro hno;have e2:=(beg_place hb (show x<3 by omega)).2.2.1;obtain⟨c2,k2,i2,E2⟩:=ev_dec hb h3 hj;have:=cls_three hb E2.hc E2.hk E2.kind;rw[(sys_at hb E2).2.2.2] at hcs;change clsD dss c2 k2=csE ((eventsB dss).getD x zE) at hcs;omega
   obtain⟨c1,k1,i1,E1⟩:=ev_dec hb h3x hxn;obtain⟨c2,k2,i2,E2⟩:=ev_dec hb h3 hj;rw[(sys_at hb E1).2.2.2,(sys_at hb E2).2.2.2] at hcs;have hcc:=((cls_iff (okC_of hb E2.hc) (okC_of hb E1.hc) E2.hk E1.hk E2.kind E1.kind).1 hcs).1;have hck:(sysW dss).ck x=(sysW dss).ck j:=by rw[(sys_at hb E1).1,(sys_at hb E2).1,hcc]
   exact row_own he h3x (hlast x d1.1 h3x hck) hj hck d2 hrd d3
  ·
   exfalso;rcases (C.dq x hxn).1 d1 with hQ|hQ
   · exact F.new (by rw[←hκ];exact F.cl j x hj hxn (sw_row T hj h) hcs (.inl hQ))
   · exact hcs (by rw[hκ,hQ.1])
theorem ro_snoc {dss:List (List Dd)}{rows:List Int}{R:Nat→List Nat}(h:∀p,(R p).Pairwise (rowlt dss rows)){q j:Nat}(hj:∀x,x∈R q→rowlt dss rows x j):∀p,(if p=q then R p++[j] else R p).Pairwise (rowlt dss rows):=by
 intro p;split
 ·
  rename_i e;subst e;rw[List.pairwise_append];refine⟨h p,by simp,fun x hx y hy=>?_⟩;have:y=j:=by simpa using hy
  rw[this];exact hj x hx
 · exact h p
theorem CI_ink {dss:List (List Dd)}{f rows:List Int}{Q:Int→Prop}{κ:Int}{b:Bd}{a:Ab}{τ:Nat→Nat}{Tm:Nat}(F:Front dss f rows Q κ)(C:CI dss f rows Q κ b a τ Tm κ)(hT:1≤Tm){c:Nat}(hc:c<dss.length)(hk:a.nx c<(dss.getD c []).length)(h2:(dAt dss c (a.nx c)).1=2)(hg:gAt dss c (a.nx c)≠0)
  (hκ:clsD dss c (a.nx c)=κ) (hN:a.N c=[]):
  ∃a' τ',CI dss f rows Q κ (oneM dss (eventsB dss) b c) a' τ' Tm κ∧a'.nx=(bumpA a c).nx∧a'.N=a.N:=by
 have hb:=(told_of (each_parts (slow_each F.slow)).1).work;have E:=ev_first hc hk (by omega:(dAt dss c (a.nx c)).1≠4);obtain⟨s1,s2,s3,s4⟩:=sys_at hb E;have hn:=nxt_first hb a τ hc hk (by omega:(dAt dss c (a.nx c)).1≠4);have hrd:(sysW dss).rd (offN dss c (a.nx c))=false:=by rw[s3];exact rdI_two h2 0
 obtain⟨τ',M'⟩:=oneM_ink hb C.mi hT hc hk h2 hg hκ hN;have hX:=X_ink hb a τ τ' hc hk h2 (dAt dss c (a.nx c)).2.1.toNat;refine⟨_,τ',⟨M',dq_add C (fun j=>j=offN dss c (a.nx c)) hX (fun j e=>by subst e;exact⟨by rw[s4,hκ],hn.new⟩) rfl,?_,fun r hr hr2=>?_⟩,rfl,rfl⟩
 · exact ro_snoc C.ro (fun x hx=>ink_row F C hn.three hn.lt hn.new hn.last hrd (by rw[s4,hκ]) (by rw[s2];exact hx))
 ·
  rcases (hX r).1 hr with h|h
  · exact C.fo r h hr2
  ·
   rw[h,hrd] at hr2;cases hr2
theorem CI_swap {dss:List (List Dd)}{f rows:List Int}{Q:Int→Prop}{κ:Int}{b:Bd}{a:Ab}{τ:Nat→Nat}{Tm:Nat}(F:Front dss f rows Q κ)(C:CI dss f rows Q κ b a τ Tm κ)(hT:1≤Tm){c:Nat}(hc:c<dss.length)(hk:a.nx c<(dss.getD c []).length)(h3:(dAt dss c (a.nx c)).1=3)
  (hκ:clsD dss c (a.nx c)=κ) (hN:a.N c=[]):
  ∃a' τ',CI dss f rows Q κ (oneM dss (eventsB dss) b c) a' τ' Tm κ∧a'.nx=(bumpA a c).nx∧a'.N=a.N:=by
 have hb:=(told_of (each_parts (slow_each F.slow)).1).work;have E:=ev_first hc hk (by omega:(dAt dss c (a.nx c)).1≠4);have E2:=ev_second hc hk h3;obtain⟨s1,s2,s3,s4⟩:=sys_at hb E;obtain⟨r1,r2,r3,r4⟩:=sys_at hb E2;obtain⟨p,hp,ep⟩:=place_d hb hc hk;have hn:=nxt_first hb a τ hc hk (by omega:(dAt dss c (a.nx c)).1≠4);have hrd:(sysW dss).rd (offN dss c (a.nx c))=true:=by rw[s3];exact rdI_first (by omega)
 have hrd2:(sysW dss).rd (offN dss c (a.nx c)+1)=false:=by rw[r3];exact rdI_second _
 obtain⟨τ',M'⟩:=oneM_swap hb C.mi hT hc hk h3 hκ hN;have hX:=X_swap hb a τ τ' hc hk h3 (dAt dss c (a.nx c)).2.1.toNat
 have hl:((stA dss a τ).L (sysW dss) (c:Int) ((sysW dss).pl (offN dss c (a.nx c)))).getLast? = some (lastA a (dAt dss c (a.nx c)).2.1.toNat):=by
  unfold AbsSt.L;rw[st_N,hN,List.filter_nil,List.append_nil,s2,ep,Int.toNat_natCast];exact last_some C.mi.inv hp
 have el:=read_from F C hn s1 hrd (by rw[s4,hκ]) hl
 have hnew2:¬(stA dss a τ).X (offN dss c (a.nx c)+1):=by
  rintro⟨_,h⟩;rw[ex_at hb E2,decide_eq_true_eq] at h;omega
 refine⟨_,τ',⟨M',dq_add C (fun j=>j=offN dss c (a.nx c)∨j=offN dss c (a.nx c)+1) (fun j=>by rw[hX j,or_assoc]) (fun j e=>by
   rcases e with e|e
   · subst e;exact⟨by rw[s4,hκ],hn.new⟩
   · subst e;exact⟨by rw[r4,hκ],hnew2⟩) rfl,?_,fun r hr hr2=>?_⟩,rfl,rfl⟩
 ·
  refine ro_snoc C.ro (fun x hx=>ink_row F C (E2.lt hb).1 (E2.lt hb).2 hnew2 (fun i hi h3' hck=>?_) hrd2 (by rw[r4,hκ]) (by rw[r2];exact hx));have:=hn.last i hi h3' (by rw[hck,r1,s1]);omega
 ·
  show (if r=offN dss c (a.nx c) then lastA a (dAt dss c (a.nx c)).2.1.toNat else a.F r)=_;rcases (hX r).1 hr with (h|h)|h
  ·
   rw[if_neg (fun e=>hn.new (by rw[←e];exact h))];exact C.fo r h hr2
  · rw[if_pos h,el,h]
  ·
   rw[h,hrd2] at hr2;cases hr2
theorem CI_tick {dss:List (List Dd)}{f rows:List Int}{Q:Int→Prop}{κ:Int}{b:Bd}{a:Ab}{τ:Nat→Nat}{Tm:Nat}{z:Int}(C:CI dss f rows Q κ b a τ Tm z)(z':Int)(hz:∀i,(stA dss a τ).D (sysW dss) i→3≤i→(sysW dss).cs i≠z'):CI dss f rows Q κ b a τ (Tm+1) z':=
 ⟨⟨C.mi.rep,C.mi.inv.tick z' hz,C.mi.nxl,C.mi.nt⟩,C.dq,C.ro,C.fo⟩
theorem cs_nat {dss:List (List Dd)}(hb:workB dss=true){i:Nat}(hi:i<(eventsB dss).length):0≤(sysW dss).cs i:=cs_pos hb hi
abbrev Idle (dss:List (List Dd))(f rows:List Int)(Q:Int→Prop)(b:Bd)(a:Ab)(τ:Nat→Nat)(Tm:Nat)(z:Int):Prop:=CI dss f rows Q (-1) b a τ Tm z
theorem idle_dq {dss:List (List Dd)}{f rows:List Int}{Q:Int→Prop}{b:Bd}{a:Ab}{τ:Nat→Nat}{Tm:Nat}{z:Int}(hb:workB dss=true)(C:Idle dss f rows Q b a τ Tm z){j:Nat}(hj:j<(eventsB dss).length):(stA dss a τ).D (sysW dss) j↔Q ((sysW dss).cs j):=by
 rw[C.dq j hj];constructor
 ·
  rintro (h|h)
  · exact h
  · have:=cs_nat hb hj;omega
 · exact fun h => .inl h
theorem CI_flush {dss:List (List Dd)}{f rows:List Int}{Q:Int→Prop}{b:Bd}{a:Ab}{τ:Nat→Nat}{Tm:Nat}{z:Int}(F:Front dss f rows Q (-1))(C:Idle dss f rows Q b a τ Tm z){c x:Nat}{rest:List Nat}(hc:c<dss.length)(hN:a.N c=x::rest):
  ∃a' τ' z',Idle dss f rows (fun y=>Q y∨y=(sysW dss).cs x) (flushM b c) a' τ' (Tm+1) z'∧a'.nx=a.nx∧∀c',a'.N c'=if c'=c then rest else a.N c':=by
 have he:=slow_each F.slow;have T:=told_of (each_parts he).1;have hb:=T.work;obtain⟨τ',M'⟩:=flush_sim hb C.mi hc hN;have hxm:x∈a.N c:=by rw[hN];simp
 have I:=C.mi.inv;have nx:=I.note (c:Int) x (by rw[st_N];exact hxm);have hxn:=I.lt x nx.1;have hxD:¬(stA dss a τ).D (sysW dss) x:=fun hd=>hd.2 (by rw[nx.2.2.1,st_N];exact hxm)
 have hDn:∀j,(stA dss (flushA a c ((sysW dss).pl x) x rest) τ').D (sysW dss) j↔(stA dss a τ).D (sysW dss) j∨j=x:=by
  intro j;have:=D_flush (t:=Tm) I (c:=(c:Int)) (x:=x) (rest:=rest) (by rw[st_N];exact hN) j;rw[←this];have hXX:(stA dss (flushA a c ((sysW dss).pl x) x rest) τ').X j↔((stA dss a τ).doFlush (sysW dss) Tm (c:Int) x rest).X j:=Iff.rfl
  have hNN:∀c',(stA dss (flushA a c ((sysW dss).pl x) x rest) τ').N c'=((stA dss a τ).doFlush (sysW dss) Tm (c:Int) x rest).N c':=by
   intro c';show (if 0≤c' then (if c'.toNat=c then rest else a.N c'.toNat) else [])=if c'=(c:Int) then rest else (if 0≤c' then a.N c'.toNat else [])
   by_cases h0:0≤c'
   ·
    rw[if_pos h0];by_cases e:c'=(c:Int)
    · subst e;simp
    · rw[if_neg (by omega),if_neg e,if_pos h0]
   · rw[if_neg h0,if_neg (by omega),if_neg h0]
  unfold AbsSt.D;rw[hXX,hNN]
 refine⟨_,τ',_,⟨M',fun j hj=>?_,?_,fun r hr hrd=>C.fo r hr hrd⟩,rfl,fun _=>rfl⟩
 ·
  rw[hDn,idle_dq hb C hj];constructor
  ·
   rintro (h|h)
   · exact .inl (.inl h)
   · exact .inl (.inr (by rw[h]))
  ·
   rintro ((h|h)|h)
   · exact .inl h
   · exact .inr (note_cls hb C.mi hxm hj h.symm)
   · have:=cs_nat hb hj;omega
 ·
  refine ro_snoc C.ro (fun y hy=>?_);obtain⟨d1,d2,d3⟩:=(I.rows _ y).1 hy;have hyn:=I.lt y d1.1;have hne:y≠x:=fun e=>hxD (by rw[←e];exact d1)
  rcases row_pair T hyn hxn d2 nx.2.2.2 d3 hne with h|h
  · exact h
  ·
   exfalso;have hcs:(sysW dss).cs x≠(sysW dss).cs y:=fun e=>hne (note_cls hb C.mi hxm hyn e)
   exact hxD ((idle_dq hb C hxn).2 (F.cl x y hxn hyn (sw_row T hxn h) hcs (.inl ((idle_dq hb C hyn).1 d1))))
theorem CI_one {dss:List (List Dd)}{f rows:List Int}{Q:Int→Prop}{κ:Int}{b:Bd}{a:Ab}{τ:Nat→Nat}{Tm:Nat}(F:Front dss f rows Q κ)(C:CI dss f rows Q κ b a τ Tm κ)(hT:1≤Tm){c:Nat}(hc:c<dss.length)(hk:a.nx c<(dss.getD c []).length)
  (hκ:clsD dss c (a.nx c)=κ) (h4:(dAt dss c (a.nx c)).1≠4) (h2:(dAt dss c (a.nx c)).1=2→gAt dss c (a.nx c)≠0) (hcan:((dAt dss c (a.nx c)).1=1∧gAt dss c (a.nx c)=0)∨a.N c=[]):
  ∃a' τ',CI dss f rows Q κ (oneM dss (eventsB dss) b c) a' τ' Tm κ∧a'.nx=(bumpA a c).nx∧a'.N=a.N:=by
 have hb:=(told_of (each_parts (slow_each F.slow)).1).work;have hkd:=okD_kindE (okC_of hb hc _ hk);rcases hkd with h|h|h|h
 · exact CI_read F C hT hc hk h hκ (hcan.imp (fun h=>h.2) id)
 · exact CI_ink F C hT hc hk h (h2 h) hκ (hcan.resolve_left (fun h'=>by omega))
 · exact CI_swap F C hT hc hk h hκ (hcan.resolve_left (fun h'=>by omega))
 · exact absurd h h4
theorem CI_go {dss:List (List Dd)}{f rows:List Int}{Q:Int→Prop}{κ:Int}(F:Front dss f rows Q κ){c:Nat}(hc:c<dss.length)(g:Int){Tm:Nat}(hT:1≤Tm):∀(m:Nat) (b:Bd) (a:Ab) (τ:Nat→Nat),CI dss f rows Q κ b a τ Tm κ→a.nx c<(dss.getD c []).length→(dss.getD c []).length≤a.nx c+m→gAt dss c (a.nx c)=g →
  clsD dss c (a.nx c)=κ→(dAt dss c (a.nx c)).1≠4→((dAt dss c (a.nx c)).1=2→gAt dss c (a.nx c)≠0)→(((dAt dss c (a.nx c)).1=1∧gAt dss c (a.nx c)=0)∨a.N c=[]) →
  ∃a' τ',CI dss f rows Q κ (goM dss (eventsB dss) g c m b) a' τ' Tm κ∧a.nx c<a'.nx c∧(∀c',c'≠c→a'.nx c'=a.nx c')∧a'.N=a.N∧(∀k,a.nx c≤k→k<a'.nx c→k=a.nx c∨gAt dss c k=g)∧(g=0∨a'.nx c=(dss.getD c []).length∨gAt dss c (a'.nx c)≠g)
 | 0,b,a,τ,C,hk,hm,_,_,_,_,_=>by omega
 |m+1,b,a,τ,C,hk,hm,hg,hκ,h4,h2,hcan=>by
  have hb:=(told_of (each_parts (slow_each F.slow)).1).work;obtain⟨a1,τ1,C1,e1,e2⟩:=CI_one F C hT hc hk hκ h4 h2 hcan;have hn1:a1.nx c=a.nx c+1:=by rw[e1,nx_bump,if_pos rfl]
  have ho1:∀c',c'≠c→a1.nx c'=a.nx c':=fun c' h=>by rw[e1,nx_bump,if_neg h]
  rw[goM,(nx_at C1.mi.rep hc).2,hn1];by_cases hs:g=0∨a.nx c+1=(dss.getD c []).length∨gAt dss c (a.nx c+1)≠g
  ·
   rw[if_pos hs];refine⟨a1,τ1,C1,by omega,ho1,e2,fun k h1 h2 => .inl (by omega),?_⟩;rw[hn1];exact hs
  ·
   rw[if_neg hs];have hs0:¬g=0:=fun h=>hs (.inl h)
   have hs1:¬a.nx c+1=(dss.getD c []).length:=fun h=>hs (.inr (.inl h))
   have hs2:gAt dss c (a.nx c+1)=g:=Classical.byContradiction (fun h=>hs (.inr (.inr h)));have hl:=C1.mi.nxl c hc;have hk1:a.nx c+1<(dss.getD c []).length:=by omega
   have hok:=okC_of hb hc;have n2:=num_grp hok hk1 (by rw[hs2];exact hs0);have hcl:clsD dss c (a.nx c+1)=clsD dss c (a.nx c):=(cls_iff hok hok hk1 hk n2.1 h4).2 ⟨rfl,.inr ⟨by rw[hs2];exact hs0,by rw[hs2,hg]⟩⟩;have hN0:a.N c=[]:=hcan.resolve_left (fun h=>hs0 (by rw[←hg];exact h.2));obtain⟨a',τ',C',q1,q2,q3,q4,q5⟩:=CI_go F hc g hT m (oneM dss (eventsB dss) b c) a1 τ1 C1 (by omega) (by omega) (by rw[hn1];exact hs2) (by rw[hn1,hcl];exact hκ) (by rw[hn1];exact n2.1) (by rw[hn1,hs2];exact fun _=>hs0) (.inr (by rw[e2];exact hN0));refine⟨a',τ',C',by omega,fun c' h=>by rw[q2 c' h,ho1 c' h],by rw[q3,e2],fun k h1 h2=>?_,q5⟩;by_cases ek:k=a.nx c
   · exact .inl ek
   ·
    refine .inr ?_;rcases q4 k (by omega) h2 with h|h
    · rw[h,hn1];exact hs2
    · exact h
theorem CI_class {dss:List (List Dd)}{f rows:List Int}{Q:Int→Prop}{b:Bd}{a:Ab}{τ:Nat→Nat}{Tm:Nat}{z:Int}{c:Nat}(F:Front dss f rows Q (clsD dss c (a.nx c)))(C:Idle dss f rows Q b a τ Tm z)(hc:c<dss.length)(hk:a.nx c<(dss.getD c []).length)(hfirst:clsD dss c (a.nx c)=(offN dss c (a.nx c):Int))
  (h4:(dAt dss c (a.nx c)).1≠4) (h2:(dAt dss c (a.nx c)).1=2→gAt dss c (a.nx c)≠0) (hcan:((dAt dss c (a.nx c)).1=1∧gAt dss c (a.nx c)=0)∨a.N c=[]):
  ∃a' τ' z',Idle dss f rows (fun y=>Q y∨y=clsD dss c (a.nx c)) (stepM dss (eventsB dss) b (c:Int)) a' τ' (Tm+1) z'∧(∀c',c'≠c→a'.nx c'=a.nx c')∧a'.N=a.N:=by
 have he:=slow_each F.slow;have T:=told_of (each_parts he).1;have hb:=T.work
 have hl3:dss.length≤3:=by
  have hb':=hb;simp only[workB,Bool.and_eq_true,decide_eq_true_eq] at hb';exact hb'.1.1.1.1.2
 have hok:=okC_of hb hc;have E:=ev_first hc hk h4
 have hno:∀j,j<(eventsB dss).length→(sysW dss).cs j=clsD dss c (a.nx c)→∃k i,EvIs dss j c k i∧a.nx c≤k∧(k=a.nx c∨(gAt dss c k≠0∧gAt dss c k=gAt dss c (a.nx c))):=by
  intro j hj e
  have h3:3≤j:=by
   apply Classical.byContradiction;intro hn;have e2:=(beg_place hb (show j<3 by omega)).2.2.1;have:=cls_three hb hc hk h4;change csE ((eventsB dss).getD j zE)=_ at e;omega
  obtain⟨c',k',i',E'⟩:=ev_dec hb h3 hj;rw[(sys_at hb E').2.2.2] at e;obtain⟨rfl,hq⟩:=(cls_iff (okC_of hb E'.hc) hok E'.hk hk E'.kind h4).1 e;refine⟨k',i',E',?_,hq⟩;apply Classical.byContradiction;intro hlt
  have hlo:clsD dss c' k'≤(offN dss c' k':Int):=by
   rcases cls_at hok E'.hk E'.kind with ⟨_,e1⟩|⟨_,jj,j1,_,_,e1⟩
   · omega
   · have:=off_le dss c' j1;omega
  have:=off_lt (c':=c') (k':=a.nx c') E'.hk (.inr ⟨rfl,by omega⟩);have:=num_pos E'.kind;omega
 have C1:CI dss f rows Q (clsD dss c (a.nx c)) b a τ (Tm+1) (clsD dss c (a.nx c)):=by
  have C0:=CI_tick C (clsD dss c (a.nx c)) (fun i hi h3 e=>F.new (by rw[←e];exact (idle_dq hb C hi.1.1).1 hi));refine⟨C0.mi,fun j hj=>?_,C0.ro,C0.fo⟩;rw[idle_dq hb C hj];constructor
  · exact fun h => .inl h
  ·
   rintro (h|⟨h1,h2'⟩)
   · exact h
   ·
    exfalso;obtain⟨k,i,E',hle,_⟩:=hno j hj h1;have:=h2'.2;rw[ex_at hb E',decide_eq_true_eq] at this;omega
 have hst:stepM dss (eventsB dss) b (c:Int)=goM dss (eventsB dss) (gAt dss c (a.nx c)) c (dss.getD c []).length b:=by
  unfold stepM;rw[if_neg (by omega),Int.toNat_natCast,(nx_at C.mi.rep hc).2]
 rw[hst];obtain⟨a',τ',C',q1,q2,q3,q4,q5⟩:=CI_go F hc (gAt dss c (a.nx c)) (Tm:=Tm+1) (by omega) (dss.getD c []).length b a τ C1 hk (by omega) rfl rfl h4 h2 hcan;refine⟨a',τ',_,⟨C'.mi,fun j hj=>?_,C'.ro,C'.fo⟩,q2,q3⟩;rw[C'.dq j hj];constructor
 ·
  rintro (h|h)
  · exact .inl (.inl h)
  · exact .inl (.inr h.1)
 ·
  rintro ((h|h)|h)
  · exact .inl h
  ·
   refine .inr ⟨h,hj,?_⟩;obtain⟨k,i,E',hle,hq⟩:=hno j hj h;rw[ex_at hb E',decide_eq_true_eq];apply Classical.byContradiction;intro hge;rcases hq with hq|⟨g1,g2⟩
   · omega
   ·
    rcases q5 with q5|q5|q5
    · exact g1 (by rw[g2,q5])
    · have:=E'.hk;omega
    · exact q5 (by rw[←g2];exact grp_between hb hc (j:=a.nx c) (k:=a'.nx c) (l:=k) (by omega) (by omega) E'.hk g1 g2.symm)
  · have:=cs_nat hb hj;omega
def sumN (f:Nat→Nat):Nat→Nat
 | 0=>0
 |m+1=>sumN f m+f m
theorem sum_same {f g:Nat→Nat}:∀m:Nat,(∀c,c<m→f c=g c)→sumN f m=sumN g m
 | 0,_=>rfl
 |m+1,h=>by rw[sumN,sumN,sum_same m (fun c hc=>h c (by omega)),h m (by omega)]
theorem sum_less {f g:Nat→Nat}{c:Nat}(h1:f c+1≤g c)(h2:∀c',c'≠c→f c'=g c'):∀m:Nat,c<m→sumN f m+1≤sumN g m
 | 0,h=>by omega
 |m+1,h=>by
  rw[sumN,sumN];by_cases e:c=m
  ·
   subst e;rw[sum_same c (fun c' hc=>h2 c' (by omega))];omega
  ·
   have:=sum_less h1 h2 m (by omega);rw[h2 m (fun h=>e h.symm)];omega
def leftM (dss:List (List Dd))(b:Bd)(c:Nat):Nat:=2*((dss.getD c []).length-nxN b c)+(b.nts.getD c []).length
def mesM (dss:List (List Dd))(b:Bd):Nat:=sumN (leftM dss b) dss.length
def LN (dss:List (List Dd))(b:Bd):Prop:=b.nxt.length=dss.length∧b.nts.length=dss.length
theorem getD_setL {α:Type}(l:List α)(z x:α)(i j:Nat)(hi:i<l.length):(l.set i x).getD j z=if i=j then x else l.getD j z:=by
 rw[List.getD_eq_getElem?_getD,List.getElem?_set];by_cases e:i=j
 · subst e;rw[if_pos rfl,if_pos hi,if_pos rfl];rfl
 · rw[if_neg e,if_neg e,List.getD_eq_getElem?_getD]
theorem deed_nts (dss:List (List Dd))(es:List Ev)(b:Bd)(c k:Nat):(deedM dss es b c k).nxt=b.nxt∧((deedM dss es b c k).nts=b.nts∨∃x,(deedM dss es b c k).nts=b.nts.set c (b.nts.getD c []++[x])):=by
 unfold deedM;split
 · exact⟨rfl,.inl rfl⟩
 ·
  split
  · exact⟨rfl,.inl rfl⟩
  ·
   split
   · exact⟨rfl,.inl rfl⟩
   ·
    split
    · exact⟨rfl,.inr ⟨_,rfl⟩⟩
    · exact⟨rfl,.inl rfl⟩
theorem nx_one {dss:List (List Dd)}{es:List Ev}{b:Bd}(hL:LN dss b)(h0:∀c,0≤b.nxt.getD c 0){c:Nat}(hc:c<dss.length):(∀c',nxN (oneM dss es b c) c'=if c=c' then nxN b c+1 else nxN b c')∧∀c',0≤(oneM dss es b c).nxt.getD c' 0:=by
 have e:∀c',(oneM dss es b c).nxt.getD c' 0=if c=c' then b.nxt.getD c 0+1 else b.nxt.getD c' 0:=fun c'=>by
  show (b.nxt.set c (b.nxt.getD c 0+1)).getD c' 0=_;rw[getD_setL _ _ _ _ _ (by rw[hL.1];exact hc)]
 constructor
 ·
  intro c';unfold nxN;rw[e];split
  · have:=h0 c;omega
  · rfl
 ·
  intro c';rw[e];split
  · have:=h0 c;omega
  · exact h0 c'
theorem mes_one {dss:List (List Dd)}{es:List Ev}{b:Bd}(hL:LN dss b)(h0:∀c,0≤b.nxt.getD c 0){c:Nat}(hc:c<dss.length)(hk:nxN b c<(dss.getD c []).length):mesM dss (oneM dss es b c)+1≤mesM dss b∧LN dss (oneM dss es b c)∧∀c',0≤(oneM dss es b c).nxt.getD c' 0:=by
 obtain⟨hn,h0'⟩:=nx_one (es:=es) hL h0 hc;obtain⟨_,hd⟩:=deed_nts dss es b c (nxN b c)
 have hnts:(∀c',c'≠c→(oneM dss es b c).nts.getD c' []=b.nts.getD c' [])∧((oneM dss es b c).nts.getD c []).length≤(b.nts.getD c []).length+1∧(oneM dss es b c).nts.length=b.nts.length:=by
  have e:(oneM dss es b c).nts=(deedM dss es b c (nxN b c)).nts:=rfl;rw[e];rcases hd with hd|⟨x,hd⟩
  · rw[hd];exact⟨fun _ _=>rfl,by omega,rfl⟩
  ·
   rw[hd];refine⟨fun c' h=>?_,?_,by rw[List.length_set]⟩
   · rw[getD_setL _ _ _ _ _ (by rw[hL.2];exact hc),if_neg (fun h2=>h h2.symm)]
   · rw[getD_setL _ _ _ _ _ (by rw[hL.2];exact hc),if_pos rfl,List.length_append];simp
 refine⟨sum_less (c:=c) ?_ (fun c' h=>?_) _ hc,⟨?_,?_⟩,h0'⟩
 ·
  unfold leftM;rw[hn,if_pos rfl];have:=hnts.2.1;omega
 ·
  unfold leftM;rw[hn,if_neg (fun h2=>h h2.symm),hnts.1 c' h]
 ·
  show (b.nxt.set c _).length=_;rw[List.length_set];exact hL.1
 · rw[hnts.2.2];exact hL.2
theorem mes_go {dss:List (List Dd)}{es:List Ev}(g:Int){c:Nat}(hc:c<dss.length):∀(m:Nat) (b:Bd),LN dss b→(∀c,0≤b.nxt.getD c 0)→1≤m→nxN b c<(dss.getD c []).length→(dss.getD c []).length≤nxN b c+m →
  mesM dss (goM dss es g c m b)+1≤mesM dss b∧LN dss (goM dss es g c m b)∧∀c',0≤(goM dss es g c m b).nxt.getD c' 0
 | 0,_,_,_,h,_,_=>by omega
 |m+1,b,hL,h0,_,hk,hm=>by
  have h1:=mes_one (es:=es) hL h0 hc hk;have hn:=(nx_one (es:=es) hL h0 hc).1 c;rw[if_pos rfl] at hn;rw[goM];split
  · exact h1
  ·
   rename_i hs;have hs1:¬nxN (oneM dss es b c) c=(dss.getD c []).length:=fun h=>hs (.inr (.inl h))
   have h2:=mes_go (es:=es) g hc m (oneM dss es b c) h1.2.1 h1.2.2 (by omega) (by omega) (by omega);exact⟨by omega,h2.2⟩
theorem mes_flush {dss:List (List Dd)}{b:Bd}(hL:LN dss b)(h0:∀c,0≤b.nxt.getD c 0){c:Nat}(hc:c<dss.length)(hne:b.nts.getD c []≠[]):mesM dss (flushM b c)+1≤mesM dss b∧LN dss (flushM b c)∧∀c',0≤(flushM b c).nxt.getD c' 0:=by
 unfold flushM
 cases hq:b.nts.getD c [] with
 |nil=>exact absurd hq hne
 |cons x r=>
  have e:∀c',(b.nts.set c r).getD c' []=if c=c' then r else b.nts.getD c' []:=fun c'=>getD_setL _ _ _ _ _ (by rw[hL.2];exact hc)
  refine⟨sum_less (c:=c) ?_ (fun c' h=>?_) _ hc,⟨hL.1,?_⟩,h0⟩
  ·
   show 2*((dss.getD c []).length-nxN b c)+((b.nts.set c r).getD c []).length+1≤2*((dss.getD c []).length-nxN b c)+(b.nts.getD c []).length;rw[e,if_pos rfl,hq];simp only[List.length_cons];omega
  ·
   show 2*((dss.getD c' []).length-nxN b c')+((b.nts.set c r).getD c' []).length=2*((dss.getD c' []).length-nxN b c')+(b.nts.getD c' []).length;rw[e,if_neg (fun h2=>h h2.symm)]
  ·
   show (b.nts.set c r).length=_;rw[List.length_set];exact hL.2
theorem mes_step {dss:List (List Dd)}(hb:workB dss=true){es:List Ev}{b:Bd}(hL:LN dss b)(h0:∀c,0≤b.nxt.getD c 0){s:Int}(hs:isB (possM dss b) s=true):mesM dss (stepM dss es b s)+1≤mesM dss b∧LN dss (stepM dss es b s)∧∀c',0≤(stepM dss es b s).nxt.getD c' 0:=by
 have hl3:dss.length≤3:=by
  simp only[workB,Bool.and_eq_true,decide_eq_true_eq] at hb;exact hb.1.1.1.1.2
 have hm:=isB_mem hs;unfold possM at hm;rw[List.mem_append,List.mem_map,List.mem_map] at hm;rcases hm with ⟨c,hc,e⟩|⟨c,hc,e⟩
 ·
  rw[List.mem_filter,List.mem_range] at hc;obtain⟨hc,hcan⟩:=hc;unfold canM at hcan;simp only[Bool.and_eq_true,decide_eq_true_eq] at hcan;unfold stepM;rw[if_neg (by omega),show s.toNat=c by omega];exact mes_go _ hc _ b hL h0 (by omega) hcan.1 (by omega)
 ·
  rw[List.mem_filter,List.mem_range] at hc;obtain⟨hc,hne⟩:=hc;unfold stepM;rw[if_pos (by omega),show (s-10).toNat=c by omega];refine mes_flush hL h0 hc (fun h=>?_);rw[h] at hne;simp at hne
theorem sum_len (dss:List (List Dd)):sumN (fun c=>(dss.getD c []).length) dss.length=lenW dss:=by
 have h:∀(l:List (List Dd)) (m:Nat),m≤l.length→sumN (fun c=>(l.getD c []).length) m=lenW (l.take m):=by
  intro l m
  induction m with
  |zero=>intro _;simp[sumN,lenW]
  |succ m ih=>
   intro hm;rw[sumN,ih (by omega),List.take_add_one,List.getElem?_eq_getElem (by omega),List.getD_eq_getElem?_getD,List.getElem?_eq_getElem (by omega)];simp only[Option.toList_some,Option.getD_some]
   have:∀(x:List (List Dd)) (d:List Dd),lenW (x++[d])=lenW x+d.length:=by
    intro x d
    induction x with
    |nil=>simp[lenW]
    |cons y x ih=>rw[List.cons_append,lenW,ih,lenW];omega
   rw[this]
 have:=h dss dss.length (Nat.le_refl _);rw[List.take_length] at this;exact this
theorem mes_new {dss:List (List Dd)}(hb:workB dss=true):mesM dss (newM dss)≤24∧LN dss (newM dss)∧∀c',0≤(newM dss).nxt.getD c' 0:=by
 have h12:lenW dss≤12:=by
  simp only[workB,Bool.and_eq_true,decide_eq_true_eq] at hb;exact hb.1.1.2
 have h0:∀c',(newM dss).nxt.getD c' 0=0:=fun c'=>by
  show (List.replicate dss.length (0:Int)).getD c' 0=0;rw[List.getD_eq_getElem?_getD,List.getElem?_replicate];split<;>rfl
 refine⟨?_,⟨by show (List.replicate _ _).length=_;simp,by show (List.replicate _ _).length=_;simp⟩,fun c'=>by rw[h0];omega⟩
 have e:∀m:Nat,sumN (leftM dss (newM dss)) m=2*sumN (fun c=>(dss.getD c []).length) m:=by
  intro m
  induction m with
  |zero=>rfl
  |succ m ih=>
   rw[sumN,sumN,ih]
   have:leftM dss (newM dss) m=2*(dss.getD m []).length:=by
    unfold leftM nxN;rw[h0]
    have:(newM dss).nts.getD m []=[]:=by
     show (List.replicate dss.length ([]:List Nt)).getD m []=[];rw[List.getD_eq_getElem?_getD,List.getElem?_replicate];split<;>rfl
    rw[this];simp
   rw[this];omega
 unfold mesM;rw[e,sum_len];omega
end Go.Proofs.YtkmjmnljkidobaaGreat
