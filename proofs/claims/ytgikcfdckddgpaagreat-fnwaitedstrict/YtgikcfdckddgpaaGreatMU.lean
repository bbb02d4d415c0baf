/- Gathered texts. -/
import Derived.Test.YtgikcfdckddgpaaGreatMT
import Derived.Test.YtgikcfdckddgpaaGreatMD
import Derived.Maps.AppendAt
import Derived.Laws.OwnMore
import Derived.OwnWalk
import Derived.Orders
set_option maxRecDepth 100000
set_option maxHeartbeats 8000000
namespace Go.Proofs.YtgikcfdckddgpaaGreat
open Go.ChangeShapes Go.WideShapes Go.ChangeAt Go.RowKit
open Go.RowKit
theorem one_sim {dss:List (List Dd)}(hb:workB dss=true){b:Bd}{a:Ab}{τ:Nat→Nat}{T:Nat}{z:Int}(M:MI dss b a τ T z)(hT:1≤T){c:Nat}(hc:c<dss.length)(hk:a.nx c<(dss.getD c []).length)
  (hz:(dAt dss c (a.nx c)).1≠4→clsD dss c (a.nx c)=z) (hcan:((dAt dss c (a.nx c)).1≤2∧gAt dss c (a.nx c)=0)∨a.N c=[]):
  ∃a' τ',MI dss (oneM dss (eventsB dss) b c) a' τ' T z∧a'.nx=(bumpA a c).nx∧(gAt dss c (a.nx c)≠0→a'.N c=[]):=by
 have hkd:=okD_kindE (okC_of hb hc _ hk);rcases hkd with h|h|h|h
 ·
  obtain⟨f,τ',_,h1⟩:=oneM_read hb M hT hc hk h (hz (by omega)) (hcan.imp (fun h=>h.2) id);exact⟨_,τ',h1,rfl,fun hg=>hcan.resolve_left (fun h=>hg h.2)⟩
 ·
  by_cases hg:gAt dss c (a.nx c)=0
  · exact⟨_,τ,oneM_note hb M hc hk h hg,rfl,fun h=>absurd hg h⟩
  ·
   have hN:=hcan.resolve_left (fun h=>hg h.2);obtain⟨τ',h1⟩:=oneM_ink hb M hT hc hk h hg (hz (by omega)) hN;exact⟨_,τ',h1,rfl,fun _=>hN⟩
 ·
  have hN:=hcan.resolve_left (fun h=>by omega);obtain⟨τ',h1⟩:=oneM_swap hb M hT hc hk h (hz (by omega)) hN;exact⟨_,τ',h1,rfl,fun _=>hN⟩
 ·
  have hN:=hcan.resolve_left (fun h=>by omega);exact⟨bumpA a c,τ,oneM_wait hb M hc hk h hN,rfl,fun _=>hN⟩
def BD (dss:List (List Dd))(a:Ab):Prop:=∀c,c<dss.length→0<a.nx c→a.nx c<(dss.getD c []).length→gAt dss c (a.nx c)≠0→gAt dss c (a.nx c-1)≠gAt dss c (a.nx c)
theorem go_sim {dss:List (List Dd)}(hb:workB dss=true){c:Nat}(hc:c<dss.length)(g:Int){T:Nat}(hT:1≤T){z:Int}:∀(m:Nat) (b:Bd) (a:Ab) (τ:Nat→Nat),MI dss b a τ T z→a.nx c<(dss.getD c []).length→(dss.getD c []).length≤a.nx c+m→gAt dss c (a.nx c)=g →
  ((dAt dss c (a.nx c)).1≠4→clsD dss c (a.nx c)=z)→(((dAt dss c (a.nx c)).1≤2∧gAt dss c (a.nx c)=0)∨a.N c=[]) →
  ∃a' τ',MI dss (goM dss (eventsB dss) g c m b) a' τ' T z∧a.nx c<a'.nx c∧(∀c',c'≠c→a'.nx c'=a.nx c')∧(a'.nx c<(dss.getD c []).length→gAt dss c (a'.nx c)≠0→gAt dss c (a'.nx c-1)≠gAt dss c (a'.nx c))
 | 0,b,a,τ,M,hk,hm,_,_,_=>by omega
 |m+1,b,a,τ,M,hk,hm,hg,hz,hcan=>by
  obtain⟨a1,τ1,M1,e1,e2⟩:=one_sim hb M hT hc hk hz hcan;have hn1:a1.nx c=a.nx c+1:=by rw[e1,nx_bump,if_pos rfl]
  have ho1:∀c',c'≠c→a1.nx c'=a.nx c':=fun c' h=>by rw[e1,nx_bump,if_neg h]
  rw[goM,(nx_at M1.rep hc).2,hn1];by_cases hs:g=0∨a.nx c+1=(dss.getD c []).length∨gAt dss c (a.nx c+1)≠g
  ·
   rw[if_pos hs];refine⟨a1,τ1,M1,by omega,ho1,?_⟩;rw[hn1];intro hl hg0;rw[show a.nx c+1-1=a.nx c by omega,hg];rcases hs with hs|hs|hs
   · rw[hs];exact fun e=>hg0 e.symm
   · omega
   · exact fun e=>hs e.symm
  ·
   rw[if_neg hs];have hs0:¬g=0:=fun h=>hs (.inl h)
   have hs1:¬a.nx c+1=(dss.getD c []).length:=fun h=>hs (.inr (.inl h))
   have hs2:gAt dss c (a.nx c+1)=g:=Classical.byContradiction (fun h=>hs (.inr (.inr h)));have hl:=M1.nxl c hc;have hk1:a.nx c+1<(dss.getD c []).length:=by omega
   have hok:=okC_of hb hc;have n1:=num_grp hok hk (by rw[hg];exact hs0);have n2:=num_grp hok hk1 (by rw[hs2];exact hs0);have hcl:clsD dss c (a.nx c+1)=clsD dss c (a.nx c):=(cls_iff hok hok hk1 hk n2.1 n1.1).2 ⟨rfl,.inr ⟨by rw[hs2];exact hs0,by rw[hs2,hg]⟩⟩;obtain⟨a',τ',M',q1,q2,q3⟩:=go_sim hb hc g hT m (oneM dss (eventsB dss) b c) a1 τ1 M1 (by omega) (by omega) (by rw[hn1];exact hs2) (by rw[hn1,hcl];exact fun _=>hz n1.1) (.inr (e2 (by rw[hg];exact hs0)));exact⟨a',τ',M',by omega,fun c' h=>by rw[q2 c' h,ho1 c' h],q3⟩
theorem cs_big {dss:List (List Dd)}(hb:workB dss=true){a:Ab}{τ:Nat→Nat}{i:Nat}(hi:(stA dss a τ).D (sysW dss) i)(h3:3≤i):∃c k i',EvIs dss i c k i'∧k<a.nx c∧(sysW dss).cs i=clsD dss c k∧3≤clsD dss c k:=by
 obtain⟨c,k,i',E⟩:=ev_dec hb h3 hi.1.1;have hX:=hi.1.2;rw[ex_at hb E,decide_eq_true_eq] at hX;exact⟨c,k,i',E,hX,(sys_at hb E).2.2.2,cls_three hb E.hc E.hk E.kind⟩
theorem step_sim {dss:List (List Dd)}(hb:workB dss=true){b:Bd}{a:Ab}{τ:Nat→Nat}{T:Nat}{z:Int}(M:MI dss b a τ T z)(B:BD dss a){s:Int}(hs:isB (possM dss b) s=true):
  ∃a' τ' z',MI dss (stepM dss (eventsB dss) b s) a' τ' (T+1) z'∧BD dss a':=by
 have hm:=isB_mem hs;unfold possM at hm;rw[List.mem_append,List.mem_map,List.mem_map] at hm;rcases hm with ⟨c,hc,e⟩|⟨c,hc,e⟩
 ·
  rw[List.mem_filter,List.mem_range] at hc;obtain⟨hc,hcan⟩:=hc
  have hl3:dss.length≤3:=by
   simp only[workB,Bool.and_eq_true,decide_eq_true_eq] at hb;exact hb.1.1.1.1.2
  unfold canM at hcan;rw[(nx_at M.rep hc).2,nts_at M.rep hc] at hcan;simp only[Bool.and_eq_true,Bool.or_eq_true,decide_eq_true_eq,List.isEmpty_iff,List.map_eq_nil_iff] at hcan;obtain⟨hk,hcan⟩:=hcan;have hok:=okC_of hb hc
  have M1:MI dss b a τ (T+1) (if (dAt dss c (a.nx c)).1=4 then -1 else clsD dss c (a.nx c)):=by
   refine⟨M.rep,M.inv.tick _ (fun i hi h3 e=>?_),M.nxl,M.nt⟩;obtain⟨c',k',i',E,hX,e1,e2⟩:=cs_big hb hi h3;rw[e1] at e;split at e
   · omega
   ·
    rename_i h4;obtain⟨rfl,hq⟩:=(cls_iff (okC_of hb E.hc) hok E.hk hk E.kind h4).1 e;rcases hq with hq|⟨g1,g2⟩
    · omega
    ·
     have h0:gAt dss c' (a.nx c')≠0:=by rw[←g2];exact g1
     refine B c' hc (by omega) hk h0 ?_;exact grp_between hb hc (j:=k') (k:=a.nx c'-1) (l:=a.nx c') (by omega) (by omega) hk h0 g2
  have hst:stepM dss (eventsB dss) b s=goM dss (eventsB dss) (gAt dss c (a.nx c)) c (dss.getD c []).length b:=by
   unfold stepM;rw[if_neg (by omega),show s.toNat=c by omega,(nx_at M.rep hc).2]
  rw[hst];obtain⟨a',τ',M',q1,q2,q3⟩:=go_sim hb hc (gAt dss c (a.nx c)) (T:=T+1) (by omega) (dss.getD c []).length b a τ M1 hk (by omega) rfl (fun h=>by rw[if_neg h]) hcan;refine⟨a',τ',_,M',fun c' hc' h0 hl hg=>?_⟩;by_cases e:c'=c
  · subst e;exact q3 hl hg
  ·
   rw[q2 c' e] at h0 hl hg ⊢;exact B c' hc' h0 hl hg
 ·
  rw[List.mem_filter,List.mem_range] at hc;obtain⟨hc,hne⟩:=hc;rw[nts_at M.rep hc] at hne
  have hst:stepM dss (eventsB dss) b s=flushM b c:=by
   unfold stepM;rw[if_pos (by omega),show (s-10).toNat=c by omega]
  rw[hst]
  cases hN:a.N c with
  |nil=>rw[hN] at hne;simp at hne
  |cons x rest=>
   obtain⟨τ',M'⟩:=flush_sim hb M hc hN;exact⟨_,τ',_,M',fun c' hc'=>B c' hc'⟩
def newA:Ab:={ nx:=fun _=>0,N:=fun _=>[],R:=fun p=>if p<3 then [p] else [],F:=fun _=>0 }
theorem new_sim {dss:List (List Dd)}(hb:workB dss=true):MI dss (newM dss) newA (fun _=>0) 0 (-1)∧BD dss newA:=by
 have hX:∀j,(stA dss newA (fun _=>0)).X j↔j<3:=by
  intro j;show (j<(eventsB dss).length∧exA dss newA j=true)↔_;unfold exA newA;simp;have:=(beg_ev hb).1;omega
 have hN:∀c,(stA dss newA (fun _=>0)).N c=[]:=fun c=>by show (if 0≤c then [] else [])=[];split<;>rfl
 have hD:∀j,(stA dss newA (fun _=>0)).D (sysW dss) j↔j<3:=fun j=>by
  unfold AbsSt.D;rw[hX,hN];simp
 have hR:∀p,(stA dss newA (fun _=>0)).R p=if p<3 then [p] else []:=fun p=>rfl
 have hbeg:∀j,j<3→(sysW dss).rd j=false∧(sysW dss).pl j=j∧(sysW dss).ck j=-1∧(sysW dss).cs j=(j:Int):=by
  intro j hj;obtain⟨h1,h2,h3,h4⟩:=beg_place hb hj;refine⟨h2,?_,h4,h3⟩;show ((eventsB dss).getD j zE).2.2.2.1.toNat=j;rw[h1,Int.toNat_natCast]
 have hno:∀j,(stA dss newA (fun _=>0)).X j→¬ 3≤j:=fun j h1 h2=>by have:=(hX j).1 h1;omega
 refine⟨⟨?_,?_,fun c hc=>Nat.zero_le _,fun c x hx=>by cases hx⟩,fun c _ h=>absurd h (Nat.lt_irrefl _)⟩
 ·
  have hrep:∀(α:Type) (m:Nat) (x:α),List.replicate m x=(List.range m).map (fun _=>x):=by
   intro α m x;rw[List.map_const',List.length_range]
  have hrep2:∀(α β:Type) (l:List β) (x:α),List.replicate l.length x=l.map (fun _=>x):=by
   intro α β l x;rw[List.map_const']
  obtain⟨h3,b0,b1,b2⟩:=beg_ev hb;refine⟨hrep _ _ _,hrep _ _ _,rfl,rfl,?_,?_,?_⟩
  ·
   show [0,0,0]=(List.range 3).map (fun p=>vlN dss (lastA newA p));have e0:vlN dss 0=0:=by unfold vlN;rw[b0]
   have e1:vlN dss 1=0:=by unfold vlN;rw[b1]
   have e2:vlN dss 2=0:=by unfold vlN;rw[b2]
   have r3:List.range 3=[0,1,2]:=rfl;rw[r3];show [0,0,0]=[vlN dss 0,vlN dss 1,vlN dss 2];rw[e0,e1,e2]
  ·
   show List.replicate _ (-1)=_;rw[hrep2];refine List.map_congr_left (fun r hr=>?_);obtain⟨j,rfl,hj,hjr⟩:=rs_in (eventsB_12 dss) hr
   have:¬exA dss newA j=true:=by
    intro h;have h3:=(hX j).1 ⟨hj,h⟩;rw[(beg_place hb h3).2.1] at hjr;cases hjr
   rw[Int.toNat_natCast,if_neg this]
  ·
   show List.replicate _ (-1)=_;rw[hrep2];refine List.map_congr_left (fun r hr=>?_);obtain⟨j,rfl,hj,hjr⟩:=rs_in (eventsB_12 dss) hr
   have:¬exA dss newA j=true:=by
    intro h;have h3:=(hX j).1 ⟨hj,h⟩;rw[(beg_place hb h3).2.1] at hjr;cases hjr
   rw[Int.toNat_natCast,if_neg this]
 ·
  constructor;case beg=>exact fun j hj=>⟨(hX j).2 hj,(hbeg j hj).1,(hbeg j hj).2.1,(hbeg j hj).2.2.1,rfl,(hbeg j hj).2.2.2⟩
  case lt=>exact fun j hj=>hj.1
  case down=>exact fun i j hj h3 hij _=>absurd ((hX j).1 hj) (by omega)
  case note=>exact fun c x hx=>by rw[hN] at hx;cases hx
  case nord=>exact fun c=>by rw[hN];simp
  case pend=>exact fun c x j hx=>by rw[hN] at hx;cases hx
  case rows=>
   intro p x;rw[hR,hD];by_cases hp:p<3
   ·
    rw[if_pos hp];constructor
    ·
     intro hx;have e:x=p:=by simpa using hx
     subst e;exact⟨hp,(hbeg x hp).1,(hbeg x hp).2.1⟩
    ·
     rintro⟨h1,h2,h3⟩;rw[(hbeg x h1).2.1] at h3;simp[h3]
   ·
    rw[if_neg hp];constructor
    · intro hx;cases hx
    ·
     rintro⟨h1,h2,h3⟩;rw[(hbeg x h1).2.1] at h3;omega
  case rnod=>exact fun p=>by rw[hR];split<;>simp
  case rord=>exact fun p=>by rw[hR];split<;>simp
  case tle=>exact fun j _=>Nat.le_refl _
  case tpos=>exact fun j hj h3=>absurd h3 (hno j hj.1)
  case same=>exact fun i j hi _ h3=>absurd h3 (hno i hi.1)
  case mate=>exact fun i j hi _ h3=>absurd h3 (hno i hi.1)
  case now=>exact fun i hi h3=>absurd h3 (hno i hi.1)
  case kept=>exact fun i j hi _ h3=>absurd h3 (hno i hi.1)
  case src=>
   intro r hr hrd;rw[(hbeg r ((hX r).1 hr)).1] at hrd;cases hrd
  case agst=>
   intro r w p hr hrd;rw[(hbeg r ((hX r).1 hr)).1] at hrd;cases hrd
  case inL=>exact fun i hi h3=>absurd h3 (hno i hi)
  case coh=>exact fun i j hi _ h3=>absurd h3 (hno i hi)
  case cohw=>exact fun i j hi _ h3=>absurd h3 (hno i hi)
theorem run_sim {dss:List (List Dd)}(hb:workB dss=true):∀(steps:List Int) (b:Bd) (a:Ab) (τ:Nat→Nat) (T:Nat) (z:Int),MI dss b a τ T z→BD dss a→∃a' τ' T' z',MI dss (runM dss (eventsB dss) b steps) a' τ' T' z'∧BD dss a'
 | [],b,a,τ,T,z,M,B=>⟨a,τ,T,z,M,B⟩
 |s::r,b,a,τ,T,z,M,B=>by
  rw[runM];split
  ·
   rename_i hs;obtain⟨a',τ',z',M',B'⟩:=step_sim hb M B hs;exact run_sim hb r _ a' τ' _ z' M' B'
  · exact run_sim hb r b a τ T z M B
theorem sub_of_idx {l:List Int}{i q:Nat}(hi:i<q)(hq:q<l.length):[l.getD i 0,l.getD q 0].Sublist l:=by
 have h1:[l.getD i 0].Sublist (l.take q):=by
  rw[List.singleton_sublist,List.mem_take_iff_getElem];refine⟨i,by omega,?_⟩;rw[List.getD_eq_getElem?_getD,List.getElem?_eq_getElem (by omega)];rfl
 have h2:[l.getD q 0].Sublist (l.drop q):=by
  rw[List.singleton_sublist,List.mem_drop_iff_getElem];refine⟨0,by omega,?_⟩;rw[List.getD_eq_getElem?_getD,List.getElem?_eq_getElem hq];simp
 have:=h1.append h2
 rwa [List.take_append_drop] at this
theorem bef_idx {L:List Nat}(hn:L.Nodup){x y:Nat}(h:Bef L x y):L.idxOf x<L.idxOf y:=by
 induction L with
 |nil=>cases h
 |cons c L ih=>
  rw[List.nodup_cons] at hn
  have hxy:x≠y:=by
   have:=h.nodup (by rw[List.nodup_cons];exact hn);intro e;rw[e] at this;simp at this
  cases h with
  |cons _ h'=>
   have hm:=bef_mem h';have hx:c≠x:=fun e=>hn.1 (by rw[e];exact hm.1)
   have hy:c≠y:=fun e=>hn.1 (by rw[e];exact hm.2)
   rw[List.idxOf_cons,List.idxOf_cons,beq_eq_false_iff_ne.2 hx,beq_eq_false_iff_ne.2 hy];exact Nat.succ_lt_succ (ih hn.2 h')
  |cons_cons _ h'=>
   rw[List.idxOf_cons_self,List.idxOf_cons,beq_eq_false_iff_ne.2 hxy];exact Nat.succ_pos _
structure Fin (dss:List (List Dd))(a:Ab)(τ:Nat→Nat)(T:Nat)(z:Int)(b:Bd):Prop where
 inv:AInv (sysW dss) (stA dss a τ) T z
 rep:Rep dss b a
 none:∀c,(stA dss a τ).N c=[]
 all:∀j,j<(eventsB dss).length→(stA dss a τ).D (sysW dss) j
theorem fin_of {dss:List (List Dd)}(hb:workB dss=true){b:Bd}{a:Ab}{τ:Nat→Nat}{T:Nat}{z:Int}(M:MI dss b a τ T z)(he:endM dss b=true):Fin dss a τ T z b:=by
 unfold endM at he;rw[List.all_eq_true] at he
 have hc:∀c,c<dss.length→a.nx c=(dss.getD c []).length∧a.N c=[]:=by
  intro c hc;have h1:=he c (List.mem_range.2 hc);rw[(nx_at M.rep hc).2,nts_at M.rep hc] at h1;simp only[Bool.and_eq_true,decide_eq_true_eq,List.isEmpty_iff,List.map_eq_nil_iff] at h1;have:=M.nxl c hc;exact⟨by omega,h1.2⟩
 have hN:∀c,a.N c=[]:=by
  intro c;by_cases h:c<dss.length
  · exact (hc c h).2
  ·
   cases hN:a.N c with
   |nil=>rfl
   |cons x r=>exact absurd (M.nt c x (by rw[hN];simp)).1 h
 have hst:∀c,(stA dss a τ).N c=[]:=fun c=>by
  show (if 0≤c then a.N c.toNat else [])=[];split
  · exact hN _
  · rfl
 refine⟨M.inv,M.rep,hst,fun j hj=>⟨⟨hj,?_⟩,by rw[hst];simp⟩⟩;by_cases h3:j<3
 · unfold exA;simp[h3]
 ·
  obtain⟨c,k,i,E⟩:=ev_dec hb (by omega) hj;rw[ex_at hb E,decide_eq_true_eq,(hc c E.hc).1];exact E.hk
theorem Fin.frs {dss:List (List Dd)}{a:Ab}{τ:Nat→Nat}{T:Nat}{z:Int}{b:Bd}(h:Fin dss a τ T z b):b.fr=(idxB rdE (eventsB dss)).map (fun r=>(a.F r.toNat:Int))∧b.sn=(idxB rdE (eventsB dss)).map (fun r=>vlN dss (a.F r.toNat)):=by
 have hx:=eventsB_12 dss;rw[h.rep.fr,h.rep.sn]
 constructor <;>
 ·
  refine List.map_congr_left (fun r hr=>?_);obtain⟨j,rfl,hj,_⟩:=rs_in hx hr;rw[Int.toNat_natCast,if_pos (h.all j hj).1.2]
theorem Fin.rd {dss:List (List Dd)}{a:Ab}{τ:Nat→Nat}{T:Nat}{z:Int}{b:Bd}(h:Fin dss a τ T z b){i:Nat}(hi:i<(idxB rdE (eventsB dss)).length):∃r:Nat,r<(eventsB dss).length∧(idxB rdE (eventsB dss)).getD i 0=(r:Int)∧b.fr.getD i 0=(a.F r:Int)∧(sysW dss).rd r=true:=by
 have hx:=eventsB_12 dss;obtain⟨r,e,hr,hrd⟩:=rs_in hx (getD_mem hi);refine⟨r,hr,e,?_,hrd⟩;rw[h.frs.1,List.getD_eq_getElem?_getD,List.getElem?_map];rw[List.getD_eq_getElem?_getD,List.getElem?_eq_getElem hi] at e;rw[List.getElem?_eq_getElem hi];simp only[Option.getD_some] at e;simp[e]
theorem Fin.src {dss:List (List Dd)}{a:Ab}{τ:Nat→Nat}{T:Nat}{z:Int}{b:Bd}(hb:workB dss=true)(h:Fin dss a τ T z b):srcB (chcL (eventsB dss)) b.fr=true:=by
 have hx:=eventsB_12 dss;have hc:(chcL (eventsB dss)).length=(idxB rdE (eventsB dss)).length:=chcK_len _ _ _;unfold srcB;rw[Bool.and_eq_true,decide_eq_true_eq];refine⟨by rw[hc,h.frs.1,List.length_map],(srcK_iff _).2 (fun i hi=>?_)⟩;rw[hc] at hi;obtain⟨r,hr,e1,e2,e3⟩:=h.rd hi;obtain⟨q1,q2,q3,_⟩:=h.inv.src r (h.all r hr).1 e3;unfold chcL;rw[chcK_get _ _ _ _ hi,e1,e2];refine mem_isB ?_;unfold idxB;rw[if_pos hx];refine idxK_has _ _ ?_ _ (h.inv.lt _ q1);unfold toE plE;have p1:0≤((eventsB dss).getD (a.F r) zE).2.2.2.1∧((eventsB dss).getD (a.F r) zE).2.2.2.1≤2:=place_ev hb (h.inv.lt _ q1);have p2:=place_ev hb hr;have q3':((eventsB dss).getD (a.F r) zE).2.2.2.1.toNat=((eventsB dss).getD r zE).2.2.2.1.toNat:=q3;have q2':((eventsB dss).getD (a.F r) zE).2.2.1=false:=q2;rw[q2',Int.toNat_natCast];have:((eventsB dss).getD (a.F r) zE).2.2.2.1=((eventsB dss).getD r zE).2.2.2.1:=by omega
 rw[this];simp
theorem Fin.head {dss:List (List Dd)}{a:Ab}{τ:Nat→Nat}{T:Nat}{z:Int}{b:Bd}(h:Fin dss a τ T z b){p:Nat}(hp:p<3):(a.R p).head? = some p:=by
 obtain⟨h1,h2,h3,h4,h5,h6⟩:=h.inv.beg p hp;have hm:p∈a.R p:=(h.inv.rows p p).2 ⟨h.all p (h.inv.lt p h1),h2,h3⟩;have ho:=h.inv.rord p
 cases hl:a.R p with
 |nil=>rw[hl] at hm;cases hm
 |cons x r=>
  change (a.R p).Pairwise _ at ho;rw[hl] at ho hm;rw[List.pairwise_cons] at ho;rcases List.mem_cons.1 hm with e|hr
  · rw[e];rfl
  ·
   exfalso;have hx:=(h.inv.rows p x).1 (show x∈a.R p by rw[hl];simp);have ht:=ho.1 p hr;change τ x≤τ p at ht;change τ p=0 at h5;have hnd:=h.inv.rnod p;change (a.R p).Nodup at hnd;rw[hl,List.nodup_cons] at hnd;have hne:x≠p:=fun e=>hnd.1 (by rw[e];exact hr)
   by_cases h3x:3≤x
   ·
    have:=h.inv.tpos x hx.1 h3x;change 1≤τ x at this;omega
   ·
    have:=(h.inv.beg x (by omega)).2.2.1;rw[hx.2.2] at this;exact hne this.symm
theorem Fin.perm {dss:List (List Dd)}{a:Ab}{τ:Nat→Nat}{T:Nat}{z:Int}{b:Bd}(hb:workB dss=true)(h:Fin dss a τ T z b)(p:Nat):((a.R p).map Int.ofNat).Perm (plcW (eventsB dss) p):=by
 have hx:=eventsB_12 dss
 have hn1:((a.R p).map Int.ofNat).Nodup:=by
  have:=h.inv.rnod p;exact List.Pairwise.map _ (fun x y hxy e=>hxy (Int.ofNat.inj e)) this
 have hn2:=plcW_nodup hx p
 have hm:∀y,y∈(a.R p).map Int.ofNat↔y∈plcW (eventsB dss) p:=by
  intro y;rw[List.mem_map];unfold plcW idxB;rw[if_pos hx];constructor
  ·
   rintro⟨x,hx',rfl⟩;obtain⟨q1,q2,q3⟩:=(h.inv.rows p x).1 hx';refine idxK_has _ _ ?_ _ (h.inv.lt x q1.1);have p1:=place_ev hb (h.inv.lt x q1.1);have q2':((eventsB dss).getD x zE).2.2.1=false:=q2;have q3':((eventsB dss).getD x zE).2.2.2.1.toNat=p:=q3;unfold toE;rw[q2'];have:((eventsB dss).getD x zE).2.2.2.1=(p:Int):=by omega
   rw[this];simp
  ·
   intro hy;have h1:=idxK_lt _ _ _ _ hy;have h2:=idxK_mem _ _ _ _ hy;obtain⟨x,rfl⟩:=Int.eq_ofNat_of_zero_le h1.1;rw[Int.toNat_natCast] at h2;unfold toE at h2;simp only[Bool.and_eq_true,Bool.not_eq_true',beq_iff_eq] at h2;refine⟨x,(h.inv.rows p x).2 ⟨h.all x (by omega),h2.1,?_⟩,rfl⟩;show ((eventsB dss).getD x zE).2.2.2.1.toNat=p;rw[h2.2,Int.toNat_natCast]
 refine perm_of hn1 (fun y hy=>(hm y).1 hy) (nodup_sub_len hn2 (fun y hy=>(hm y).2 hy))
def rowsOf (b:Bd):List Int:=b.rws.getD 0 []++b.rws.getD 1 []++b.rws.getD 2 []
theorem Fin.rowsE {dss:List (List Dd)}{a:Ab}{τ:Nat→Nat}{T:Nat}{z:Int}{b:Bd}(h:Fin dss a τ T z b):rowsOf b=(a.R 0).map Int.ofNat++(a.R 1).map Int.ofNat++(a.R 2).map Int.ofNat:=by
 unfold rowsOf;rw[(lst_at h.rep (show 0<3 by omega)).2.2,(lst_at h.rep (show 1<3 by omega)).2.2,(lst_at h.rep (show 2<3 by omega)).2.2]
theorem Fin.rows {dss:List (List Dd)}{a:Ab}{τ:Nat→Nat}{T:Nat}{z:Int}{b:Bd}(hb:workB dss=true)(h:Fin dss a τ T z b):rowsL (eventsB dss) (rowsOf b)=true:=by
 rw[h.rowsE];have hl:∀p,((a.R p).map Int.ofNat).length=(plcW (eventsB dss) p).length:=fun p=>(h.perm hb p).length_eq
 have hd:∀p,p<3→((a.R p).map Int.ofNat).getD 0 0=(p:Int):=by
  intro p hp;have:=h.head hp;rw[List.head?_eq_getElem?] at this;rw[List.getD_eq_getElem?_getD,List.getElem?_map,this];rfl
 have h0:∀p,p<3→0<(plcW (eventsB dss) p).length:=fun p hp=>(plcW_first hb p hp).1
 have k0:=okP_mk (A:=[]) (P:=(a.R 0).map Int.ofNat) (C:=(a.R 1).map Int.ofNat++(a.R 2).map Int.ofNat) (i:=0) (hl 0) (h.perm hb 0) (h0 0 (by omega)) (hd 0 (by omega));have k1:=okP_mk (A:=(a.R 0).map Int.ofNat) (P:=(a.R 1).map Int.ofNat) (C:=(a.R 2).map Int.ofNat) (i:=1) (hl 1) (h.perm hb 1) (h0 1 (by omega)) (hd 1 (by omega));have k2:=okP_mk (A:=(a.R 0).map Int.ofNat++(a.R 1).map Int.ofNat) (P:=(a.R 2).map Int.ofNat) (C:=[]) (i:=2) (hl 2) (h.perm hb 2) (h0 2 (by omega)) (hd 2 (by omega));simp only[List.nil_append,List.append_nil,List.length_nil,List.length_append,hl,←List.append_assoc] at k0 k1 k2;unfold rowsL;rw[k0,k1,k2];simp only[Bool.true_and,decide_eq_true_eq,List.length_append,hl]
theorem fil_own {dss:List (List Dd)}{a:Ab}{τ:Nat→Nat}{T:Nat}{z:Int}{b:Bd}(hb:workB dss=true)(h:Fin dss a τ T z b)(p q:Nat):((a.R q).map Int.ofNat).filter (fun x=>plE (eventsB dss) x==(p:Int))=if q=p then (a.R q).map Int.ofNat else []:=by
 have hq:∀x,x∈(a.R q).map Int.ofNat→plE (eventsB dss) x=(q:Int):=by
  intro x hx;obtain⟨y,hy,rfl⟩:=List.mem_map.1 hx;obtain⟨q1,q2,q3⟩:=(h.inv.rows q y).1 hy;have p1:=place_ev hb (h.inv.lt y q1.1);have q3':((eventsB dss).getD y zE).2.2.2.1.toNat=q:=q3;show ((eventsB dss).getD ((y:Int)).toNat zE).2.2.2.1=_;rw[Int.toNat_natCast];omega
 split
 ·
  rename_i e;rw[List.filter_eq_self];intro x hx;rw[hq x hx,e];simp
 ·
  rename_i e;rw[List.filter_eq_nil_iff];intro x hx;rw[hq x hx];simp;omega
theorem row_bef {dss:List (List Dd)}{a:Ab}{τ:Nat→Nat}{T:Nat}{z:Int}{b:Bd}(hb:workB dss=true)(h:Fin dss a τ T z b)(W:Webs (eventsB dss) b.fr (rowsOf b)){x y:Nat}(hx:x<(eventsB dss).length)(hl:line (rwL (eventsB dss) (rowsOf b)) x y=true):
  Bef (a.R ((sysW dss).pl x)) x y:=by
 obtain⟨i,q,hi,hq,hp,e1,e2⟩:=(W.rwl x y hx).1 hl;unfold rwP at hp;simp only[Bool.and_eq_true,decide_eq_true_eq,beq_iff_eq] at hp;have hs:=sub_of_idx hp.1 hq
 have px:plE (eventsB dss) ((rowsOf b).getD i 0)=(((sysW dss).pl x:Nat):Int):=by
  rw[e1];have:=place_ev hb hx;show ((eventsB dss).getD ((x:Int)).toNat zE).2.2.2.1=((((eventsB dss).getD x zE).2.2.2.1.toNat:Nat):Int);rw[Int.toNat_natCast];omega
 have hf:=hs.filter (fun u=>plE (eventsB dss) u==(((sysW dss).pl x:Nat):Int));rw[List.filter_cons_of_pos (by rw[px];simp),List.filter_cons_of_pos (by rw[←hp.2,px];simp),List.filter_nil,e1,e2,h.rowsE,List.filter_append,List.filter_append,fil_own hb h,fil_own hb h,fil_own hb h] at hf
 have hp3:(sysW dss).pl x<3:=by
  have:=place_ev hb hx;show ((eventsB dss).getD x zE).2.2.2.1.toNat<3;omega
 have key:[(x:Int),(y:Int)].Sublist ((a.R ((sysW dss).pl x)).map Int.ofNat):=by
  rcases (by omega:(sysW dss).pl x=0∨(sysW dss).pl x=1∨(sysW dss).pl x=2) with e|e|e<;>(rw[e] at hf ⊢;simpa using hf)
 have h2:=key.map Int.toNat;simp only[List.map_cons,List.map_nil,Int.toNat_natCast,List.map_map] at h2
 have e3:(a.R ((sysW dss).pl x)).map (Int.toNat ∘ Int.ofNat)=a.R ((sysW dss).pl x):=by
  have:(Int.toNat ∘ Int.ofNat)=id:=by funext u;simp
  rw[this,List.map_id]
 rw[e3] at h2;exact h2
theorem bef_pair {r:Nat→Nat→Prop}{L:List Nat}(h:L.Pairwise r){x y:Nat}(hb:Bef L x y):r x y:=by
 have:=h.sublist hb
 simpa using this
theorem row_time {dss:List (List Dd)}{a:Ab}{τ:Nat→Nat}{T:Nat}{z:Int}{b:Bd}(h:Fin dss a τ T z b){p x y:Nat}(hB:Bef (a.R p) x y)(hc:(sysW dss).cs x≠(sysW dss).cs y):τ x<τ y:=by
 have h1:τ x≤τ y:=bef_pair (h.inv.rord p) hB;obtain⟨mx,my⟩:=bef_mem hB;have dx:=(h.inv.rows p x).1 mx;have dy:=(h.inv.rows p y).1 my;by_cases hx3:3≤x
 ·
  by_cases hy3:3≤y
  ·
   have h2:τ x≠τ y:=fun e=>hc (h.inv.same x y dx.1 dy.1 hx3 hy3 e)
   omega
  ·
   have h3:=(h.inv.beg y (by omega)).2.2.2.2.1;have h4:=h.inv.tpos x dx.1 hx3;change τ y=0 at h3;change 1≤τ x at h4;omega
 ·
  have h3:=(h.inv.beg x (by omega)).2.2.2.2.1;change τ x=0 at h3;by_cases hy3:3≤y
  ·
   have h4:=h.inv.tpos y dy.1 hy3;change 1≤τ y at h4;omega
  ·
   exfalso;have a1:=(h.inv.beg x (by omega)).2.2.1;have a2:=(h.inv.beg y (by omega)).2.2.1;rw[dx.2.2] at a1;rw[dy.2.2] at a2;exact hc (by rw[←a1,←a2])
theorem Fin.tale {dss:List (List Dd)}{a:Ab}{τ:Nat→Nat}{T:Nat}{z:Int}{b:Bd}(hb:workB dss=true)(h:Fin dss a τ T z b):taleB dss b.fr (rowsOf b)=true:=by
 unfold taleB sourceB rowsB;rw[hb,h.src hb,h.rows hb];rfl
theorem rd_three {dss:List (List Dd)}(hb:workB dss=true){r:Nat}(h:(sysW dss).rd r=true):3≤r:=by
 apply Classical.byContradiction;intro hn;have:=(beg_place hb (show r<3 by omega)).2.1;rw[show (sysW dss).rd r=((eventsB dss).getD r zE).2.2.1 from rfl,this] at h;cases h
theorem Fin.slow {dss:List (List Dd)}{a:Ab}{τ:Nat→Nat}{T:Nat}{z:Int}{b:Bd}(hb:workB dss=true)(h:Fin dss a τ T z b):roundB (liftL (swL dss (eventsB dss) b.fr (rowsOf b)) (clsB (eventsB dss)))=false:=by
 have W:=told_of (h.tale hb);have hx:=W.twelve;refine up_lift W.sw W.cls τ (fun i j hi hj e=>?_) (fun i j hi hj hl hne=>?_)
 ·
  rw[cls_get hx hi,cls_get hx hj] at e;by_cases hi3:3≤i
  ·
   by_cases hj3:3≤j
   · exact h.inv.mate i j (h.all i hi) (h.all j hj) hi3 hj3 e
   ·
    exfalso;obtain⟨c,k,i',E⟩:=ev_dec hb hi3 hi;have e1:csE ((eventsB dss).getD i zE)=clsD dss c k:=by rw[E.at hb];rfl
    have:=cls_three hb E.hc E.hk E.kind;rw[(beg_place hb (show j<3 by omega)).2.2.1,e1] at e;omega
  ·
   by_cases hj3:3≤j
   ·
    exfalso;obtain⟨c,k,i',E⟩:=ev_dec hb hj3 hj;have e1:csE ((eventsB dss).getD j zE)=clsD dss c k:=by rw[E.at hb];rfl
    have:=cls_three hb E.hc E.hk E.kind;rw[(beg_place hb (show i<3 by omega)).2.2.1,e1] at e;omega
   ·
    rw[(beg_place hb (show i<3 by omega)).2.2.1,(beg_place hb (show j<3 by omega)).2.2.1] at e;rw[show i=j by omega]
 ·
  rw[cls_get hx hi,cls_get hx hj] at hne;have hz:∀i,i<3→τ i=0:=fun i hi=>(h.inv.beg i hi).2.2.2.2.1
  have hp:∀j,j<(eventsB dss).length→3≤j→1≤τ j:=fun j hj h3=>h.inv.tpos j (h.all j hj) h3
  rw[W.swl i j hi] at hl;simp only[Bool.or_eq_true] at hl;rcases hl with (g|g)|(g|g)
  ·
   rw[(kep_line hx).2 i j hi] at g;simp only[Bool.and_eq_true,Bool.not_eq_true'] at g;obtain⟨⟨_,g2⟩,g3⟩:=g;have hlt:=behP_lt g2;unfold behP at g2;simp only[Bool.and_eq_true,Bool.or_eq_true,decide_eq_true_eq,beq_iff_eq] at g2;rcases g2.2 with g2|g2
   · have:=hz i g2.1;have:=hp j hj g2.2;omega
   · exact h.inv.kept i j (h.all i hi) (h.all j hj) g2.1 hlt g2.2 hne g3
  ·
   rw[(ow_line W.webs).2 i j hi] at g;simp only[Bool.and_eq_true,Bool.not_eq_true'] at g;obtain⟨q,hq1,hq2,hq3⟩:=(W.webs.fwl i j hi).1 g.1;obtain⟨r,hr,e1,e2,e3⟩:=h.rd hq1;have er:r=j:=by omega
   subst er;have ei:a.F r=i:=by omega
   obtain⟨q1,q2,q3,q4⟩:=h.inv.src r (h.all r hr).1 e3;change (3≤a.F r∧(sysW dss).ck (a.F r)=(sysW dss).ck r)∨((stA dss a τ).D (sysW dss) (a.F r)∧τ (a.F r)≤τ r) at q4;rw[ei] at q4;have h3r:=rd_three hb e3;rcases q4 with q4|q4
   ·
    exfalso
    have:owP (eventsB dss) i r=true:=by
     unfold owP;have q5:((eventsB dss).getD i zE).1=((eventsB dss).getD r zE).1:=q4.2;rw[q5];simp[q4.1,h3r]
    rw[this] at g;cases g.2
   ·
    by_cases hi3:3≤i
    ·
     have:τ i≠τ r:=fun e=>hne (h.inv.same i r (h.all i hi) (h.all r hr) hi3 h3r e)
     omega
    · have:=hz i (by omega);have:=hp r hr h3r;omega
  · exact row_time h (row_bef hb h W.webs hi g) hne
  ·
   obtain⟨q,hq1,hq2,hq3⟩:=(W.webs.agl i j hi).1 g;obtain⟨r,hr,e1,e2,e3⟩:=h.rd hq1;have er:r=i:=by omega
   subst er;rw[e2,Int.toNat_natCast] at hq3;have hF:a.F r<(eventsB dss).length:=h.inv.lt _ (h.inv.src r (h.all r hr).1 e3).1;have hB:=row_bef hb h W.webs hF hq3;have h1:τ r≤τ j:=h.inv.agst r j _ (h.all r hr).1 e3 hB;have h3r:=rd_three hb e3;by_cases hj3:3≤j
   ·
    have:τ r≠τ j:=fun e=>hne (h.inv.same r j (h.all r hr) (h.all j hj) h3r hj3 e)
    omega
   · have:=hz j (by omega);have:=hp r hr h3r;omega
def posA (dss:List (List Dd))(a:Ab)(x:Nat):Nat:=(a.R ((sysW dss).pl x)).idxOf x
def keyA (dss:List (List Dd))(a:Ab)(i:Nat):Nat:=if (sysW dss).rd i=true then 2*posA dss a (a.F i)+1 else 2*posA dss a i
theorem key_lt {n k k' i j:Nat}(hi:i<n)(h:k<k'∨(k=k'∧i<j)):k*n+i<k'*n+j:=by
 rcases h with h|⟨rfl,h⟩
 ·
  have:=Nat.mul_le_mul_right n h;rw[Nat.succ_mul] at this;omega
 · omega
theorem Fin.each {dss:List (List Dd)}{a:Ab}{τ:Nat→Nat}{T:Nat}{z:Int}{b:Bd}(hb:workB dss=true)(h:Fin dss a τ T z b):roundB (pwL (eventsB dss) b.fr (rowsOf b))=false:=by
 have W:=told_of (h.tale hb);have hx:=W.twelve
 have hpos:∀ {p x y:Nat},(sysW dss).pl x=p→(sysW dss).pl y=p→Bef (a.R p) x y→posA dss a x<posA dss a y:=by
  intro p x y e1 e2 hB;unfold posA;rw[e1,e2];exact bef_idx (h.inv.rnod p) hB
 have hsrc:∀ {r:Nat},r<(eventsB dss).length→(sysW dss).rd r=true→a.F r<(eventsB dss).length∧(sysW dss).rd (a.F r)=false∧(sysW dss).pl (a.F r)=(sysW dss).pl r:=by
  intro r hr hrd;obtain⟨q1,q2,q3,_⟩:=h.inv.src r (h.all r hr).1 hrd;exact⟨h.inv.lt _ q1,q2,q3⟩
 have hrow:∀ {x y:Nat},x<(eventsB dss).length→line (rwL (eventsB dss) (rowsOf b)) x y=true→posA dss a x<posA dss a y∧(sysW dss).rd x=false∧(sysW dss).rd y=false:=by
  intro x y hx' hl;have hB:=row_bef hb h W.webs hx' hl;have m1:=(h.inv.rows _ _).1 (bef_mem hB).1;have m2:=(h.inv.rows _ _).1 (bef_mem hB).2;exact⟨hpos rfl m2.2.2 hB,m1.2.1,m2.2.1⟩
 refine up_round W.pw (fun i=>keyA dss a i*(eventsB dss).length+i) (fun i j hi hj hl=>?_);refine key_lt hi ?_;rw[W.pwl i j hi] at hl;simp only[Bool.or_eq_true] at hl;rcases hl with (g|g)|(g|g)
 ·
  rw[(plc_line hx).2 i j hi] at g;simp only[Bool.and_eq_true,Bool.not_eq_true'] at g;obtain⟨⟨_,g2⟩,g3⟩:=g;have hlt:=behP_lt g2
  have hpl:(sysW dss).pl i=(sysW dss).pl j:=by
   unfold plcP at g3;rw[bne_eq_false_iff_eq] at g3;show ((eventsB dss).getD i zE).2.2.2.1.toNat=((eventsB dss).getD j zE).2.2.2.1.toNat;rw[g3]
  unfold behP at g2;simp only[Bool.and_eq_true,Bool.or_eq_true,decide_eq_true_eq,beq_iff_eq] at g2;rcases g2.2 with ⟨g4,g5⟩|⟨g4,g5⟩
  ·
   left;obtain⟨_,b2,b3,_⟩:=h.inv.beg i g4
   have k0:keyA dss a i=0:=by
    unfold keyA posA;rw[b2,b3];have hh:=h.head g4
    cases hl:a.R i with
    |nil=>rw[hl] at hh;cases hh
    |cons y r=>
     rw[hl] at hh;simp only[List.head?_cons,Option.some.injEq] at hh;rw[hh,List.idxOf_cons_self];rfl
   rw[k0];unfold keyA;split
   · omega
   ·
    rename_i hr
    have hr':(sysW dss).rd j=false:=by cases hq:(sysW dss).rd j with
     |false=>rfl
     |true=>exact absurd hq hr
    have hm:j∈a.R i:=(h.inv.rows i j).2 ⟨h.all j hj,hr',by rw[←hpl,b3]⟩;unfold posA;rw[←hpl,b3];have hh:=h.head g4
    cases hl:a.R i with
    |nil=>rw[hl] at hh;cases hh
    |cons y r=>
     rw[hl] at hh;simp only[List.head?_cons,Option.some.injEq] at hh;rw[List.idxOf_cons,hh,beq_eq_false_iff_ne.2 (show i≠j by omega)];exact Nat.mul_pos (by omega) (Nat.succ_pos _)
  ·
   have hcoh:=h.inv.coh i j (h.all i hi).1 (h.all j hj).1 g4 hlt g5 hpl
   have hL:(stA dss a τ).L (sysW dss) ((sysW dss).ck i) ((sysW dss).pl i)=a.R ((sysW dss).pl i):=by
    unfold AbsSt.L;rw[h.none,List.filter_nil,List.append_nil];rfl
   rw[hL] at hcoh
   have vplace:∀x,x<(eventsB dss).length→(sysW dss).pl ((stA dss a τ).v (sysW dss) x)=(sysW dss).pl x:=by
    intro x hx';unfold AbsSt.v;split
    · rename_i hr;exact (hsrc hx' hr).2.2
    · rfl
   have hle:(stA dss a τ).v (sysW dss) i=(stA dss a τ).v (sysW dss) j∨posA dss a ((stA dss a τ).v (sysW dss) i)<posA dss a ((stA dss a τ).v (sysW dss) j):=
    hcoh.imp id (fun hB=>hpos (vplace i hi) ((vplace j hj).trans hpl.symm) hB)
   have hw:=h.inv.cohw i j (h.all i hi).1 (h.all j hj).1 g4 hlt g5 hpl;unfold AbsSt.v at hle;unfold keyA
   cases ri:(sysW dss).rd i with
   |true=>
    rw[ri,if_pos rfl] at hle;rw[if_pos rfl]
    cases rj:(sysW dss).rd j with
    |true=>
     rw[rj,if_pos rfl] at hle;rw[if_pos rfl];rcases hle with e|e
     ·
      right;change a.F i=a.F j at e;rw[e];exact⟨rfl,hlt⟩
     ·
      left;change posA dss a (a.F i)<posA dss a (a.F j) at e;omega
    |false=>
     rw[rj,if_neg (by simp)] at hle;rw[if_neg (by simp)];rcases hle with e|e
     · exact absurd e (hw ri rj)
     ·
      left;change posA dss a (a.F i)<posA dss a j at e;omega
   |false=>
    rw[ri,if_neg (by simp)] at hle;rw[if_neg (by simp)]
    cases rj:(sysW dss).rd j with
    |true=>
     rw[rj,if_pos rfl] at hle;rw[if_pos rfl];rcases hle with e|e
     ·
      left;change i=a.F j at e;rw[←e];omega
     ·
      left;change posA dss a i<posA dss a (a.F j) at e;omega
    |false=>
     rw[rj,if_neg (by simp)] at hle;rw[if_neg (by simp)];rcases hle with e|e
     · omega
     · left;omega
 ·
  obtain⟨q,hq1,hq2,hq3⟩:=(W.webs.fwl i j hi).1 g;obtain⟨r,hr,e1,e2,e3⟩:=h.rd hq1;have er:r=j:=by omega
  subst er;have ei:a.F r=i:=by omega
  have hs:=hsrc hr e3;rw[ei] at hs;left;unfold keyA;rw[e3,hs.2.1,if_pos rfl,if_neg (by simp),ei];omega
 ·
  obtain⟨p1,p2,p3⟩:=hrow hi g;left;unfold keyA;rw[p2,p3,if_neg (by simp),if_neg (by simp)];omega
 ·
  obtain⟨q,hq1,hq2,hq3⟩:=(W.webs.agl i j hi).1 g;obtain⟨r,hr,e1,e2,e3⟩:=h.rd hq1;have er:r=i:=by omega
  subst er;rw[e2,Int.toNat_natCast] at hq3;obtain⟨p1,p2,p3⟩:=hrow (hsrc hr e3).1 hq3;left;unfold keyA;rw[e3,p3,if_pos rfl,if_neg (by simp)];omega
theorem run_slow {dss:List (List Dd)}(hb:workB dss=true)(steps:List Int)(he:endM dss (runM dss (eventsB dss) (newM dss) steps)=true):
  slowB dss (runM dss (eventsB dss) (newM dss) steps).fr (rowsOf (runM dss (eventsB dss) (newM dss) steps))=true:=by
 obtain⟨M0,B0⟩:=new_sim hb;obtain⟨a,τ,T,z,M,_⟩:=run_sim hb steps _ _ _ _ _ M0 B0;have F:=fin_of hb M he;unfold slowB;rw[F.tale hb,F.each hb,F.slow hb];rfl
theorem none_ended {dss:List (List Dd)}{b:Bd}(h:possM dss b=[]):endM dss b=true:=by
 unfold possM at h;rw[List.append_eq_nil_iff,List.map_eq_nil_iff,List.map_eq_nil_iff,List.filter_eq_nil_iff,List.filter_eq_nil_iff] at h;unfold endM;rw[List.all_eq_true];intro c hc;have h1:=h.1 c hc;have h2:=h.2 c hc
 have h3:(b.nts.getD c []).isEmpty=true:=by
  cases hq:(b.nts.getD c []).isEmpty with
  |true=>rfl
  |false=>rw[hq] at h2;simp at h2
 unfold canM at h1;rw[h3] at h1 ⊢;simp only[Bool.or_true,Bool.and_true,decide_eq_true_eq,Nat.not_lt] at h1;rw[decide_eq_true h1];rfl
def sumN (f:Nat→Nat):Nat→Nat
 | 0=>0
 |m+1=>sumN f m+f m
theorem sum_same {f g:Nat→Nat}:∀m:Nat,(∀c,c<m→f c=g c)→sumN f m=sumN g m
 | 0,_=>rfl
 |m+1,h=>by rw[sumN,sumN,sum_same m (fun c hc=>h c (by omega)),h m (by omega)]
theorem sum_less {f g:Nat→Nat}{c:Nat}(h1:f c+1≤g c)(h2:∀c',c'≠c→f c'=g c'):∀m:Nat,c<m→sumN f m+1≤sumN g m
 | 0,h=>by omega
 |m+1,h=>by
  rw[sumN,sumN];by_cases e:c=m
  ·
   subst e;rw[sum_same c (fun c' hc=>h2 c' (by omega))];omega
  ·
   have:=sum_less h1 h2 m (by omega);rw[h2 m (fun h=>e h.symm)];omega
def leftM (dss:List (List Dd))(b:Bd)(c:Nat):Nat:=2*((dss.getD c []).length-nxN b c)+(b.nts.getD c []).length
def mesM (dss:List (List Dd))(b:Bd):Nat:=sumN (leftM dss b) dss.length
def LN (dss:List (List Dd))(b:Bd):Prop:=b.nxt.length=dss.length∧b.nts.length=dss.length
theorem getD_setL {α:Type}(l:List α)(z x:α)(i j:Nat)(hi:i<l.length):(l.set i x).getD j z=if i=j then x else l.getD j z:=by
 rw[List.getD_eq_getElem?_getD,List.getElem?_set];by_cases e:i=j
 · subst e;rw[if_pos rfl,if_pos hi,if_pos rfl];rfl
 · rw[if_neg e,if_neg e,List.getD_eq_getElem?_getD]
theorem deed_nts (dss:List (List Dd))(es:List Ev)(b:Bd)(c k:Nat):(deedM dss es b c k).nxt=b.nxt∧((deedM dss es b c k).nts=b.nts∨∃x,(deedM dss es b c k).nts=b.nts.set c (b.nts.getD c []++[x])):=by
 unfold deedM;split
 · exact⟨rfl,.inl rfl⟩
 ·
  split
  · exact⟨rfl,.inl rfl⟩
  ·
   split
   · exact⟨rfl,.inl rfl⟩
   ·
    split
    · exact⟨rfl,.inr ⟨_,rfl⟩⟩
    · exact⟨rfl,.inl rfl⟩
theorem nx_one {dss:List (List Dd)}{es:List Ev}{b:Bd}(hL:LN dss b)(h0:∀c,0≤b.nxt.getD c 0){c:Nat}(hc:c<dss.length):(∀c',nxN (oneM dss es b c) c'=if c=c' then nxN b c+1 else nxN b c')∧∀c',0≤(oneM dss es b c).nxt.getD c' 0:=by
 have e:∀c',(oneM dss es b c).nxt.getD c' 0=if c=c' then b.nxt.getD c 0+1 else b.nxt.getD c' 0:=fun c'=>by
  show (b.nxt.set c (b.nxt.getD c 0+1)).getD c' 0=_;rw[getD_setL _ _ _ _ _ (by rw[hL.1];exact hc)]
 constructor
 ·
  intro c';unfold nxN;rw[e];split
  · have:=h0 c;omega
  · rfl
 ·
  intro c';rw[e];split
  · have:=h0 c;omega
  · exact h0 c'
theorem mes_one {dss:List (List Dd)}{es:List Ev}{b:Bd}(hL:LN dss b)(h0:∀c,0≤b.nxt.getD c 0){c:Nat}(hc:c<dss.length)(hk:nxN b c<(dss.getD c []).length):mesM dss (oneM dss es b c)+1≤mesM dss b∧LN dss (oneM dss es b c)∧∀c',0≤(oneM dss es b c).nxt.getD c' 0:=by
 obtain⟨hn,h0'⟩:=nx_one (es:=es) hL h0 hc;obtain⟨_,hd⟩:=deed_nts dss es b c (nxN b c)
 have hnts:(∀c',c'≠c→(oneM dss es b c).nts.getD c' []=b.nts.getD c' [])∧((oneM dss es b c).nts.getD c []).length≤(b.nts.getD c []).length+1∧(oneM dss es b c).nts.length=b.nts.length:=by
  have e:(oneM dss es b c).nts=(deedM dss es b c (nxN b c)).nts:=rfl;rw[e];rcases hd with hd|⟨x,hd⟩
  · rw[hd];exact⟨fun _ _=>rfl,by omega,rfl⟩
  ·
   rw[hd];refine⟨fun c' h=>?_,?_,by rw[List.length_set]⟩
   · rw[getD_setL _ _ _ _ _ (by rw[hL.2];exact hc),if_neg (fun h2=>h h2.symm)]
   · rw[getD_setL _ _ _ _ _ (by rw[hL.2];exact hc),if_pos rfl,List.length_append];simp
 refine⟨sum_less (c:=c) ?_ (fun c' h=>?_) _ hc,⟨?_,?_⟩,h0'⟩
 ·
  unfold leftM;rw[hn,if_pos rfl];have:=hnts.2.1;omega
 ·
  unfold leftM;rw[hn,if_neg (fun h2=>h h2.symm),hnts.1 c' h]
 ·
  show (b.nxt.set c _).length=_;rw[List.length_set];exact hL.1
 · rw[hnts.2.2];exact hL.2
theorem mes_go {dss:List (List Dd)}{es:List Ev}(g:Int){c:Nat}(hc:c<dss.length):∀(m:Nat) (b:Bd),LN dss b→(∀c,0≤b.nxt.getD c 0)→1≤m→nxN b c<(dss.getD c []).length→(dss.getD c []).length≤nxN b c+m →
  mesM dss (goM dss es g c m b)+1≤mesM dss b∧LN dss (goM dss es g c m b)∧∀c',0≤(goM dss es g c m b).nxt.getD c' 0
 | 0,_,_,_,h,_,_=>by omega
 |m+1,b,hL,h0,_,hk,hm=>by
  have h1:=mes_one (es:=es) hL h0 hc hk;have hn:=(nx_one (es:=es) hL h0 hc).1 c;rw[if_pos rfl] at hn;rw[goM];split
  · exact h1
  ·
   rename_i hs;have hs1:¬nxN (oneM dss es b c) c=(dss.getD c []).length:=fun h=>hs (.inr (.inl h))
   have h2:=mes_go (es:=es) g hc m (oneM dss es b c) h1.2.1 h1.2.2 (by omega) (by omega) (by omega);exact⟨by omega,h2.2⟩
theorem mes_flush {dss:List (List Dd)}{b:Bd}(hL:LN dss b)(h0:∀c,0≤b.nxt.getD c 0){c:Nat}(hc:c<dss.length)(hne:b.nts.getD c []≠[]):mesM dss (flushM b c)+1≤mesM dss b∧LN dss (flushM b c)∧∀c',0≤(flushM b c).nxt.getD c' 0:=by
 unfold flushM
 cases hq:b.nts.getD c [] with
 |nil=>exact absurd hq hne
 |cons x r=>
  have e:∀c',(b.nts.set c r).getD c' []=if c=c' then r else b.nts.getD c' []:=fun c'=>getD_setL _ _ _ _ _ (by rw[hL.2];exact hc)
  refine⟨sum_less (c:=c) ?_ (fun c' h=>?_) _ hc,⟨hL.1,?_⟩,h0⟩
  ·
   show 2*((dss.getD c []).length-nxN b c)+((b.nts.set c r).getD c []).length+1≤2*((dss.getD c []).length-nxN b c)+(b.nts.getD c []).length;rw[e,if_pos rfl,hq];simp only[List.length_cons];omega
  ·
   show 2*((dss.getD c' []).length-nxN b c')+((b.nts.set c r).getD c' []).length=2*((dss.getD c' []).length-nxN b c')+(b.nts.getD c' []).length;rw[e,if_neg (fun h2=>h h2.symm)]
  ·
   show (b.nts.set c r).length=_;rw[List.length_set];exact hL.2
theorem mes_step {dss:List (List Dd)}(hb:workB dss=true){es:List Ev}{b:Bd}(hL:LN dss b)(h0:∀c,0≤b.nxt.getD c 0){s:Int}(hs:isB (possM dss b) s=true):mesM dss (stepM dss es b s)+1≤mesM dss b∧LN dss (stepM dss es b s)∧∀c',0≤(stepM dss es b s).nxt.getD c' 0:=by
 have hl3:dss.length≤3:=by
  simp only[workB,Bool.and_eq_true,decide_eq_true_eq] at hb;exact hb.1.1.1.1.2
 have hm:=isB_mem hs;unfold possM at hm;rw[List.mem_append,List.mem_map,List.mem_map] at hm;rcases hm with ⟨c,hc,e⟩|⟨c,hc,e⟩
 ·
  rw[List.mem_filter,List.mem_range] at hc;obtain⟨hc,hcan⟩:=hc;unfold canM at hcan;simp only[Bool.and_eq_true,decide_eq_true_eq] at hcan;unfold stepM;rw[if_neg (by omega),show s.toNat=c by omega];exact mes_go _ hc _ b hL h0 (by omega) hcan.1 (by omega)
 ·
  rw[List.mem_filter,List.mem_range] at hc;obtain⟨hc,hne⟩:=hc;unfold stepM;rw[if_pos (by omega),show (s-10).toNat=c by omega];refine mes_flush hL h0 hc (fun h=>?_);rw[h] at hne;simp at hne
theorem sum_len (dss:List (List Dd)):sumN (fun c=>(dss.getD c []).length) dss.length=lenW dss:=by
 have h:∀(l:List (List Dd)) (m:Nat),m≤l.length→sumN (fun c=>(l.getD c []).length) m=lenW (l.take m):=by
  intro l m
  induction m with
  |zero=>intro _;simp[sumN,lenW]
  |succ m ih=>
   intro hm;rw[sumN,ih (by omega),List.take_add_one,List.getElem?_eq_getElem (by omega),List.getD_eq_getElem?_getD,List.getElem?_eq_getElem (by omega)];simp only[Option.toList_some,Option.getD_some]
   have:∀(x:List (List Dd)) (d:List Dd),lenW (x++[d])=lenW x+d.length:=by
    intro x d
    induction x with
    |nil=>simp[lenW]
    |cons y x ih=>rw[List.cons_append,lenW,ih,lenW];omega
   rw[this]
 have:=h dss dss.length (Nat.le_refl _);rw[List.take_length] at this;exact this
theorem mes_new {dss:List (List Dd)}(hb:workB dss=true):mesM dss (newM dss)≤24∧LN dss (newM dss)∧∀c',0≤(newM dss).nxt.getD c' 0:=by
 have h12:lenW dss≤12:=by
  simp only[workB,Bool.and_eq_true,decide_eq_true_eq] at hb;exact hb.1.1.2
 have h0:∀c',(newM dss).nxt.getD c' 0=0:=fun c'=>by
  show (List.replicate dss.length (0:Int)).getD c' 0=0;rw[List.getD_eq_getElem?_getD,List.getElem?_replicate];split<;>rfl
 refine⟨?_,⟨by show (List.replicate _ _).length=_;simp,by show (List.replicate _ _).length=_;simp⟩,fun c'=>by rw[h0];omega⟩
 have e:∀m:Nat,sumN (leftM dss (newM dss)) m=2*sumN (fun c=>(dss.getD c []).length) m:=by
  intro m
  induction m with
  |zero=>rfl
  |succ m ih=>
   rw[sumN,sumN,ih]
   have:leftM dss (newM dss) m=2*(dss.getD m []).length:=by
    unfold leftM nxN;rw[h0]
    have:(newM dss).nts.getD m []=[]:=by
     show (List.replicate dss.length ([]:List Nt)).getD m []=[];rw[List.getD_eq_getElem?_getD,List.getElem?_replicate];split<;>rfl
    rw[this];simp
   rw[this];omega
 unfold mesM;rw[e,sum_len];omega
def allB (l:List Int)(lo hi:Int)(most:Nat):Bool:=l.all (fun x=>decide (lo≤x)&&decide (x≤hi))&&decide (l.length≤most)
def ntB (n:Int)(x:Nt):Bool:=(decide (0≤x.1)&&decide (x.1≤2))&&((decide (0≤x.2.1)&&decide (x.2.1≤9))&&(decide (0≤x.2.2)&&decide (x.2.2≤n-1)))
def ntsB (n:Int)(l:List Nt):Bool:=l.all (ntB n)
def ckB (dss:List (List Dd))(n:Int)(b:Bd)(i:Nat):Bool:=
 (decide (0≤b.nxt.getD i 0)&&decide (b.nxt.getD i 0≤((dss.getD i []).length:Int)))&&(decide ((b.nts.getD i []).length≤8)&&ntsB n (b.nts.getD i []))
def shapeB (dss:List (List Dd))(b:Bd):Bool:=
 workB dss&&(decide (b.plc.length=3)&&(decide (b.lst.length=3)&&(decide (b.rws.length=3)&&(decide (b.nts.length=dss.length)&&decide (b.nxt.length=dss.length)))))
def fillB (n:Int)(r:Nat)(b:Bd):Bool:=
 decide (b.sn.length=r)&&(decide (b.fr.length=r)&&(allB b.plc 0 9 3&&(allB b.lst 0 (n-1) 3&&(allB b.sn (-1) 9 12&&allB b.fr (-1) (n-1) 12))))
def rowsBd (n:Int)(b:Bd):Bool:=(List.range 3).all (fun i=>allB (b.rws.getD i []) 0 (n-1) 20)
def boardB (dss:List (List Dd))(b:Bd):Bool:=
 shapeB dss b&&(fillB ((eventsB dss).length:Int) (idxB rdE (eventsB dss)).length b&&(rowsBd ((eventsB dss).length:Int) b&&(List.range dss.length).all (fun i=>ckB dss ((eventsB dss).length:Int) b i)))
theorem allB_far {l:List Int}{lo hi:Int}{most k:Nat}(hk:k<l.length)(h:(decide (lo≤l.getD k 0)&&decide (l.getD k 0≤hi))=false):allB l lo hi most=false:=by
 have:l.all (fun x=>decide (lo≤x)&&decide (x≤hi))=false:=by
  rw[List.all_eq_false];refine⟨l.getD k 0,?_,by rw[h];simp⟩;rw[List.getD_eq_getElem?_getD,List.getElem?_eq_getElem hk];exact List.getElem_mem hk
 unfold allB;rw[this];rfl
theorem allB_done {l:List Int}{lo hi:Int}{most:Nat}(h:∀k,k<l.length→(decide (lo≤l.getD k 0)&&decide (l.getD k 0≤hi))=true):allB l lo hi most=decide (l.length≤most):=by
 have:l.all (fun x=>decide (lo≤x)&&decide (x≤hi))=true:=by
  rw[List.all_eq_true];intro x hx;obtain⟨i,hi,e⟩:=List.getElem_of_mem hx;have:=h i hi;rw[List.getD_eq_getElem?_getD,List.getElem?_eq_getElem hi] at this;simp only[Option.getD_some] at this;rw[e] at this;exact this
 unfold allB;rw[this];rfl
theorem all_range_false {n k:Nat}{f:Nat→Bool}(hk:k<n)(h:f k=false):(List.range n).all f=false:=by
 rw[List.all_eq_false];exact⟨k,List.mem_range.2 hk,by rw[h];simp⟩
theorem all_range_true {n:Nat}{f:Nat→Bool}(h:∀k,k<n→f k=true):(List.range n).all f=true:=by
 rw[List.all_eq_true];exact fun k hk=>h k (List.mem_range.1 hk)
theorem ntsB_false {n:Int}{l:List Nt}{k:Nat}(hk:k<l.length)(h:ntB n (l.getD k (0,0,0))=false):ntsB n l=false:=by
 unfold ntsB;rw[List.all_eq_false];refine⟨l.getD k (0,0,0),?_,by rw[h];simp⟩;rw[List.getD_eq_getElem?_getD,List.getElem?_eq_getElem hk];exact List.getElem_mem hk
theorem ntsB_true {n:Int}{l:List Nt}(h:∀k,k<l.length→ntB n (l.getD k (0,0,0))=true):ntsB n l=true:=by
 unfold ntsB;rw[List.all_eq_true];intro x hx;obtain⟨i,hi,e⟩:=List.getElem_of_mem hx;have:=h i hi;rw[List.getD_eq_getElem?_getD,List.getElem?_eq_getElem hi] at this;simp only[Option.getD_some] at this;rw[e] at this;exact this
theorem ev_vals {dss:List (List Dd)}(hb:workB dss=true){j:Nat}(hj:j<(eventsB dss).length):(0≤vlN dss j∧vlN dss j≤9)∧0≤plN dss j∧plN dss j≤2:=by
 by_cases h3:j<3
 ·
  have e:=(evs_good (dss:=dss) (by simp only[workB,Bool.and_eq_true,decide_eq_true_eq] at hb;intro i hi;have:=List.all_eq_true.1 hb.1.1.1.2 _ (List.getElem_mem hi);rw[List.getD_eq_getElem?_getD,List.getElem?_eq_getElem hi];exact this) dss.length (Nat.le_refl _)).1;obtain⟨t,ht⟩:=e;have e1:eventsB dss=evBeg++t:=by rw[eventsB,if_pos hb,ht]
  unfold vlN plN;rw[e1,List.getD_eq_getElem?_getD,List.getElem?_append_left (by simp[evBeg];omega)];have:j=0∨j=1∨j=2:=by omega
  rcases this with rfl|rfl|rfl<;>simp[evBeg]
 ·
  obtain⟨c,k,i,E⟩:=ev_dec hb (by omega) hj;have hd:=okC_of hb E.hc k E.hk;unfold vlN plN;rw[E.at hb];simp only;unfold vlI;have hd':=hd;unfold dAt at hd' ⊢;simp only[okD,deedB,decide_eq_true_eq] at hd';split<;>omega
theorem ev_nine (dss:List (List Dd)):(eventsB dss).length≤9:=by
 unfold eventsB;split
 ·
  rename_i h;simp only[workB,Bool.and_eq_true,decide_eq_true_eq] at h;obtain⟨⟨⟨⟨_,h2⟩,_⟩,h4⟩,_⟩:=h;have:=evsW_len (fun i hi=>all_get [] h2 i hi) dss.length (Nat.le_refl _);omega
 · simp
theorem nodup_len {lo n:Nat}:∀ {l:List Nat},l.Nodup→(∀x∈l,lo≤x∧x<n)→l.length≤n-lo:=fun {l} hn h=>by
 have hs:∀x∈l,x∈List.range' lo (n-lo):=fun x hx=>by
  have:=h x hx;rw[List.mem_range'_1];omega
 have:l.length≤(List.range' lo (n-lo)).length:=by
  clear h;generalize List.range' lo (n-lo)=r at hs
  induction l generalizing r with
  |nil=>simp
  |cons x t ih=>
   rw[List.nodup_cons] at hn;have hx:=hs x (by simp);have:=ih hn.2 (r.erase x) (fun y hy=>(List.mem_erase_of_ne (fun e=>hn.1 (by rw[←e];exact hy))).2 (hs y (by simp[hy])));rw[List.length_erase_of_mem hx] at this;have:0<r.length:=List.length_pos_of_mem hx;simp only[List.length_cons];omega
 simpa using this
theorem allB_map {α:Type}(l:List α)(f:α→Int){lo hi:Int}{most:Nat}(h:∀x∈l,lo≤f x∧f x≤hi)(hm:l.length≤most):allB (l.map f) lo hi most=true:=by
 unfold allB;rw[Bool.and_eq_true,List.all_eq_true,decide_eq_true_eq,List.length_map];refine⟨fun y hy=>?_,hm⟩;obtain⟨x,hx,rfl⟩:=List.mem_map.1 hy;have:=h x hx;simp[this]
theorem mi_board {dss:List (List Dd)}(hb:workB dss=true){b:Bd}{a:Ab}{τ:Nat→Nat}{T:Nat}{z:Int}(M:MI dss b a τ T z):boardB dss b=true:=by
 have h9:=ev_nine dss;have R:=M.rep;have I:=M.inv
 have hlen3:3≤(eventsB dss).length:=by
  have:=I.lt 2 (I.beg 2 (by omega)).1;exact this
 have rowlt:∀p x,x∈a.R p→x<(eventsB dss).length:=fun p x hx=>I.lt x ((I.rows p x).1 hx).1.1
 have notelt:∀c x,x∈a.N c→3≤x∧x<(eventsB dss).length:=fun c x hx=>by
  have hx':x∈(stA dss a τ).N (c:Int):=by rw[st_N];exact hx
  have:=I.note (c:Int) x hx';exact⟨this.2.1,I.lt x this.1⟩
 have hlast:∀p,p<3→lastA a p<(eventsB dss).length:=fun p hp=>by
  unfold lastA
  cases hl:(a.R p).getLast? with
  |none=>show p<_;omega
  |some x=>exact rowlt p x (List.mem_of_getLast? hl)
 have hF:∀r,r<(eventsB dss).length→((eventsB dss).getD r zE).2.2.1=true→exA dss a r=true→a.F r<(eventsB dss).length:=fun r h1 h2 h3=>I.lt _ (I.src r ⟨h1,h3⟩ h2).1
 have hx12:(eventsB dss).length≤12:=by omega
 have rl:(idxB rdE (eventsB dss)).length≤12:=by
  unfold idxB;rw[if_pos hx12];have:=idxK_len rdE (eventsB dss) (eventsB dss).length;omega
 have rdin:∀r∈idxB rdE (eventsB dss),(0≤r∧r<((eventsB dss).length:Int))∧((eventsB dss).getD r.toNat zE).2.2.1=true:=fun r hr=>by
  unfold idxB at hr;rw[if_pos hx12] at hr;exact⟨idxK_lt _ _ _ _ hr,idxK_mem _ _ _ _ hr⟩
 unfold boardB;rw[Bool.and_eq_true,Bool.and_eq_true,Bool.and_eq_true];refine⟨?_,?_,?_,?_⟩
 ·
  unfold shapeB;rw[hb,R.plc,R.lst,R.rws,R.nts,R.nxt];simp
 ·
  unfold fillB;rw[R.sn,R.fr,R.plc,R.lst,List.length_map,List.length_map];simp only[decide_true,Bool.true_and,Bool.and_eq_true];refine⟨allB_map _ _ (fun p hp=>(ev_vals hb (hlast p (List.mem_range.1 hp))).1) (by simp),allB_map _ _ (fun p hp=>by have:=hlast p (List.mem_range.1 hp);omega) (by simp),allB_map _ _ (fun r hr=>?_) rl,allB_map _ _ (fun r hr=>?_) rl⟩
  ·
   obtain⟨h1,h2⟩:=rdin r hr;by_cases hE:exA dss a r.toNat=true
   ·
    rw[if_pos hE];have:=(ev_vals hb (hF r.toNat (by omega) h2 hE)).1;omega
   · rw[if_neg hE];omega
  ·
   obtain⟨h1,h2⟩:=rdin r hr;by_cases hE:exA dss a r.toNat=true
   ·
    rw[if_pos hE];have:=hF r.toNat (by omega) h2 hE;omega
   · rw[if_neg hE];omega
 ·
  unfold rowsBd;rw[List.all_eq_true];intro p hp;rw[R.rws,map_at _ _ (List.mem_range.1 hp)];refine allB_map _ _ (fun x hx=>by have:=rowlt p x hx;exact⟨Int.natCast_nonneg _,by show (x:Int)≤_;omega⟩) ?_;have:=nodup_len (lo:=0) (I.rnod p) (fun x hx=>⟨Nat.zero_le _,rowlt p x hx⟩);have e:(stA dss a τ).R p=a.R p:=rfl;rw[e] at this;omega
 ·
  rw[List.all_eq_true];intro c hc;have hc:=List.mem_range.1 hc;unfold ckB;rw[(nx_at R hc).1,R.nts,map_at _ _ hc,List.length_map];have h1:=M.nxl c hc
  have hnd:(a.N c).Nodup:=by
   have:=I.nord (c:Int);rw[st_N] at this;exact this.imp (fun h=>Nat.ne_of_lt h)
  have h2:=nodup_len hnd (notelt c);simp only[Bool.and_eq_true,decide_eq_true_eq];refine⟨⟨by omega,by omega⟩,by omega,?_⟩;unfold ntsB;rw[List.all_eq_true];intro y hy;obtain⟨x,hx,rfl⟩:=List.mem_map.1 hy;have hn:=notelt c x hx;have:=ev_vals hb hn.2;unfold ntB ntE;simp only[Bool.and_eq_true,decide_eq_true_eq];omega
theorem run_app (dss:List (List Dd))(es:List Ev):∀(l r:List Int) (b:Bd),runM dss es b (l++r)=runM dss es (runM dss es b l) r
 | [],r,b=>rfl
 |s::l,r,b=>by rw[List.cons_append,runM,runM];exact run_app dss es l r _
def Run (dss:List (List Dd))(b:Bd):Prop:=∃a τ T z,MI dss b a τ T z∧BD dss a
theorem Run.new {dss:List (List Dd)}(hb:workB dss=true):Run dss (newM dss):=⟨_,_,_,_,new_sim hb⟩
theorem Run.step {dss:List (List Dd)}(hb:workB dss=true){b:Bd}(h:Run dss b){s:Int}(hs:isB (possM dss b) s=true):Run dss (stepM dss (eventsB dss) b s):=by
 obtain⟨a,τ,T,z,M,B⟩:=h;obtain⟨a',τ',z',M',B'⟩:=step_sim hb M B hs;exact⟨a',τ',_,z',M',B'⟩
theorem Run.board {dss:List (List Dd)}(hb:workB dss=true){b:Bd}(h:Run dss b):boardB dss b=true:=by
 obtain⟨a,τ,T,z,M,_⟩:=h;exact mi_board hb M
theorem run_hit {dss:List (List Dd)}{es:List Ev}{b:Bd}{steps:List Int}{k:Nat}(hk:k<steps.length)(h:isB (possM dss (runM dss es b (steps.take k))) (steps.getD k 0)=true):runM dss es b (steps.take (k+1))=stepM dss es (runM dss es b (steps.take k)) (steps.getD k 0):=by
 rw[List.take_add_one,List.getElem?_eq_getElem hk,run_app];have e:steps.getD k 0=steps[k]:=by rw[List.getD_eq_getElem?_getD,List.getElem?_eq_getElem hk];rfl
 rw[e] at h ⊢;show runM dss es _ [steps[k]]=_;rw[runM,if_pos h];rfl
theorem run_miss {dss:List (List Dd)}{es:List Ev}{b:Bd}{steps:List Int}{k:Nat}(hk:k<steps.length)(h:isB (possM dss (runM dss es b (steps.take k))) (steps.getD k 0)=false):runM dss es b (steps.take (k+1))=runM dss es b (steps.take k):=by
 rw[List.take_add_one,List.getElem?_eq_getElem hk,run_app];have e:steps.getD k 0=steps[k]:=by rw[List.getD_eq_getElem?_getD,List.getElem?_eq_getElem hk];rfl
 rw[e] at h;show runM dss es _ [steps[k]]=_;rw[runM,if_neg (by rw[h];simp)];rfl
theorem board_all {dss:List (List Dd)}{b:Bd}(h:boardB dss b=true):workB dss=true∧b.plc.length=3∧b.lst.length=3∧b.rws.length=3∧b.nts.length=dss.length∧b.nxt.length=dss.length∧b.sn.length≤12∧b.fr.length≤12∧(∀i,i<3→(b.rws.getD i []).length≤20)∧∀i,i<dss.length→(b.nts.getD i []).length≤8:=by
 unfold boardB shapeB fillB rowsBd at h;simp only[Bool.and_eq_true,decide_eq_true_eq] at h;obtain⟨⟨h1,h2,h3,h4,h5,h6⟩,⟨_,_,_,_,h7,h8⟩,h9,h10⟩:=h;unfold allB at h7 h8;simp only[Bool.and_eq_true,decide_eq_true_eq] at h7 h8;refine⟨h1,h2,h3,h4,h5,h6,h7.2,h8.2,fun i hi=>?_,fun i hi=>?_⟩
 ·
  have:=List.all_eq_true.1 h9 i (List.mem_range.2 hi);unfold allB at this;simp only[Bool.and_eq_true,decide_eq_true_eq] at this;exact this.2
 ·
  have:=List.all_eq_true.1 h10 i (List.mem_range.2 hi);unfold ckB at this;simp only[Bool.and_eq_true,decide_eq_true_eq] at this;exact this.2.1
theorem work_small {dss:List (List Dd)}(h:workB dss=true):dss.length≤3∧∀i,i<dss.length→(dss.getD i []).length≤1048576:=by
 obtain⟨h1,h2⟩:=workB_useR h;refine⟨h1,fun i hi=>?_⟩;have hq:=h2 i hi;unfold okL at hq;rw[Bool.and_eq_true,decide_eq_true_eq] at hq;omega
section
structure Rw where
 e:TypeId
 size:Nat
 v:Value
 n:Nat
 xs:List Value
def Rw.own (w:World)(m:Nat)(r:Rw):Prop:=w.ownsRow m r.e r.size r.v r.n r.xs
def upd {ι:Type}[DecidableEq ι](R:ι→Rw)(i:ι)(r:Rw):ι→Rw:=fun j=>if j=i then r else R j
theorem upd_same {ι:Type}[DecidableEq ι](R:ι→Rw)(i:ι)(r:Rw):upd R i r i=r:=if_pos rfl
theorem upd_other {ι:Type}[DecidableEq ι](R:ι→Rw){i j:ι}(r:Rw)(h:j≠i):upd R i r j=R j:=if_neg h
structure Fam {ι:Type}(w:World)(m:Nat)(live:ι→Prop)(R:ι→Rw):Prop where
 own:∀i,live i→(R i).own w m
 apart:∀i j,live i→live j→i≠j→(R i).v.ownBlock=none∨(R i).v.ownBlock≠(R j).v.ownBlock
section
variable {ι:Type} {w w':World} {m:Nat} {live:ι→Prop} {R:ι→Rw}
theorem Fam.lt (h:Fam w m live R){i:ι}(hi:live i):∀k,(R i).v.ownBlock=some k→m≤k∧k<w.heap.size:=World.ownsRow.lt (h.own i hi)
theorem Fam.keep (h:Fam w m live R)(k:Keep w w'):Fam w' m live R:=
 ⟨fun i hi=>World.ownsRow.kept (h.own i hi) k.grownBy (by cases (R i).v.ownBlock<;>simp),h.apart⟩
theorem Fam.far (h:Fam w m live R){row:Option Nat}(hg:w.grownBy w' row)(hr:∀i,live i→(R i).v.ownBlock=none∨(R i).v.ownBlock≠row):Fam w' m live R:=
 ⟨fun i hi=>World.ownsRow.kept (h.own i hi) hg (hr i hi),h.apart⟩
theorem Fam.congr (h:Fam w m live R){live':ι→Prop}{R':ι→Rw}(hl:∀i,live' i→live i)(hr:∀i,live' i→R' i=R i):Fam w m live' R':=
 ⟨fun i hi=>by rw[hr i hi];exact h.own i (hl i hi),fun i j hi hj hij=>by rw[hr i hi,hr j hj];exact h.apart i j (hl i hi) (hl j hj) hij⟩
variable [DecidableEq ι]
theorem Fam.set (h:Fam w m live R){i:ι}(hi:live i){r:Rw}(hg:w.grownBy w' (R i).v.ownBlock)(hb:r.v.ownBlock=(R i).v.ownBlock∨r.v.ownBlock=some w.heap.size∨r.v.ownBlock=none)(ho:r.own w' m):Fam w' m live (upd R i r):=by
 refine⟨fun j hj=>?_,fun j k hj hk hjk=>?_⟩
 ·
  by_cases e:j=i
  · subst e;rw[upd_same];exact ho
  ·
   rw[upd_other R r e];exact World.ownsRow.kept (h.own j hj) hg (h.apart j i hj hi e)
 ·
  have new:∀j,live j→j≠i→(R j).v.ownBlock=none∨(R j).v.ownBlock≠some w.heap.size:=fun j hj _=>by
   cases e:(R j).v.ownBlock with
   |none=>exact .inl rfl
   |some b=>exact .inr (fun e'=>by have:=(h.lt hj b e).2;have:=Option.some.inj e';omega)
  by_cases ej:j=i
  ·
   subst ej;have ek:k≠j:=fun e=>hjk e.symm
   rw[upd_same,upd_other R r ek];rcases hb with hb|hb|hb
   · rw[hb];exact h.apart j k hj hk hjk
   ·
    rw[hb];right;intro e;rcases new k hk ek with h1|h1
    · rw[h1] at e;cases e
    · exact h1 e.symm
   · exact .inl hb
  ·
   rw[upd_other R r ej];by_cases ek:k=i
   ·
    subst ek;rw[upd_same];rcases hb with hb|hb|hb
    · rw[hb];exact h.apart j k hj hk hjk
    · rw[hb];exact new j hj ej
    ·
     rw[hb]
     cases (R j).v.ownBlock with
     |none=>exact .inl rfl
     |some b=>exact .inr (by simp)
   ·
    rw[upd_other R r ek];exact h.apart j k hj hk hjk
theorem Fam.add (h:Fam w m live R){i:ι}(hi:¬live i){r:Rw}{s:Nat}(hs:s=w.heap.size)(k:Keep w w')(ho:r.own w' m)(hn:∀b,r.v.ownBlock=some b→s≤b):Fam w' m (fun j=>live j∨j=i) (upd R i r):=by
 have hk:=h.keep k
 have new:∀j,live j→(R j).v.ownBlock=none∨(R j).v.ownBlock≠r.v.ownBlock:=fun j hj=>by
  cases e:(R j).v.ownBlock with
  |none=>exact .inl rfl
  |some b=>exact .inr (fun e'=>by have:=(h.lt hj b e).2;have:=hn b e'.symm;omega)
 have ne:∀j,live j→j≠i:=fun j hj e=>hi (e ▸ hj)
 refine⟨fun j hj=>?_,fun j l hj hl hjl=>?_⟩
 ·
  rcases hj with hj|rfl
  · rw[upd_other R r (ne j hj)];exact hk.own j hj
  · rw[upd_same];exact ho
 ·
  rcases hj with hj|rfl
  ·
   rw[upd_other R r (ne j hj)];rcases hl with hl|rfl
   · rw[upd_other R r (ne l hl)];exact h.apart j l hj hl hjl
   · rw[upd_same];exact new j hj
  ·
   rw[upd_same];rcases hl with hl|rfl
   ·
    rw[upd_other R r (ne l hl)];rcases new l hl with h1|h1
    ·
     rw[h1]
     cases r.v.ownBlock with
     |none=>exact .inl rfl
     |some b=>exact .inr (by simp)
    · exact .inr (fun e=>h1 e.symm)
   · exact absurd rfl hjl
end
theorem Rw.cell {w:World}{m:Nat}{r:Rw}(h:r.own w m){g cap k:Nat}(hv:r.v = .slice (some ⟨g,0,none⟩) r.n cap)(hk:k<r.n*r.size):w.cell? ⟨g,k,none⟩=r.xs[k]?:=by
 unfold Rw.own at h;rw[hv] at h;exact World.ownsRow.cellAt h k hk
theorem Rw.put {w:World}{m:Nat}{r:Rw}(h:r.own w m){g cap k:Nat}(hv:r.v = .slice (some ⟨g,0,none⟩) r.n cap)(x:Value):Rw.own (w.setCell ⟨g,k,none⟩ x) m { r with xs:=r.xs.set k x }∧w.grownBy (w.setCell ⟨g,k,none⟩ x) r.v.ownBlock∧w.frozen? ⟨g,k,none⟩=false:=by
 unfold Rw.own at h ⊢;rcases h.2 with ⟨h1,_⟩|⟨g',cap',cur,h1,hb,hg,hn,hm,hs,ht⟩
 · rw[hv] at h1;simp at h1
 ·
  rw[hv] at h1;simp only[Value.slice.injEq,Option.some.injEq,Addr.mk.injEq,and_true,true_and] at h1;obtain⟨rfl,rfl⟩:=h1;refine⟨⟨by simpa using h.1,.inr ⟨g,cap,cur.setIfInBounds k x,hv,hb,heap_setCell_same w g k _ _ _ hg,hn,hm,by simpa using hs,?_⟩⟩,?_,frozen_of_row w g k _ _ hg⟩
  · rw[Array.toList_setIfInBounds,List.take_set,ht]
  ·
   rw[hv];exact grown_set w g k x
end
section
section
variable {P:Program} {ops:Array Oper} {Q:Exit→Act→World→Prop} {md:Region.Mode}
def leftN (listed:Array Bool):Nat:=listed.toList.countP (fun b=>!b)
theorem count_set:∀(l:List Bool) (i:Nat),l[i]? = some false→(l.set i true).countP (fun b=>!b)+1=l.countP (fun b=>!b)
 | [],i,h=>by simp at h
 |x::r,0,h=>by
  simp at h;subst h;simp
 |x::r,i+1,h=>by
  have ih:=count_set r i (by simpa using h);rw[List.set_cons_succ,List.countP_cons,List.countP_cons];omega
theorem leftN_set {listed:Array Bool}{i:Nat}(h:listed[i]? = some false):leftN (listed.setIfInBounds i true)+1=leftN listed:=by
 unfold leftN;rw[Array.toList_setIfInBounds];exact count_set _ _ (by rw[Array.getElem?_toList];exact h)
theorem ready_use {listed:Array Bool}{i:Nat}(h:i∈Region.ready md ops listed):i<ops.size∧listed[i]? = some false∧∀o,ops[i]? = some o→o.after.all (fun e=>!Region.binds md e||listed.getD e.on false)=true:=by
 unfold Region.ready at h;rw[List.mem_filter,List.mem_range] at h;obtain⟨h1,h2⟩:=h;simp only[Bool.and_eq_true,Bool.not_eq_true'] at h2;refine⟨h1,?_,fun o ho=>?_⟩
 ·
  have h3:=h2.1;rw[Array.getD_eq_getD_getElem?] at h3
  cases e:listed[i]? with
  |none=>rw[e] at h3;cases h3
  |some b=>rw[e] at h3;simp at h3;rw[h3]
 ·
  have h3:=h2.2;rw[ho] at h3
  simpa using h3
theorem wpAny_inv (J:Array Bool→Act→World→Prop)
  (step:∀listed a w,J listed a w→∀i,i∈Region.ready md ops listed→wpOp P ops Q i (fun a' w'=>J (listed.setIfInBounds i true) a' w') a w)
  (done:∀listed a w,J listed a w→Region.ready md ops listed=[]→Q .normal a w):
  ∀(fuel:Nat) (listed:Array Bool) (a:Act) (w:World),leftN listed≤fuel→J listed a w→wpAny P md ops Q fuel listed a w
 | 0,listed,a,w,hl,hJ=>by
  have hr:Region.ready md ops listed=[]:=by
   cases h:Region.ready md ops listed with
   |nil=>rfl
   |cons i r=>
    exfalso;have h2:=(ready_use (md:=md) (ops:=ops) (listed:=listed) (i:=i) (by rw[h];simp)).2.1;have:=leftN_set h2;omega
  exact⟨hr,done listed a w hJ hr⟩
 |fuel+1,listed,a,w,hl,hJ=>by
  refine⟨fun hr=>done listed a w hJ hr,fun i hi=>?_⟩;refine wpOp_mono (fun a' w' hJ'=>wpAny_inv J step done fuel _ a' w' ?_ hJ') (step listed a w hJ i hi);have:=leftN_set (ready_use hi).2.1;omega
theorem leftN_none (n:Nat):leftN (Array.replicate n false)=n:=by
 unfold leftN;rw[Array.toList_replicate];simp[List.countP_replicate]
theorem wp_region_inv {id:Nat}{a:Act}{w:World}(hm:P.follows .mixedOrders=true)(J:Array Bool→Act→World→Prop)
  (start:J (Array.replicate ops.size false) a w.drew)
  (step:∀listed a w,J listed a w→∀i,i∈Region.ready .any ops listed→wpOp P ops Q i (fun a' w'=>J (listed.setIfInBounds i true) a' w') a w)
  (done:∀listed a w,J listed a w→Region.ready .any ops listed=[]→Q .normal a w):(Code.region id ops true).wp P Q a w:=
 wp_region_any hm (wpAny_inv J step done ops.size _ a _ (by rw[leftN_none];exact Nat.le_refl _) start)
end
end
theorem Own.lit {w:World}{base:Nat}{v:Value}{zs:List Int}(h:Own w base v zs){k:Nat}(hk:k<zs.length):∃g cap,v = .slice (some ⟨g,0,none⟩) zs.length cap∧g<w.heap.size∧(∀i,i<zs.length→w.cell? ⟨g,i,none⟩=some (.int .i64 (zs.getD i 0)))∧∀i,w.frozen? ⟨g,i,none⟩=false:=by
 have h':=h;have hlt:=World.ownsRow.lt h;rcases h.2 with ⟨_,hn⟩|⟨g,cap,cur,rfl,_⟩
 · omega
 ·
  refine⟨g,cap,rfl,(hlt g rfl).2,fun i hi=>?_,fun i=>World.ownsRow.frozenAt h' i⟩;rw[World.ownsRow.cellAt h' i (by simpa using hi),List.getElem?_map,List.getElem?_eq_getElem hi,List.getD_eq_getElem?_getD,List.getElem?_eq_getElem hi];rfl
def evT (es:List Ev)(c k i:Nat):Bool:=((es.getD i zE).1==(c:Int))&&((es.getD i zE).2.1==(k:Int))
theorem evM_hit {es:List Ev}{c k i:Nat}(h3:3≤i)(hi:i<es.length)(hn:∀j,3≤j→j<i→evT es c k j=false)(h:evT es c k i=true):evM es c k=(i:Int):=by
 unfold evM
 have e:(List.range es.length).find? (fun i=>decide (3≤i)&&((es.getD i zE).1==(c:Int))&&((es.getD i zE).2.1==(k:Int)))=some i:=by
  rw[List.find?_eq_some_iff_getElem];refine⟨?_,i,by simpa using hi,by simp,fun j hj=>?_⟩
  ·
   unfold evT at h;rw[Bool.and_assoc,h];simp[h3]
  ·
   simp only[List.getElem_range];by_cases h3:3≤j
   ·
    have:=hn j h3 hj;unfold evT at this;rw[Bool.and_assoc,this];simp
   · simp[h3]
 rw[e]
theorem evM_none {es:List Ev}{c k:Nat}(hn:∀j,3≤j→j<es.length→evT es c k j=false):evM es c k=-1:=by
 unfold evM
 have e:(List.range es.length).find? (fun i=>decide (3≤i)&&((es.getD i zE).1==(c:Int))&&((es.getD i zE).2.1==(k:Int)))=none:=by
  rw[List.find?_eq_none];intro j hj;by_cases h3:3≤j
  ·
   have:=hn j h3 (List.mem_range.1 hj);unfold evT at this;rw[Bool.and_assoc,this];simp
  · simp[h3]
 rw[e]
theorem evM_in (es:List Ev)(c k:Nat)(h:es.length≤12):-1≤evM es c k∧evM es c k≤12:=by
 unfold evM;split
 ·
  rename_i i e;have:=List.mem_range.1 (List.mem_of_find?_eq_some e);omega
 · omega
def setK (rs:List Int)(ev v:Int)(l:List Int):Nat→List Int
 | 0=>l
 |k+1=>if decide (rs.getD k 0=ev)=true then (setK rs ev v l k).set k v else setK rs ev v l k
theorem setK_len (rs:List Int)(ev v:Int)(l:List Int):∀k:Nat,(setK rs ev v l k).length=l.length
 | 0=>rfl
 |k+1=>by rw[setK];split<;>simp[setK_len rs ev v l k]
theorem setK_get {rs:List Int}{ev v:Int}{l:List Int}:∀(k j:Nat),j<l.length→(setK rs ev v l k)[j]? = if j<k∧rs.getD j 0=ev then some v else l[j]?
 | 0,j,h=>by simp[setK]
 |k+1,j,h=>by
  have ih:=setK_get (rs:=rs) (ev:=ev) (v:=v) k j h;rw[setK];by_cases e:rs.getD k 0=ev
  ·
   rw[if_pos (decide_eq_true e),List.getElem?_set,setK_len];by_cases ej:k=j
   ·
    subst ej;rw[if_pos rfl,if_pos h,if_pos ⟨by omega,e⟩]
   ·
    rw[if_neg ej,ih];by_cases h1:j<k∧rs.getD j 0=ev
    · rw[if_pos h1,if_pos ⟨by omega,h1.2⟩]
    · rw[if_neg h1,if_neg (fun h2=>h1 ⟨by omega,h2.2⟩)]
  ·
   rw[if_neg (by simpa using e),ih];by_cases h1:j<k∧rs.getD j 0=ev
   · rw[if_pos h1,if_pos ⟨by omega,h1.2⟩]
   ·
    rw[if_neg h1,if_neg (fun h2=>?_)];by_cases ej:j=k
    · subst ej;exact e h2.2
    · exact h1 ⟨by omega,h2.2⟩
theorem setK_same {rs:List Int}{ev v:Int}{l:List Int}(h:l.length=rs.length):setK rs ev v l rs.length=setR rs ev v l:=by
 apply List.ext_getElem?;intro j;unfold setR;by_cases hj:j<l.length
 ·
  rw[setK_get _ _ hj,List.getElem?_zipWith];rw[List.getElem?_eq_getElem hj,List.getElem?_eq_getElem (show j<rs.length by omega)];have e:rs.getD j 0=rs[j]'(by omega):=by rw[List.getD_eq_getElem?_getD,List.getElem?_eq_getElem (show j<rs.length by omega)];rfl
  simp only[e];by_cases h1:rs[j]'(by omega)=ev
  · rw[if_pos ⟨by omega,h1⟩];simp[h1]
  · rw[if_neg (fun h2=>h1 h2.2)];simp[h1]
 · rw[List.getElem?_eq_none (by rw[setK_len];omega),List.getElem?_eq_none (by rw[List.length_zipWith];omega)]
def canK (dss:List (List Dd))(b:Bd)(k:Nat):List Int:=((List.range k).filter (canM dss b)).map (fun c:Nat=>(c:Int))
theorem canK_hit {dss:List (List Dd)}{b:Bd}{k:Nat}(h:canM dss b k=true):canK dss b (k+1)=canK dss b k++[(k:Int)]:=by
 unfold canK;rw[List.range_succ,List.filter_append,List.map_append];simp[h]
theorem canK_miss {dss:List (List Dd)}{b:Bd}{k:Nat}(h:canM dss b k=false):canK dss b (k+1)=canK dss b k:=by
 unfold canK;rw[List.range_succ,List.filter_append,List.map_append];simp[h]
def ntK (b:Bd)(k:Nat):List Int:=((List.range k).filter (fun c=>!(b.nts.getD c []).isEmpty)).map (fun c:Nat=>10+(c:Int))
theorem ntK_hit {b:Bd}{k:Nat}(h:0<(b.nts.getD k []).length):ntK b (k+1)=ntK b k++[10+(k:Int)]:=by
 have:(b.nts.getD k []).isEmpty=false:=by
  cases e:b.nts.getD k [] with
  |nil=>rw[e] at h;simp at h
  |cons x l=>rfl
 unfold ntK;rw[List.range_succ,List.filter_append,List.map_append];simp only[List.filter_cons,this,Bool.not_false,if_true,List.filter_nil,List.map_cons,List.map_nil]
theorem ntK_miss {b:Bd}{k:Nat}(h:¬ 0<(b.nts.getD k []).length):ntK b (k+1)=ntK b k:=by
 have:(b.nts.getD k []).isEmpty=true:=by
  cases e:b.nts.getD k [] with
  |nil=>rfl
  |cons x l=>rw[e] at h;simp at h
 unfold ntK;rw[List.range_succ,List.filter_append,List.map_append];simp only[List.filter_cons,this,Bool.not_true,Bool.false_eq_true,if_false,List.filter_nil,List.map_nil,List.append_nil]
theorem poss_same (dss:List (List Dd))(b:Bd):canK dss b dss.length++ntK b dss.length=possM dss b:=rfl
theorem canK_len (dss:List (List Dd))(b:Bd)(k:Nat):(canK dss b k).length≤k:=by
 unfold canK;rw[List.length_map];exact Nat.le_trans (List.length_filter_le _ _) (by simp)
theorem ntK_len (b:Bd)(k:Nat):(ntK b k).length≤k:=by
 unfold ntK;rw[List.length_map];exact Nat.le_trans (List.length_filter_le _ _) (by simp)
structure Shp (dss:List (List Dd))(b:Bd)(n:Nat):Prop where
 work:workB dss=true
 plc:b.plc.length=3
 lst:b.lst.length=3
 rws:b.rws.length=3
 nts:b.nts.length=dss.length
 nxt:b.nxt.length=dss.length
 sn:b.sn.length=(idxB rdE (eventsB dss)).length
 fr:b.fr.length=(idxB rdE (eventsB dss)).length
 rl:∀p,(b.rws.getD p []).length≤n
 nl:∀c,(b.nts.getD c []).length≤n
theorem Shp.mono {dss:List (List Dd)}{b:Bd}{n m:Nat}(h:Shp dss b n)(hm:n≤m):Shp dss b m:=
 ⟨h.work,h.plc,h.lst,h.rws,h.nts,h.nxt,h.sn,h.fr,fun p=>Nat.le_trans (h.rl p) hm,fun c=>Nat.le_trans (h.nl c) hm⟩
theorem set_len_le {α:Type}{l:List (List α)}{n:Nat}(h:∀i,(l.getD i []).length≤n)(k:Nat)(z:List α)(hz:z.length≤n):∀i,((l.set k z).getD i []).length≤n:=fun i=>by
 rw[List.getD_eq_getElem?_getD,List.getElem?_set];by_cases e:k=i
 ·
  rw[if_pos e];by_cases hk:k<l.length
  · rw[if_pos hk];exact hz
  · rw[if_neg hk];simp
 · rw[if_neg e,←List.getD_eq_getElem?_getD];exact h i
theorem setR_len {rs:List Int}{ev v:Int}{l:List Int}(h:l.length=rs.length):(setR rs ev v l).length=rs.length:=by unfold setR;rw[List.length_zipWith];omega
theorem Shp.see {dss:List (List Dd)}{b:Bd}{n:Nat}(h:Shp dss b n)(ev v f:Int):Shp dss (seeM (idxB rdE (eventsB dss)) b ev v f) n:=
 ⟨h.work,h.plc,h.lst,h.rws,h.nts,h.nxt,setR_len h.sn,setR_len h.fr,h.rl,h.nl⟩
theorem Shp.ink {dss:List (List Dd)}{b:Bd}{n:Nat}(h:Shp dss b n)(p:Nat)(v ev:Int):Shp dss (inkM b p v ev) (n+1):=
 ⟨h.work,by simp[inkM,h.plc],by simp[inkM,h.lst],by simp[inkM,h.rws],h.nts,h.nxt,h.sn,h.fr,
  set_len_le (fun i=>Nat.le_succ_of_le (h.rl i)) p _ (by have:=h.rl p;rw[List.length_append,List.length_singleton];omega),fun c=>Nat.le_succ_of_le (h.nl c)⟩
theorem Shp.note {dss:List (List Dd)}{b:Bd}{n:Nat}(h:Shp dss b n)(c:Nat)(x:Nt):Shp dss { b with nts:=b.nts.set c (b.nts.getD c []++[x]) } (n+1):=
 ⟨h.work,h.plc,h.lst,h.rws,by simp[h.nts],h.nxt,h.sn,h.fr,fun p=>Nat.le_succ_of_le (h.rl p),
  set_len_le (fun i=>Nat.le_succ_of_le (h.nl i)) c _ (by have:=h.nl c;rw[List.length_append,List.length_singleton];omega)⟩
theorem Shp.less {dss:List (List Dd)}{b:Bd}{n:Nat}(h:Shp dss b n)(c:Nat)(l:List Nt)(hl:l.length≤n):Shp dss { b with nts:=b.nts.set c l } n:=
 ⟨h.work,h.plc,h.lst,h.rws,by simp[h.nts],h.nxt,h.sn,h.fr,h.rl,set_len_le h.nl c _ hl⟩
theorem Shp.deed {dss:List (List Dd)}{b:Bd}{n:Nat}(h:Shp dss b n)(c k:Nat):Shp dss (deedM dss (eventsB dss) b c k) (n+1):=by
 unfold deedM;split
 · exact (h.see _ _ _).mono (Nat.le_succ n)
 ·
  split
  · exact (h.see _ _ _).ink _ _ _
  ·
   split
   · exact h.ink _ _ _
   ·
    split
    · exact h.note c _
    · exact h.mono (Nat.le_succ n)
theorem Shp.next {dss:List (List Dd)}{b:Bd}{n:Nat}(h:Shp dss b n)(c:Nat)(x:Int):Shp dss { b with nxt:=b.nxt.set c x } n:=
 ⟨h.work,h.plc,h.lst,h.rws,h.nts,by simp[h.nxt],h.sn,h.fr,h.rl,h.nl⟩
theorem deed_nxt (dss:List (List Dd))(es:List Ev)(b:Bd)(c k:Nat):(deedM dss es b c k).nxt=b.nxt:=by
 unfold deedM;split
 · rfl
 ·
  split
  · rfl
  ·
   split
   · rfl
   · split<;>rfl
theorem Shp.one {dss:List (List Dd)}{b:Bd}{n:Nat}(h:Shp dss b n)(c:Nat):Shp dss (oneM dss (eventsB dss) b c) (n+1):=by
 have:=(h.deed c (nxN b c)).next c (b.nxt.getD c 0+1);rw[deed_nxt] at this;exact this
theorem Shp.of {dss:List (List Dd)}{b:Bd}(h:boardB dss b=true):Shp dss b 20:=by
 simp only[boardB,shapeB,fillB,rowsBd,Bool.and_eq_true,decide_eq_true_eq] at h;obtain⟨⟨hw,h1,h2,h3,h4,h5⟩,⟨h6,h7,-⟩,h8,h9⟩:=h;refine⟨hw,h1,h2,h3,h4,h5,h6,h7,fun p=>?_,fun c=>?_⟩
 ·
  by_cases hp:p<3
  ·
   have:=List.all_eq_true.1 h8 p (List.mem_range.2 hp);simp only[allB,Bool.and_eq_true,decide_eq_true_eq] at this;exact this.2
  · rw[List.getD_eq_getElem?_getD,List.getElem?_eq_none (by omega)];simp
 ·
  by_cases hc:c<dss.length
  ·
   have:=List.all_eq_true.1 h9 c (List.mem_range.2 hc);simp only[ckB,Bool.and_eq_true,decide_eq_true_eq] at this;omega
  · rw[List.getD_eq_getElem?_getD,List.getElem?_eq_none (by omega)];simp
theorem board_clerk {dss:List (List Dd)}{b:Bd}(h:boardB dss b=true){c:Nat}(hc:c<dss.length):0≤b.nxt.getD c 0∧b.nxt.getD c 0≤((dss.getD c []).length:Int):=by
 simp only[boardB,Bool.and_eq_true] at h;have:=List.all_eq_true.1 h.2.2.2 c (List.mem_range.2 hc);simp only[ckB,Bool.and_eq_true,decide_eq_true_eq] at this;exact this.1
end Go.Proofs.YtgikcfdckddgpaaGreat
