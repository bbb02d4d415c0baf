/- Gathered texts. -/
import Derived.Test.YtkmjmnljkidobaaGreatMF
set_option maxRecDepth 100000
set_option maxHeartbeats 8000000
namespace Go.Proofs.YtkmjmnljkidobaaGreat
open Go.RowKit
def aheadB (dss:List (List Dd))(b:Bd)(c:Nat):Bool:=canM dss b c&&(decide ((dAt dss c (nxN b c)).1=4)||(decide ((dAt dss c (nxN b c)).1=2)&&decide (gAt dss c (nxN b c)=0)))
def aheadM (dss:List (List Dd))(es:List Ev)(c:Nat):Nat→Bd×List Int→Bd×List Int
 | 0,p=>p
 |m+1,p=>if aheadB dss p.1 c=true then aheadM dss es c m (stepM dss es p.1 (c:Int),p.2++[(c:Int)]) else p
def goesM (dss:List (List Dd))(es:List Ev):List Int→Bd→Bool
 | [],_=>true
 |s::r,b=>isB (possM dss b) s&&goesM dss es r (stepM dss es b s)
theorem goes_snoc {dss:List (List Dd)}{es:List Ev}:∀(l:List Int) (b:Bd) (s:Int),goesM dss es l b=true→isB (possM dss (runM dss es b l)) s=true→goesM dss es (l++[s]) b=true∧runM dss es b (l++[s])=stepM dss es (runM dss es b l) s
 | [],b,s,_,h2=>by
  have h2':isB (possM dss b) s=true:=h2;refine⟨by show (isB (possM dss b) s&&true)=true;rw[h2'];rfl,?_⟩;show (if isB (possM dss b) s=true then stepM dss es b s else b)=stepM dss es b s;rw[if_pos h2']
 |x::l,b,s,h1,h2=>by
  rw[goesM,Bool.and_eq_true] at h1;rw[runM,if_pos h1.1] at h2;obtain⟨e1,e2⟩:=goes_snoc l (stepM dss es b x) s h1.2 h2;rw[List.cons_append,goesM,runM,h1.1,e1,if_pos rfl,e2,runM,if_pos h1.1];exact⟨rfl,rfl⟩
structure Way0 (dss:List (List Dd))(p:Bd×List Int):Prop where
 goes:goesM dss (eventsB dss) p.2 (newM dss)=true
 run:runM dss (eventsB dss) (newM dss) p.2=p.1
theorem Way0.step {dss:List (List Dd)}{p:Bd×List Int}(h:Way0 dss p){s:Int}(hs:isB (possM dss p.1) s=true):Way0 dss (stepM dss (eventsB dss) p.1 s,p.2++[s]):=by
 obtain⟨e1,e2⟩:=goes_snoc p.2 (newM dss) s h.goes (by rw[h.run];exact hs);exact⟨e1,by rw[e2,h.run]⟩
theorem poss_can {dss:List (List Dd)}{b:Bd}{c:Nat}(hc:c<dss.length)(h:canM dss b c=true):isB (possM dss b) (c:Int)=true:=by
 refine mem_isB ?_;unfold possM;exact List.mem_append_left _ (List.mem_map.2 ⟨c,List.mem_filter.2 ⟨List.mem_range.2 hc,h⟩,rfl⟩)
theorem poss_flush {dss:List (List Dd)}{b:Bd}{c:Nat}(hc:c<dss.length)(h:b.nts.getD c []≠[]):isB (possM dss b) (10+(c:Int))=true:=by
 refine mem_isB ?_;unfold possM;refine List.mem_append_right _ (List.mem_map.2 ⟨c,List.mem_filter.2 ⟨List.mem_range.2 hc,?_⟩,rfl⟩)
 cases hq:b.nts.getD c [] with
 |nil=>exact absurd hq h
 |cons _ _=>rfl
theorem can_rep {dss:List (List Dd)}{b:Bd}{a:Ab}(R:Rep dss b a){c:Nat}(hc:c<dss.length):canM dss b c=(decide (a.nx c<(dss.getD c []).length)&&((decide ((dAt dss c (a.nx c)).1≤2)&&decide (gAt dss c (a.nx c)=0))||(a.N c).isEmpty)):=by
 unfold canM;rw[(nx_at R hc).2,nts_at R hc]
 congr 2
 cases a.N c<;>rfl
theorem three_of {dss:List (List Dd)}(hb:workB dss=true):dss.length≤3:=by
 simp only[workB,Bool.and_eq_true,decide_eq_true_eq] at hb;exact hb.1.1.1.1.2
theorem step_zero {dss:List (List Dd)}(hb:workB dss=true){b:Bd}{c:Nat}(hc:c<dss.length)(hk:nxN b c<(dss.getD c []).length)(hg:gAt dss c (nxN b c)=0):stepM dss (eventsB dss) b (c:Int)=oneM dss (eventsB dss) b c:=by
 have:=three_of hb;unfold stepM;rw[if_neg (by omega),Int.toNat_natCast,hg]
 cases hq:(dss.getD c []).length with
 |zero=>omega
 |succ m=>rw[goM,if_pos (.inl rfl)]
theorem ahead_idle {dss:List (List Dd)}{f rows:List Int}{Q:Int→Prop}(hb:workB dss=true){c:Nat}(hc:c<dss.length):∀(m:Nat) (p:Bd×List Int) (a:Ab) (τ:Nat→Nat) (Tm:Nat) (z:Int),Idle dss f rows Q p.1 a τ Tm z→Way0 dss p→(dss.getD c []).length≤a.nx c+m →
  ∃a' τ' T' z',Idle dss f rows Q (aheadM dss (eventsB dss) c m p).1 a' τ' T' z'∧Way0 dss (aheadM dss (eventsB dss) c m p)∧aheadB dss (aheadM dss (eventsB dss) c m p).1 c=false∧(∀c',c'≠c→a'.nx c'=a.nx c'∧a'.N c'=a.N c')
 | 0,p,a,τ,Tm,z,C,W,hm=>by
  refine⟨a,τ,Tm,z,C,W,?_,fun _ _=>⟨rfl,rfl⟩⟩;show aheadB dss p.1 c=false;unfold aheadB;rw[can_rep C.mi.rep hc,decide_eq_false (by omega)];rfl
 |m+1,p,a,τ,Tm,z,C,W,hm=>by
  rw[aheadM]
  cases ha:aheadB dss p.1 c with
  |false=>
   rw[if_neg (by simp)];exact⟨a,τ,Tm,z,C,W,ha,fun _ _=>⟨rfl,rfl⟩⟩
  |true=>
   rw[if_pos rfl];have hn:=(nx_at C.mi.rep hc).2;unfold aheadB at ha;rw[Bool.and_eq_true] at ha;obtain⟨hcan,hkd⟩:=ha;have W':=W.step (poss_can hc hcan);rw[can_rep C.mi.rep hc] at hcan;rw[hn] at hkd;simp only[Bool.and_eq_true,Bool.or_eq_true,decide_eq_true_eq,List.isEmpty_iff] at hcan hkd
   have hg0:gAt dss c (a.nx c)=0:=by
    rcases hkd with h|h
    ·
     apply Classical.byContradiction;intro hg;exact (num_grp (okC_of hb hc) hcan.1 hg).1 h
    · exact h.2
   have hst:=step_zero hb hc (b:=p.1) (by rw[hn];exact hcan.1) (by rw[hn];exact hg0);rw[hst] at W' ⊢;rcases hkd with h4|⟨h2,hg⟩
   ·
    have hN:a.N c=[]:=by
     rcases hcan.2 with h|h
     · omega
     · exact h
    have C':=CI_wait hb C hc hcan.1 h4 hN;obtain⟨a',τ',T',z',q1,q2,q3,q4⟩:=ahead_idle hb hc m (oneM dss (eventsB dss) p.1 c,p.2++[(c:Int)]) _ τ Tm z C' W' (by rw[nx_bump,if_pos rfl];omega);refine⟨a',τ',T',z',q1,q2,q3,fun c' h=>?_⟩;obtain⟨r1,r2⟩:=q4 c' h;rw[nx_bump,if_neg h] at r1;exact⟨r1,r2⟩
   ·
    have E:=ev_first hc hcan.1 (by omega:(dAt dss c (a.nx c)).1≠4);have h3:=cls_three hb hc hcan.1 E.kind;have C':=CI_note hb C hc hcan.1 h2 hg (by omega);have hnx:(noteA dss a c).nx=(bumpA a c).nx:=rfl;obtain⟨a',τ',T',z',q1,q2,q3,q4⟩:=ahead_idle hb hc m (oneM dss (eventsB dss) p.1 c,p.2++[(c:Int)]) _ τ Tm z C' W' (by rw[hnx,nx_bump,if_pos rfl];omega);refine⟨a',τ',T',z',q1,q2,q3,fun c' h=>?_⟩;obtain⟨r1,r2⟩:=q4 c' h;rw[hnx,nx_bump,if_neg h] at r1;refine⟨r1,?_⟩;rw[r2];show (if c'=c then _ else a.N c')=a.N c';rw[if_neg h]
theorem whole_iff {dss:List (List Dd)}{c k:Nat}(hok:OkC dss c)(hk:k<(dss.getD c []).length):wholeD (dAt dss c k)=true↔(dAt dss c k).1=3∨gAt dss c k≠0:=by
 have h0:0≤gAt dss c k:=(g_in hok hk).1;have e:wholeD (dAt dss c k)=(((dAt dss c k).1==3)||decide (0<gAt dss c k)):=rfl;rw[e];simp only[Bool.or_eq_true,beq_iff_eq,decide_eq_true_eq];generalize gAt dss c k=g at *;constructor
 ·
  rintro (h|h)
  · exact .inl h
  · exact .inr (by omega)
 ·
  rintro (h|h)
  · exact .inl h
  · exact .inr (by omega)
theorem sw_kept {dss:List (List Dd)}{f rows:List Int}(T:Told dss f rows){j i c k k' q q':Nat}(E:EvIs dss j c k q)(E':EvIs dss i c k' q')(hlt:j<i)
  (h:rdI (dAt dss c k) q=true∨rdI (dAt dss c k') q'=false∨waitsD (dss.getD c []) k k'=true∨wholeD (dAt dss c k)=true∨wholeD (dAt dss c k')=true):line (swL dss (eventsB dss) f rows) j i=true:=by
 have hb:=T.work;have l1:=E.lt hb;have l2:=E'.lt hb;have e1:=E.at hb;have e2:=E'.at hb;have hbeh:behP (eventsB dss) j i=true:=beh_is hlt (.inr ⟨l1.1,by rw[e1,e2]⟩)
 have hk:kepP dss (eventsB dss) j i=false:=by
  unfold kepP kepQ dOf rdE;rw[e1,e2];simp only[Int.toNat_natCast];rcases h with h|h|h|h|h<;>rw[h]<;>simp
 have:=(kep_line (dss:=dss) T.twelve).2 j i l1.2;rw[hbeh,hk,decide_eq_true l2.2] at this;rw[T.swl j i l1.2,this];rfl
theorem cls_low {dss:List (List Dd)}(hb:workB dss=true){c k:Nat}(hc:c<dss.length)(hk:k<(dss.getD c []).length)(h4:(dAt dss c k).1≠4):clsD dss c k≤(offN dss c k:Int):=by
 rcases cls_at (okC_of hb hc) hk h4 with ⟨_,e1⟩|⟨_,jj,j1,_,_,e1⟩
 · omega
 · have:=off_le dss c j1;omega
theorem note_not {dss:List (List Dd)}{b:Bd}{a:Ab}{τ:Nat→Nat}{Tm:Nat}{z:Int}(M:MI dss b a τ Tm z){c x:Nat}(hx:x∈a.N c):¬(stA dss a τ).D (sysW dss) x:=fun hd=>hd.2 (by rw[(M.inv.note (c:Int) x (by rw[st_N];exact hx)).2.2.1,st_N];exact hx)
theorem note_line {dss:List (List Dd)}{f rows:List Int}{Q:Int→Prop}{b:Bd}{a:Ab}{τ:Nat→Nat}{Tm:Nat}{z:Int}{c k:Nat}(F:Front dss f rows Q (clsD dss c k))(C:Idle dss f rows Q b a τ Tm z)(E:EvIs dss (offN dss c k) c k 0){x:Nat}(hx:x∈a.N c)(hne:x≠offN dss c k):¬line (swL dss (eventsB dss) f rows) x (offN dss c k)=true:=by
 intro h;have hb:=(told_of (each_parts (slow_each F.slow)).1).work;have hxn:=C.mi.inv.lt x (C.mi.inv.note (c:Int) x (by rw[st_N];exact hx)).1;have hk:=(E.lt hb).2;have s4:=(sys_at hb E).2.2.2;refine note_not C.mi hx ((idle_dq hb C hxn).2 (F.cl x _ hxn hk h (fun e=>hne (note_cls hb C.mi hx hk e).symm) (.inr s4)))
theorem pos_low {dss:List (List Dd)}{f rows:List Int}{Q:Int→Prop}{b:Bd}{a:Ab}{τ:Nat→Nat}{Tm:Nat}{z:Int}{c k:Nat}(F:Front dss f rows Q (clsD dss c k))(C:Idle dss f rows Q b a τ Tm z)(E:EvIs dss (offN dss c k) c k 0)(hfirst:clsD dss c k=(offN dss c k:Int))(ha:aheadB dss b c=false):k≤a.nx c:=by
 apply Classical.byContradiction;intro hlt;have hlt':a.nx c<k:=by omega
 have T:=told_of (each_parts (slow_each F.slow)).1;have hb:=T.work;have hc:=E.hc;have hk:=E.hk;have hm:a.nx c<(dss.getD c []).length:=by omega
 have hok:=okC_of hb hc;unfold aheadB at ha;rw[can_rep C.mi.rep hc,(nx_at C.mi.rep hc).2] at ha
 have low:(dAt dss c (a.nx c)).1≠4→(rdI (dAt dss c (a.nx c)) 0=true∨wholeD (dAt dss c (a.nx c))=true)→False:=by
  intro h4 hw;have E1:=ev_first hc hm h4;have hjk:offN dss c (a.nx c)<offN dss c k:=(E1.ord E).2 (.inr ⟨rfl,.inl hlt'⟩);have hl:=sw_kept T E1 E hjk (hw.elim (fun h => .inl h) (fun h => .inr (.inr (.inr (.inl h)))));have hcl:=cls_low hb hc hm h4;have hn1:=(E1.lt hb).2;have hq:=F.cl _ _ hn1 (E.lt hb).2 hl (by rw[(sys_at hb E1).2.2.2,(sys_at hb E).2.2.2];omega) (.inr (sys_at hb E).2.2.2);have hd:=(idle_dq hb C hn1).2 hq;have:=hd.1.2;rw[ex_at hb E1,decide_eq_true_eq] at this;omega
 rcases okD_kindE (hok _ hm) with h|h|h|h
 · exact low (by omega) (.inl (by unfold rdI;rw[h];rfl))
 ·
  by_cases hg:gAt dss c (a.nx c)=0
  ·
   rw[h,hg,decide_eq_true hm] at ha;simp at ha
  · exact low (by omega) (.inr ((whole_iff hok hm).2 (.inr hg)))
 · exact low (by omega) (.inl (by unfold rdI;rw[h];rfl))
 ·
  rw[h,decide_eq_true hm] at ha
  cases hN:a.N c with
  |nil=>rw[hN] at ha;simp at ha
  |cons x rest=>
   have hx:x∈a.N c:=by rw[hN];simp
   obtain⟨_,kx,Ex,hkx,_⟩:=C.mi.nt c x hx;have hlx:x<offN dss c k:=(Ex.ord E).2 (.inr ⟨rfl,.inl (by omega)⟩);refine note_line F C E hx (by omega) (sw_kept T Ex E hlx (.inr (.inr (.inl ?_))));unfold waitsD;rw[List.any_eq_true];exact⟨a.nx c,List.mem_range.2 hlt',by simp[hkx];exact h⟩
theorem pos_deed {dss:List (List Dd)}{f rows:List Int}{Q:Int→Prop}{b:Bd}{a:Ab}{τ:Nat→Nat}{Tm:Nat}{z:Int}{c k:Nat}(F:Front dss f rows Q (clsD dss c k))(C:Idle dss f rows Q b a τ Tm z)(E:EvIs dss (offN dss c k) c k 0)(hfirst:clsD dss c k=(offN dss c k:Int))(ha:aheadB dss b c=false)(h2:(dAt dss c k).1=2→gAt dss c k≠0):
  a.nx c=k∧(((dAt dss c k).1=1∧gAt dss c k=0)∨a.N c=[]):=by
 have T:=told_of (each_parts (slow_each F.slow)).1;have hb:=T.work;have hok:=okC_of hb E.hc;have hlow:=pos_low F C E hfirst ha;have hkn:=(E.lt hb).2;have s:=sys_at hb E
 have hnot:offN dss c k∉a.N c:=by
  intro hx;obtain⟨_,kx,Ex,_,g1,g2,_⟩:=C.mi.nt c _ hx;obtain⟨_,rfl,_⟩:=Ex.one E;exact h2 g1 g2
 constructor
 ·
  apply Classical.byContradiction;intro hne;have hX:(stA dss a τ).X (offN dss c k):=⟨hkn,by rw[ex_at hb E,decide_eq_true_eq];omega⟩;have hD:(stA dss a τ).D (sysW dss) (offN dss c k):=⟨hX,by rw[s.1,st_N];exact hnot⟩;exact F.new (by rw[←s.2.2.2];exact (idle_dq hb C hkn).1 hD)
 ·
  by_cases h1:(dAt dss c k).1=1∧gAt dss c k=0
  · exact .inl h1
  ·
   refine .inr ?_
   have hw:wholeD (dAt dss c k)=true:=by
    rw[whole_iff hok E.hk];rcases okD_kindE (hok _ E.hk) with h|h|h|h
    · exact .inr (fun hg=>h1 ⟨h,hg⟩)
    · exact .inr (h2 h)
    · exact .inl h
    · exact absurd h E.kind
   cases hN:a.N c with
   |nil=>rfl
   |cons x rest=>
    exfalso;have hx:x∈a.N c:=by rw[hN];simp
    obtain⟨_,kx,Ex,hkx,_⟩:=C.mi.nt c x hx;have hne:x≠offN dss c k:=fun e=>hnot (by rw[←e];exact hx)
    have hX:¬(stA dss a τ).X (offN dss c k):=fun hX=>F.new (by rw[←s.2.2.2];exact (idle_dq hb C hkn).1 ⟨hX,by rw[s.1,st_N];exact hnot⟩)
    have hlx:x<offN dss c k:=by
     refine (Ex.ord E).2 (.inr ⟨rfl,.inl ?_⟩);apply Classical.byContradiction;intro hge;exact hX ⟨hkn,by rw[ex_at hb E,decide_eq_true_eq];omega⟩
    exact note_line F C E hx hne (sw_kept T Ex E hlx (.inr (.inr (.inr (.inr hw)))))
theorem pos_note {dss:List (List Dd)}{f rows:List Int}{Q:Int→Prop}{b:Bd}{a:Ab}{τ:Nat→Nat}{Tm:Nat}{z:Int}{c k:Nat}(F:Front dss f rows Q (clsD dss c k))(C:Idle dss f rows Q b a τ Tm z)(E:EvIs dss (offN dss c k) c k 0)(hfirst:clsD dss c k=(offN dss c k:Int))(ha:aheadB dss b c=false)(h2:(dAt dss c k).1=2)(hg:gAt dss c k=0):
  ∃rest,a.N c=offN dss c k::rest:=by
 have T:=told_of (each_parts (slow_each F.slow)).1;have hb:=T.work;have hc:=E.hc;have hok:=okC_of hb E.hc;have hlow:=pos_low F C E hfirst ha;have hkn:=(E.lt hb).2;have s:=sys_at hb E
 have hlt:k<a.nx c:=by
  apply Classical.byContradiction;intro hge;have e:a.nx c=k:=by omega
  unfold aheadB at ha;rw[can_rep C.mi.rep hc,(nx_at C.mi.rep hc).2,e,h2,hg,decide_eq_true E.hk] at ha;simp at ha
 have hX:(stA dss a τ).X (offN dss c k):=⟨hkn,by rw[ex_at hb E,decide_eq_true_eq];exact hlt⟩
 have hm:offN dss c k∈a.N c:=by
  apply Classical.byContradiction;intro hnot;exact F.new (by rw[←s.2.2.2];exact (idle_dq hb C hkn).1 ⟨hX,by rw[s.1,st_N];exact hnot⟩)
 cases hN:a.N c with
 |nil=>rw[hN] at hm;cases hm
 |cons x rest=>
  by_cases e:x=offN dss c k
  · exact⟨rest,by rw[e]⟩
  ·
   exfalso;have hx:x∈a.N c:=by rw[hN];simp
   obtain⟨_,kx,Ex,hkx,_⟩:=C.mi.nt c x hx;have ho:=C.mi.inv.nord (c:Int);rw[st_N,hN,List.pairwise_cons] at ho;rw[hN] at hm
   have hlx:x<offN dss c k:=by
    rcases List.mem_cons.1 hm with h|h
    · exact absurd h.symm e
    · exact ho.1 _ h
   exact note_line F C E hx e (sw_kept T Ex E hlx (.inr (.inl (by unfold rdI;rw[h2];rfl))))
def quickM (dss:List (List Dd))(es:List Ev)(b:Bd)(c:Nat):Bd:=
 if ((stepM dss es b (c:Int)).nts.getD c []).isEmpty=true then stepM dss es b (c:Int) else stepM dss es (stepM dss es b (c:Int)) (10+(c:Int))
def Mono (dss:List (List Dd))(a:Ab)(τ:Nat→Nat):Prop:=∀i j,(stA dss a τ).D (sysW dss) i→(stA dss a τ).D (sysW dss) j→3≤i→i<j→(sysW dss).ck i=(sysW dss).ck j→(sysW dss).cs i≠(sysW dss).cs j→τ i<τ j
structure QI (dss:List (List Dd))(b:Bd)(a:Ab)(τ:Nat→Nat)(T:Nat)(z:Int):Prop where
 mi:MI dss b a τ T z
 bd:BD dss a
 no:∀c,a.N c=[]
 mono:Mono dss a τ
theorem mono_new {dss:List (List Dd)}{a a':Ab}{τ τ':Nat→Nat}{T:Nat}{z0 z:Int}(I:AInv (sysW dss) (stA dss a τ) T z0)(hm:Mono dss a τ)(hD:∀j,3≤j→(stA dss a' τ').D (sysW dss) j→(stA dss a τ).D (sysW dss) j∨((sysW dss).cs j=z∧¬(stA dss a τ).X j∧T<τ' j))
  (hτ:∀i,(stA dss a τ).D (sysW dss) i→τ' i=τ i):Mono dss a' τ':=by
 intro i j hi hj h3 hij hck hcs;rcases hD i h3 hi with oi|⟨ci,ni,ti⟩
 ·
  rcases hD j (by omega) hj with oj|⟨cj,nj,tj⟩
  ·
   rw[hτ i oi,hτ j oj];exact hm i j oi oj h3 hij hck hcs
  ·
   have:=I.tle i oi;rw[hτ i oi];change τ i≤T at this;omega
 ·
  rcases hD j (by omega) hj with oj|⟨cj,nj,tj⟩
  · exact absurd (I.down i j oj.1 h3 hij hck) ni
  · exact absurd (ci.trans cj.symm) hcs
theorem one_quick {dss:List (List Dd)}(hb:workB dss=true){b:Bd}{a:Ab}{τ:Nat→Nat}{T:Nat}{z:Int}(M:MI dss b a τ T z)(hT:1≤T){c:Nat}(hc:c<dss.length)(hk:a.nx c<(dss.getD c []).length)
  (hz:clsD dss c (a.nx c)=z) (h4:(dAt dss c (a.nx c)).1≠4) (h2:(dAt dss c (a.nx c)).1=2→gAt dss c (a.nx c)≠0) (hN:a.N c=[]):
  ∃a' τ',MI dss (oneM dss (eventsB dss) b c) a' τ' T z∧a'.nx=(bumpA a c).nx∧a'.N=a.N∧(∀i,(stA dss a τ).X i→τ' i=τ i)∧∀j,(stA dss a' τ').X j→(stA dss a τ).X j∨(sysW dss).cs j=z:=by
 have E:=ev_first hc hk h4;have hnew:=(nxt_first hb a τ hc hk h4).new;have s4:=(sys_at hb E).2.2.2;rcases okD_kindE (okC_of hb hc _ hk) with h|h|h|h
 ·
  obtain⟨f,_,M'⟩:=oneM_read_t hb M hT hc hk h hz (.inr hN);refine⟨_,_,M',rfl,rfl,fun i hi=>?_,fun j hj=>?_⟩
  ·
   show (if i=offN dss c (a.nx c) then T else τ i)=τ i;rw[if_neg (fun e=>hnew (by rw[←e];exact hi))]
  ·
   rcases (X_read hb a τ _ hc hk h f j).1 hj with hj|hj
   · exact .inl hj
   · exact .inr (by rw[hj,s4,hz])
 ·
  have M':=oneM_ink_t hb M hT hc hk h (h2 h) hz hN;refine⟨_,_,M',rfl,rfl,fun i hi=>?_,fun j hj=>?_⟩
  ·
   show (if i=offN dss c (a.nx c) then T else τ i)=τ i;rw[if_neg (fun e=>hnew (by rw[←e];exact hi))]
  ·
   rcases (X_ink hb a τ _ hc hk h _ j).1 hj with hj|hj
   · exact .inl hj
   · exact .inr (by rw[hj,s4,hz])
 ·
  have M':=oneM_swap_t hb M hT hc hk h hz hN;have E2:=ev_second hc hk h;have r4:=(sys_at hb E2).2.2.2;refine⟨_,_,M',rfl,rfl,fun i hi=>?_,fun j hj=>?_⟩
  ·
   show (if i=offN dss c (a.nx c)+1 then T else if i=offN dss c (a.nx c) then T else τ i)=τ i;rw[if_neg (fun e=>?_),if_neg (fun e=>hnew (by rw[←e];exact hi))];have:=hi.2;rw[e,ex_at hb E2,decide_eq_true_eq] at this;omega
  ·
   rcases (X_swap hb a τ _ hc hk h _ j).1 hj with (hj|hj)|hj
   · exact .inl hj
   · exact .inr (by rw[hj,s4,hz])
   · exact .inr (by rw[hj,r4,hz])
 · exact absurd h h4
theorem go_quick {dss:List (List Dd)}(hb:workB dss=true){c:Nat}(hc:c<dss.length)(g:Int){T:Nat}(hT:1≤T){z:Int}:∀(m:Nat) (b:Bd) (a:Ab) (τ:Nat→Nat),MI dss b a τ T z→a.nx c<(dss.getD c []).length→(dss.getD c []).length≤a.nx c+m→gAt dss c (a.nx c)=g →
  clsD dss c (a.nx c)=z→(dAt dss c (a.nx c)).1≠4→((dAt dss c (a.nx c)).1=2→gAt dss c (a.nx c)≠0)→a.N c=[] →
  ∃a' τ',MI dss (goM dss (eventsB dss) g c m b) a' τ' T z∧a.nx c<a'.nx c∧(∀c',c'≠c→a'.nx c'=a.nx c')∧a'.N=a.N∧(∀i,(stA dss a τ).X i→τ' i=τ i)∧(∀j,(stA dss a' τ').X j→(stA dss a τ).X j∨(sysW dss).cs j=z)∧(a'.nx c<(dss.getD c []).length→gAt dss c (a'.nx c)≠0→gAt dss c (a'.nx c-1)≠gAt dss c (a'.nx c))
 | 0,b,a,τ,M,hk,hm,_,_,_,_,_=>by omega
 |m+1,b,a,τ,M,hk,hm,hg,hz,h4,h2,hN=>by
  obtain⟨a1,τ1,M1,e1,e2,e3,e4⟩:=one_quick hb M hT hc hk hz h4 h2 hN;have hn1:a1.nx c=a.nx c+1:=by rw[e1,nx_bump,if_pos rfl]
  have ho1:∀c',c'≠c→a1.nx c'=a.nx c':=fun c' h=>by rw[e1,nx_bump,if_neg h]
  have hX1:∀j,(stA dss a τ).X j→(stA dss a1 τ1).X j:=by
   intro j hj;refine⟨hj.1,?_⟩;have:=hj.2;unfold exA at this ⊢;rw[e1];simp only[Bool.or_eq_true,decide_eq_true_eq] at this ⊢;rcases this with h|h
   · exact .inl h
   ·
    refine .inr ?_;rw[nx_bump];split
    · rename_i e;rw[e] at h;omega
    · exact h
  rw[goM,(nx_at M1.rep hc).2,hn1];by_cases hs:g=0∨a.nx c+1=(dss.getD c []).length∨gAt dss c (a.nx c+1)≠g
  ·
   rw[if_pos hs];refine⟨a1,τ1,M1,by omega,ho1,e2,e3,e4,?_⟩;rw[hn1];intro hl hg0;rw[show a.nx c+1-1=a.nx c by omega,hg];rcases hs with hs|hs|hs
   · rw[hs];exact fun e=>hg0 e.symm
   · omega
   · exact fun e=>hs e.symm
  ·
   rw[if_neg hs];have hs0:¬g=0:=fun h=>hs (.inl h)
   have hs1:¬a.nx c+1=(dss.getD c []).length:=fun h=>hs (.inr (.inl h))
   have hs2:gAt dss c (a.nx c+1)=g:=Classical.byContradiction (fun h=>hs (.inr (.inr h)));have hl:=M1.nxl c hc;have hk1:a.nx c+1<(dss.getD c []).length:=by omega
   have hok:=okC_of hb hc;have n2:=num_grp hok hk1 (by rw[hs2];exact hs0);have hcl:clsD dss c (a.nx c+1)=clsD dss c (a.nx c):=(cls_iff hok hok hk1 hk n2.1 h4).2 ⟨rfl,.inr ⟨by rw[hs2];exact hs0,by rw[hs2,hg]⟩⟩;obtain⟨a',τ',M',q1,q2,q3,q4,q5,q6⟩:=go_quick hb hc g hT m (oneM dss (eventsB dss) b c) a1 τ1 M1 (by omega) (by omega) (by rw[hn1];exact hs2) (by rw[hn1,hcl];exact hz) (by rw[hn1];exact n2.1) (by rw[hn1,hs2];exact fun _=>hs0) (by rw[e2];exact hN);refine⟨a',τ',M',by omega,fun c' h=>by rw[q2 c' h,ho1 c' h],by rw[q3,e2],fun i hi=>by rw[q4 i (hX1 i hi),e3 i hi],fun j hj=>?_,q6⟩;rcases q5 j hj with h|h
   · exact e4 j h
   · exact .inr h
theorem D_no {dss:List (List Dd)}{a:Ab}(τ:Nat→Nat)(h:∀c,a.N c=[])(j:Nat):(stA dss a τ).D (sysW dss) j↔(stA dss a τ).X j:=by
 have:∀c,(stA dss a τ).N c=[]:=fun c=>by
  show (if 0≤c then a.N c.toNat else [])=[];split
  · exact h _
  · rfl
 unfold AbsSt.D;rw[this];simp
theorem quick_sim {dss:List (List Dd)}(hb:workB dss=true){b:Bd}{a:Ab}{τ:Nat→Nat}{T:Nat}{z:Int}(Q:QI dss b a τ T z){c:Nat}(hc:c<dss.length)(hcan:canM dss b c=true):
  ∃a' τ' T' z',QI dss (quickM dss (eventsB dss) b c) a' τ' T' z':=by
 have M:=Q.mi;have hl3:=three_of hb;have hn:=(nx_at M.rep hc).2
 have hk:a.nx c<(dss.getD c []).length:=by
  rw[can_rep M.rep hc] at hcan;simp only[Bool.and_eq_true,decide_eq_true_eq] at hcan;exact hcan.1
 have hok:=okC_of hb hc;by_cases h4:(dAt dss c (a.nx c)).1=4
 ·
  have hg0:gAt dss c (a.nx c)=0:=by
   apply Classical.byContradiction;intro hg;exact (num_grp hok hk hg).1 h4
  have hst:=step_zero hb hc (b:=b) (by rw[hn];exact hk) (by rw[hn];exact hg0);have M':=oneM_wait hb M hc hk h4 (Q.no c)
  have hq:quickM dss (eventsB dss) b c=oneM dss (eventsB dss) b c:=by
   unfold quickM;rw[hst,if_pos];rw[nts_at M'.rep hc];show ((a.N c).map _).isEmpty=true;rw[Q.no c];rfl
  rw[hq];refine⟨_,τ,T,z,M',fun c' hc' h0 hl hg=>?_,Q.no,?_⟩
  ·
   by_cases e:c'=c
   ·
    subst e;rw[nx_bump,if_pos rfl] at hl hg ⊢;rw[show a.nx c'+1-1=a.nx c' by omega,hg0];exact fun h=>hg h.symm
   ·
    rw[nx_bump,if_neg e] at h0 hl hg ⊢;exact Q.bd c' hc' h0 hl hg
  ·
   unfold Mono;rw[st_bump hb a τ hc hk h4];exact Q.mono
 ·
  have E:=ev_first hc hk h4;have s:=sys_at hb E;by_cases hpl:(dAt dss c (a.nx c)).1=2∧gAt dss c (a.nx c)=0
  ·
   have hst:=step_zero hb hc (b:=b) (by rw[hn];exact hk) (by rw[hn];exact hpl.2);have M':=oneM_note hb M hc hk hpl.1 hpl.2
   have hN':(noteA dss a c).N c=offN dss c (a.nx c)::[]:=by
    show (if c=c then a.N c++[offN dss c (a.nx c)] else a.N c)=_;rw[if_pos rfl,Q.no c];rfl
   have M2:=flush_sim_t hb M' hc hN'
   have hq:quickM dss (eventsB dss) b c=flushM (oneM dss (eventsB dss) b c) c:=by
    unfold quickM;rw[hst,if_neg]
    ·
     unfold stepM;rw[if_pos (by omega),show (10+(c:Int)-10).toNat=c by omega]
    ·
     rw[nts_at M'.rep hc,hN'];simp
   rw[hq]
   have hno:∀c',(flushA (noteA dss a c) c ((sysW dss).pl (offN dss c (a.nx c))) (offN dss c (a.nx c)) []).N c'=[]:=by
    intro c';show (if c'=c then [] else (if c'=c then a.N c'++[offN dss c (a.nx c)] else a.N c'))=[];split
    · rfl
    · exact Q.no c'
   have hX:∀j,(stA dss (flushA (noteA dss a c) c ((sysW dss).pl (offN dss c (a.nx c))) (offN dss c (a.nx c)) []) (fun i=>if i=offN dss c (a.nx c) then T+1 else τ i)).X j↔(stA dss a τ).X j∨j=offN dss c (a.nx c):=fun j=>X_note hb a τ τ hc hk hpl.1 j
   have hnew:=(nxt_first hb a τ hc hk h4).new;refine⟨_,_,_,_,M2,fun c' hc' h0 hl hg=>?_,hno,?_⟩
   ·
    change 0<(bumpA a c).nx c' at h0;change (bumpA a c).nx c'<_ at hl;change gAt dss c' ((bumpA a c).nx c')≠0 at hg;show gAt dss c' ((bumpA a c).nx c'-1)≠gAt dss c' ((bumpA a c).nx c');by_cases e:c'=c
    ·
     subst e;rw[nx_bump,if_pos rfl] at hl hg ⊢;rw[show a.nx c'+1-1=a.nx c' by omega,hpl.2];exact fun h=>hg h.symm
    ·
     rw[nx_bump,if_neg e] at h0 hl hg ⊢;exact Q.bd c' hc' h0 hl hg
   ·
    refine mono_new M.inv Q.mono (z:=clsD dss c (a.nx c)) (fun j h3 hj=>?_) (fun i hi=>?_)
    ·
     rcases (hX j).1 hj.1 with h|h
     · exact .inl ((D_no τ Q.no j).2 h)
     ·
      refine .inr ⟨by rw[h];exact s.2.2.2,by rw[h];exact hnew,?_⟩;show T<if j=offN dss c (a.nx c) then T+1 else τ j
      rw[if_pos h];omega
    ·
     show (if i=offN dss c (a.nx c) then T+1 else τ i)=τ i;rw[if_neg (fun e=>hnew (by rw[←e];exact hi.1))]
  ·
   have h2:(dAt dss c (a.nx c)).1=2→gAt dss c (a.nx c)≠0:=fun h h'=>hpl ⟨h,h'⟩
   have M1:MI dss b a τ (T+1) (clsD dss c (a.nx c)):=by
    refine⟨M.rep,M.inv.tick _ (fun i hi h3 e=>?_),M.nxl,M.nt⟩;obtain⟨c',k',i',E',hX,e1,e2⟩:=cs_big hb hi h3;rw[e1] at e;obtain⟨rfl,hq⟩:=(cls_iff (okC_of hb E'.hc) hok E'.hk hk E'.kind h4).1 e;rcases hq with hq|⟨g1,g2⟩
    · omega
    ·
     have h0:gAt dss c' (a.nx c')≠0:=by rw[←g2];exact g1
     refine Q.bd c' hc (by omega) hk h0 ?_;exact grp_between hb hc (j:=k') (k:=a.nx c'-1) (l:=a.nx c') (by omega) (by omega) hk h0 g2
   have hst:stepM dss (eventsB dss) b (c:Int)=goM dss (eventsB dss) (gAt dss c (a.nx c)) c (dss.getD c []).length b:=by
    unfold stepM;rw[if_neg (by omega),Int.toNat_natCast,hn]
   obtain⟨a',τ',M',q1,q2,q3,q4,q5,q6⟩:=go_quick hb hc (gAt dss c (a.nx c)) (T:=T+1) (by omega) (dss.getD c []).length b a τ M1 hk (by omega) rfl rfl h4 h2 (Q.no c);have hno:∀c',a'.N c'=[]:=fun c'=>by rw[q3];exact Q.no c'
   have hq:quickM dss (eventsB dss) b c=goM dss (eventsB dss) (gAt dss c (a.nx c)) c (dss.getD c []).length b:=by
    unfold quickM;rw[hst,if_pos];rw[nts_at M'.rep hc,hno c];rfl
   rw[hq];refine⟨a',τ',T+1,_,M',fun c' hc' h0 hl hg=>?_,hno,?_⟩
   ·
    by_cases e:c'=c
    · subst e;exact q6 hl hg
    ·
     rw[q2 c' e] at h0 hl hg ⊢;exact Q.bd c' hc' h0 hl hg
   ·
    refine mono_new M.inv Q.mono (z:=clsD dss c (a.nx c)) (fun j h3 hj=>?_) (fun i hi=>q4 i hi.1);by_cases hXj:(stA dss a τ).X j
    · exact .inl ((D_no τ Q.no j).2 hXj)
    ·
     have hcs:=(q5 j hj.1).resolve_left hXj;refine .inr ⟨hcs,hXj,?_⟩;have:=(M'.inv.now j hj h3).2 hcs;change τ' j=T+1 at this;omega
def lessB:List Int→List Int→Bool
 |x::a,y::b=>if x≠y then decide (x<y) else lessB a b
 |a,b=>decide (a.length<b.length)
theorem less_cons (x y:Int)(a b:List Int):lessB (x::a) (y::b)=if x≠y then decide (x<y) else lessB a b:=by rw[lessB]
theorem less_nil (b:List Int):lessB [] b=decide (0<b.length):=by
 unfold lessB;rfl
theorem less_to_nil (a:List Int):lessB a []=false:=by
 cases a with
 |nil=>rfl
 |cons x a=>unfold lessB;simp
theorem less_irrefl:∀a:List Int,lessB a a=false
 | []=>rfl
 |x::a=>by rw[less_cons,if_neg (by simp)];exact less_irrefl a
theorem less_trans:∀a b c:List Int,lessB a b=true→lessB b c=true→lessB a c=true
 | [],b,[],_,h2=>by rw[less_to_nil] at h2;cases h2
 | [],b,y::c,_,_=>by rw[less_nil];simp
 |x::a,[],c,h1,_=>by rw[less_to_nil] at h1;cases h1
 |x::a,y::b,[],_,h2=>by rw[less_to_nil] at h2;cases h2
 |x::a,y::b,z::c,h1,h2=>by
  rw[less_cons] at h1 h2 ⊢;by_cases e1:x=y
  ·
   subst e1;rw[if_neg (by simp)] at h1;by_cases e2:x=z
   ·
    subst e2;rw[if_neg (by simp)] at h2 ⊢;exact less_trans a b c h1 h2
   · rw[if_pos e2] at h2 ⊢;exact h2
  ·
   rw[if_pos e1,decide_eq_true_eq] at h1;by_cases e2:y=z
   ·
    subst e2;rw[if_pos e1,decide_eq_true_eq];exact h1
   ·
    rw[if_pos e2,decide_eq_true_eq] at h2;rw[if_pos (by omega),decide_eq_true_eq];omega
theorem less_total:∀a b:List Int,a=b∨lessB a b=true∨lessB b a=true
 | [],[] => .inl rfl
 | [],y::b => .inr (.inl (by rw[less_nil];simp))
 |x::a,[] => .inr (.inr (by rw[less_nil];simp))
 |x::a,y::b=>by
  rw[less_cons,less_cons];by_cases e:x=y
  ·
   subst e;rw[if_neg (by simp),if_neg (by simp)];rcases less_total a b with h|h
   · exact .inl (by rw[h])
   · exact .inr h
  ·
   rw[if_pos e,if_pos (fun h=>e h.symm),decide_eq_true_eq,decide_eq_true_eq];right;omega
theorem less_anti {a b:List Int}(h1:lessB a b=true)(h2:lessB b a=true):False:=by
 have:=less_trans a b a h1 h2;rw[less_irrefl] at this;cases this
abbrev Ord (l:List (List Int)):Prop:=l.Pairwise (fun a b=>lessB a b=true)
theorem ord_nodup {l:List (List Int)}(h:Ord l):l.Nodup:=h.imp (fun {a b} hab e=>by rw[e,less_irrefl] at hab;cases hab)
theorem ord_ext {a b:List (List Int)}(ha:Ord a)(hb:Ord b)(h:∀x,x∈a↔x∈b):a=b:=by
 refine List.Perm.eq_of_pairwise (le:=fun a b=>lessB a b=true) (fun x y _ _ h1 h2=>(less_anti h1 h2).elim) ha hb ?_;exact (List.perm_ext_iff_of_nodup (ord_nodup ha) (ord_nodup hb)).2 h
def rankL (l:List (List Int))(x:List Int):Nat:=l.countP (fun a=>lessB a x)
theorem rank_le (l:List (List Int))(x:List Int):rankL l x≤l.length:=List.countP_le_length
theorem ord_rank:∀ {l:List (List Int)},Ord l→∀(x:List Int) (i:Nat) (hi:i<l.length),lessB l[i] x=decide (i<rankL l x)
 | [],_,x,i,hi=>by simp at hi
 |y::l,h,x,i,hi=>by
  rw[Ord,List.pairwise_cons] at h;unfold rankL;rw[List.countP_cons];by_cases hy:lessB y x=true
  ·
   rw[if_pos hy]
   cases i with
   |zero=>simp[hy]
   |succ i=>
    have:=ord_rank h.2 x i (by simp at hi;omega);unfold rankL at this;simp only[List.getElem_cons_succ];rw[this];simp
  ·
   rw[if_neg hy]
   have h0:l.countP (fun a=>lessB a x)=0:=by
    rw[List.countP_eq_zero];intro a ha hax;exact hy (less_trans _ _ _ (h.1 a ha) hax)
   rw[h0]
   cases i with
   |zero=>simp[hy]
   |succ i=>
    have:=ord_rank h.2 x i (by simp at hi;omega);unfold rankL at this;rw[h0] at this;simp only[List.getElem_cons_succ];rw[this];simp
theorem rank_mem {l:List (List Int)}(h:Ord l)(x:List Int):x∈l↔rankL l x<l.length∧l.getD (rankL l x) []=x:=by
 constructor
 ·
  intro hx;obtain⟨i,hi,e⟩:=List.getElem_of_mem hx;have h1:=ord_rank h x i hi;rw[e,less_irrefl] at h1;have h2:¬i<rankL l x:=of_decide_eq_false h1.symm;have hr:rankL l x<l.length:=by omega
  refine⟨hr,?_⟩;have h3:=ord_rank h x _ hr;rw[decide_eq_false (by omega)] at h3;rw[List.getD_eq_getElem?_getD,List.getElem?_eq_getElem hr,Option.getD_some];by_cases e2:rankL l x=i
  · simp only[e2];exact e
  ·
   exfalso;have:=List.pairwise_iff_getElem.1 h _ _ hr hi (by omega);rw[e] at this;rw[this] at h3;cases h3
 ·
  rintro⟨h1,h2⟩;rw[List.getD_eq_getElem?_getD,List.getElem?_eq_getElem h1,Option.getD_some] at h2;rw[←h2];exact List.getElem_mem h1
def isL (l:List (List Int))(x:List Int):Bool:=decide (rankL l x<l.length)&&(l.getD (rankL l x) []==x)
def putL (l:List (List Int))(x:List Int):List (List Int):=if isL l x=true then l else l.take (rankL l x)++x::l.drop (rankL l x)
theorem isL_iff {l:List (List Int)}(h:Ord l)(x:List Int):isL l x=true↔x∈l:=by
 rw[rank_mem h];unfold isL;simp only[Bool.and_eq_true,decide_eq_true_eq,beq_iff_eq]
theorem put_mem (l:List (List Int))(h:Ord l)(x y:List Int):y∈putL l x↔y∈l∨y=x:=by
 unfold putL;split
 ·
  rename_i hx;constructor
  · exact fun h => .inl h
  ·
   rintro (h|rfl)
   · exact h
   · exact (isL_iff h _).1 hx
 ·
  rw[List.mem_append,List.mem_cons]
  have:y∈l↔y∈l.take (rankL l x)∨y∈l.drop (rankL l x):=by
   rw[←List.mem_append,List.take_append_drop]
  rw[this];constructor
  ·
   rintro (h|h|h)
   · exact .inl (.inl h)
   · exact .inr h
   · exact .inl (.inr h)
  ·
   rintro ((h|h)|h)
   · exact .inl h
   · exact .inr (.inr h)
   · exact .inr (.inl h)
theorem put_ord {l:List (List Int)}(h:Ord l)(x:List Int):Ord (putL l x):=by
 unfold putL;split
 · exact h
 ·
  rename_i hx;have hnot:x∉l:=fun hm=>hx ((isL_iff h x).2 hm)
  have h':=h;rw[←List.take_append_drop (rankL l x) l,Ord,List.pairwise_append] at h'
  have ht:∀a,a∈l.take (rankL l x)→lessB a x=true:=by
   intro a ha;obtain⟨i,hi,e⟩:=List.getElem_of_mem ha;rw[List.length_take] at hi;rw[List.getElem_take] at e;rw[←e,ord_rank h x i (by omega)];simp;omega
  have hd:∀a,a∈l.drop (rankL l x)→lessB x a=true:=by
   intro a ha;have hal:a∈l:=List.mem_of_mem_drop ha;obtain⟨i,hi,e⟩:=List.getElem_of_mem ha;rw[List.length_drop] at hi;rw[List.getElem_drop] at e;have:=ord_rank h x (rankL l x+i) (by omega);rw[e,decide_eq_false (by omega)] at this;rcases less_total x a with g|g|g
   · exact absurd (by rw[g];exact hal) hnot
   · exact g
   · rw[g] at this;cases this
  rw[Ord,List.pairwise_append,List.pairwise_cons];refine⟨h'.1,⟨hd,h'.2.1⟩,fun a ha b hb=>?_⟩;rcases List.mem_cons.1 hb with rfl|hb
  · exact ht a ha
  · exact h'.2.2 a ha b hb
def shownM (b:Bd):List Int:=b.sn++b.plc
def lastG (es:List Ev)(l:List Int)(x:Int):List Int:=l.set (plE es x).toNat (vlE es x)
theorem lastK_fold (es:List Ev)(rows:List Int):∀k:Nat,k≤rows.length→lastK es rows k=(rows.take k).foldl (lastG es) [0,0,0]
 | 0,_=>by simp[lastK]
 |k+1,h=>by
  rw[lastK,lastK_fold es rows k (by omega),List.take_add_one,List.getElem?_eq_getElem (by omega),List.foldl_append];simp only[Option.toList_some,List.foldl_cons,List.foldl_nil];unfold lastG;rw[List.getD_eq_getElem?_getD,List.getElem?_eq_getElem (by omega)];rfl
theorem fold_part (es:List Ev)(l:List Int){p:Nat}:∀(P:List Int) {x:Int},(∀y,y∈P→plE es y=(p:Int))→P.getLast? = some x→P.foldl (lastG es) l=l.set p (vlE es x):=by
 intro P
 induction P generalizing l with
 |nil=>intro x _ h;cases h
 |cons y P ih=>
  intro x hp hl;rw[List.foldl_cons];have e:lastG es l y=l.set p (vlE es y):=by unfold lastG;rw[hp y (by simp),Int.toNat_natCast]
  rw[e]
  cases P with
  |nil=>
   simp only[List.getLast?_singleton,Option.some.injEq] at hl;rw[hl];rfl
  |cons u P=>
   rw[List.getLast?_cons_cons] at hl;rw[ih (l.set p (vlE es y)) (fun w hw=>hp w (List.mem_cons_of_mem _ hw)) hl,List.set_set]
theorem Fin.outcome {dss:List (List Dd)}{a:Ab}{τ:Nat→Nat}{T:Nat}{z:Int}{b:Bd}(hb:workB dss=true)(h:Fin dss a τ T z b):ocB dss b.fr (rowsOf b)=b.sn++b.plc:=by
 have hx:=eventsB_12 dss;unfold ocB;rw[if_pos (h.tale hb)];unfold ocL
 congr 1
 ·
  have hl:b.fr.length=(idxB rdE (eventsB dss)).length:=by rw[h.frs.1,List.length_map]
  refine list_ext (n:=b.fr.length) (ocK_len _ _ _) (by rw[hl,h.frs.2,List.length_map]) (fun i hi=>?_);rw[ocK_get _ _ _ _ hi];obtain⟨r,hr,e1,e2,e3⟩:=h.rd (i:=i) (by omega);have hi':i<(idxB rdE (eventsB dss)).length:=by omega
  rw[e2,h.frs.2,List.getD_eq_getElem?_getD,List.getElem?_map,List.getElem?_eq_getElem hi'];rw[List.getD_eq_getElem?_getD,List.getElem?_eq_getElem hi'] at e1;simp only[Option.getD_some] at e1;simp only[Option.map_some,Option.getD_some,e1,Int.toNat_natCast];unfold vlE;rw[Int.toNat_natCast]
 ·
  have hpl:∀q y,y∈(a.R q).map Int.ofNat→plE (eventsB dss) y=(q:Int):=by
   intro q y hy;have:=fil_own hb h q q;rw[if_pos rfl,List.filter_eq_self] at this
   simpa using this y hy
  have hla:∀q,q<3→((a.R q).map Int.ofNat).getLast? = some (lastA a q:Int):=by
   intro q hq;rw[List.getLast?_map,last_some h.inv hq];rfl
  rw[lastK_fold _ _ _ (Nat.le_refl _),List.take_length,h.rowsE,List.foldl_append,List.foldl_append,fold_part _ _ _ (hpl 0) (hla 0 (by omega)),fold_part _ _ _ (hpl 1) (hla 1 (by omega)),fold_part _ _ _ (hpl 2) (hla 2 (by omega)),h.rep.plc];have hv:∀q:Nat,vlE (eventsB dss) (lastA a q:Int)=vlN dss (lastA a q):=fun q=>by unfold vlE;rw[Int.toNat_natCast]
  rw[hv,hv,hv];rfl
theorem Fin.strict {dss:List (List Dd)}{a:Ab}{τ:Nat→Nat}{T:Nat}{z:Int}{b:Bd}(hb:workB dss=true)(h:Fin dss a τ T z b)(hm:Mono dss a τ)(he:eachB dss b.fr (rowsOf b)=true):roundB (liftL (xwL (eventsB dss) b.fr (rowsOf b)) (clsB (eventsB dss)))=false:=by
 have W:=told_of (h.tale hb);have hx:=W.twelve;refine up_lift W.xw W.cls τ (fun i j hi hj e=>?_) (fun i j hi hj hl hne=>?_)
 ·
  rw[cls_get hx hi,cls_get hx hj] at e;by_cases hi3:3≤i
  ·
   by_cases hj3:3≤j
   · exact h.inv.mate i j (h.all i hi) (h.all j hj) hi3 hj3 e
   ·
    exfalso;obtain⟨c,k,i',E⟩:=ev_dec hb hi3 hi;have e1:csE ((eventsB dss).getD i zE)=clsD dss c k:=by rw[E.at hb];rfl
    have:=cls_three hb E.hc E.hk E.kind;rw[(beg_place hb (show j<3 by omega)).2.2.1,e1] at e;omega
  ·
   by_cases hj3:3≤j
   ·
    exfalso;obtain⟨c,k,i',E⟩:=ev_dec hb hj3 hj;have e1:csE ((eventsB dss).getD j zE)=clsD dss c k:=by rw[E.at hb];rfl
    have:=cls_three hb E.hc E.hk E.kind;rw[(beg_place hb (show i<3 by omega)).2.2.1,e1] at e;omega
   ·
    rw[(beg_place hb (show i<3 by omega)).2.2.1,(beg_place hb (show j<3 by omega)).2.2.1] at e;rw[show i=j by omega]
 ·
  rw[cls_get hx hi,cls_get hx hj] at hne;have hz:∀i,i<3→τ i=0:=fun i hi=>(h.inv.beg i hi).2.2.2.2.1
  have hp:∀j,j<(eventsB dss).length→3≤j→1≤τ j:=fun j hj h3=>h.inv.tpos j (h.all j hj) h3
  rw[W.xwl i j hi] at hl;simp only[Bool.or_eq_true] at hl;rcases hl with (g|g)|(g|g)
  ·
   rw[(beh_line hx).2 i j hi] at g;simp only[Bool.and_eq_true] at g;have g2:=g.2;have hlt:=behP_lt g2;unfold behP at g2;simp only[Bool.and_eq_true,Bool.or_eq_true,decide_eq_true_eq,beq_iff_eq] at g2;rcases g2.2 with g2|g2
   · have:=hz i g2.1;have:=hp j hj g2.2;omega
   · exact hm i j (h.all i hi) (h.all j hj) g2.1 hlt g2.2 hne
  ·
   obtain⟨q,hq1,hq2,hq3⟩:=(W.webs.fwl i j hi).1 g;obtain⟨r,hr,e1,e2,e3⟩:=h.rd hq1;have er:r=j:=by omega
   subst er;have ei:a.F r=i:=by omega
   obtain⟨q1,q2,q3,q4⟩:=h.inv.src r (h.all r hr).1 e3;change (3≤a.F r∧(sysW dss).ck (a.F r)=(sysW dss).ck r)∨((stA dss a τ).D (sysW dss) (a.F r)∧τ (a.F r)≤τ r) at q4;change (sysW dss).rd (a.F r)=false at q2;change (sysW dss).pl (a.F r)=(sysW dss).pl r at q3;rw[ei] at q2 q3 q4;have h3r:=rd_three hb e3;rcases q4 with q4|q4
   ·
    have p1:=place_ev hb hi;have p2:=place_ev hb hr
    have hpe:((eventsB dss).getD i zE).2.2.2.1=((eventsB dss).getD r zE).2.2.2.1:=by
     have:((eventsB dss).getD i zE).2.2.2.1.toNat=((eventsB dss).getD r zE).2.2.2.1.toNat:=q3;omega
    have hu:=(each_use he hq1 hq3 hi q2 (.inr ⟨q4.1,h3r,q4.2⟩) hpe).1;have hne2:i≠r:=fun e=>hne (by rw[e])
    have hlt:i<r:=by
     apply Classical.byContradiction;intro hno;exact hu (by omega) hq2
    exact hm i r (h.all i hi) (h.all r hr) q4.1 hlt q4.2 hne
   ·
    by_cases hi3:3≤i
    ·
     have:τ i≠τ r:=fun e=>hne (h.inv.same i r (h.all i hi) (h.all r hr) hi3 h3r e)
     omega
    · have:=hz i (by omega);have:=hp r hr h3r;omega
  · exact row_time h (row_bef hb h W.webs hi g) hne
  ·
   obtain⟨q,hq1,hq2,hq3⟩:=(W.webs.agl i j hi).1 g;obtain⟨r,hr,e1,e2,e3⟩:=h.rd hq1;have er:r=i:=by omega
   subst er;rw[e2,Int.toNat_natCast] at hq3;have hF:a.F r<(eventsB dss).length:=h.inv.lt _ (h.inv.src r (h.all r hr).1 e3).1;have hB:=row_bef hb h W.webs hF hq3;have h1:τ r≤τ j:=h.inv.agst r j _ (h.all r hr).1 e3 hB;have h3r:=rd_three hb e3;by_cases hj3:3≤j
   ·
    have:τ r≠τ j:=fun e=>hne (h.inv.same r j (h.all r hr) (h.all j hj) h3r hj3 e)
    omega
   · have:=hz j (by omega);have:=hp r hr h3r;omega
def quickR (dss:List (List Dd))(es:List Ev):List Nat→Bd→Bd
 | [],b=>b
 |c::r,b=>quickR dss es r (quickM dss es b c)
def quickG (dss:List (List Dd))(es:List Ev):List Nat→Bd→Bool
 | [],_=>true
 |c::r,b=>decide (c<dss.length)&&canM dss b c&&quickG dss es r (quickM dss es b c)
theorem new_quick {dss:List (List Dd)}(hb:workB dss=true):QI dss (newM dss) newA (fun _=>0) 0 (-1):=by
 have hX:∀j,(stA dss newA (fun _=>0)).X j→j<3:=by
  intro j hj;have:=hj.2;unfold exA newA at this;simp at this;omega
 refine⟨(new_sim hb).1,(new_sim hb).2,fun _=>rfl,fun i j hi _ h3=>?_⟩;have:=hX i hi.1;omega
theorem sortedL_some {zs:List Int}{l:List Int}{d:Int}(h:sortedO zs=some (l,d)):sortedL zs=l:=by unfold sortedL;rw[h]
def firstK (cl:List Int):Nat→Int
 | 0=>0
 |k+1=>if cl.getD k 0=(k:Int) then gAdd (firstK cl k) k else firstK cl k
def resL (cl zs:List Int)(n:Nat):List Int:=(List.range n).map (fun i:Nat=>if inSetB (firstK cl n) i=true then andI (zs.getD i 0) (firstK cl n) else 0)
def fstB (cl:List Int)(i:Nat):Bool:=decide (cl.getD i 0=(i:Int))
theorem ok_first {n:Nat}(hn:n≤12)(cl:List Int):∀m:Nat,m≤n→okB n (firstK cl m)=true∧∀j:Nat,inSetB (firstK cl m) j=(decide (j<m)&&fstB cl j)
 | 0,_=>by
  refine⟨ok_zero hn,fun j=>?_⟩;unfold firstK;rw[decide_eq_false (by omega),Bool.false_and];exact zero_bit j
 |m+1,h=>by
  obtain⟨h1,h2⟩:=ok_first hn cl m (by omega);rw[firstK];by_cases e:cl.getD m 0=(m:Int)
  ·
   rw[if_pos e];have h3:=ok_add h1 (i:=m) (by omega);refine⟨h3.1,fun j=>?_⟩;rw[h3.2 j,h2 j];by_cases hj:m=j
   ·
    subst hj;have:fstB cl m=true:=decide_eq_true e;rw[this];simp
   ·
    rw[decide_eq_false hj,Bool.or_false]
    congr 1
    rw[decide_eq_decide];omega
  ·
   rw[if_neg e];refine⟨h1,fun j=>?_⟩;rw[h2 j];by_cases hj:m=j
   ·
    subst hj;have:fstB cl m=false:=decide_eq_false e;rw[this];simp
   ·
    congr 1
    rw[decide_eq_decide];omega
theorem web_res {n:Nat}{zs:List Int}(hz:Web n zs)(cl:List Int):Web n (resL cl zs n)∧∀i j:Nat,i<n→line (resL cl zs n) i j=(fstB cl i&&(decide (j<n)&&fstB cl j&&line zs i j)):=by
 obtain⟨f1,f2⟩:=ok_first hz.1 cl n (Nat.le_refl _)
 have hg:∀i,i<n→(resL cl zs n).getD i 0=if inSetB (firstK cl n) i=true then andI (zs.getD i 0) (firstK cl n) else 0:=fun i hi=>by
  unfold resL;rw[map_at _ _ hi]
 refine⟨⟨hz.1,by unfold resL;simp,fun i hi=>?_⟩,fun i j hi=>?_⟩
 ·
  rw[hg i hi];split
  · exact (ok_and (hz.2.2 i hi) f1).1
  · have:=(ok_first hz.1 cl 0 (by omega)).1;exact this
 ·
  unfold line;rw[hg i hi,f2 i,decide_eq_true hi,Bool.true_and]
  cases hf:fstB cl i with
  |false=>rw[if_neg (by simp),Bool.false_and];exact zero_bit j
  |true=>rw[if_pos rfl,(ok_and (hz.2.2 i hi) f1).2 j,f2 j,Bool.true_and,Bool.and_comm]
theorem cs_first {dss:List (List Dd)}(hb:workB dss=true){j:Nat}(hj:j<(eventsB dss).length):∃y:Nat,(sysW dss).cs j=(y:Int)∧y<(eventsB dss).length∧(sysW dss).cs y=(y:Int):=by
 by_cases h3:j<3
 ·
  have:=(beg_place hb h3).2.2.1;exact⟨j,this,hj,this⟩
 ·
  obtain⟨c,k,i,E⟩:=ev_dec hb (by omega) hj;have hok:=okC_of hb E.hc;have e:=(sys_at hb E).2.2.2;rw[e];rcases cls_at hok E.hk E.kind with ⟨_,e1⟩|⟨g,jj,j1,j2,_,e1⟩
  ·
   have E':=ev_first E.hc E.hk E.kind;exact⟨_,e1,(E'.lt hb).2,by rw[(sys_at hb E').2.2.2,e1]⟩
  ·
   have hjj:jj<(dss.getD c []).length:=by have:=E.hk;omega
   have n2:=num_grp hok hjj (by rw[j2];exact g);have E':=ev_first E.hc hjj n2.1;refine⟨_,e1,(E'.lt hb).2,?_⟩;rw[(sys_at hb E').2.2.2,←e1];exact (cls_iff hok hok hjj E.hk n2.1 E.kind).2 ⟨rfl,.inr ⟨by rw[j2];exact g,j2⟩⟩
theorem first_ev {dss:List (List Dd)}(hb:workB dss=true){k:Nat}(h3:3≤k)(hk:k<(eventsB dss).length)(e:(sysW dss).cs k=(k:Int)):∃c q,EvIs dss (offN dss c q) c q 0∧k=offN dss c q∧clsD dss c q=(offN dss c q:Int):=by
 obtain⟨c,q,i,E⟩:=ev_dec hb h3 hk;have e1:=(sys_at hb E).2.2.2;have e2:=cls_low hb E.hc E.hk E.kind;have e3:=E.hj;refine⟨c,q,ev_first E.hc E.hk E.kind,by omega,by omega⟩
def DoneQ (cl l:List Int)(p:Nat)(y:Int):Prop:=(0≤y∧y<3)∨(y∈l.take p∧cl.getD y.toNat 0=y)
theorem done_low {cl l:List Int}{n p:Nat}(hl:∀x∈l,∃j:Nat,x=j∧j<n):¬DoneQ cl l p (-1):=by
 rintro (h|h)
 · omega
 ·
  obtain⟨j,e,_⟩:=hl _ (List.mem_of_mem_take h.1);omega
theorem done_next {cl l:List Int}{p:Nat}(hp:p<l.length)(y:Int):DoneQ cl l (p+1) y↔DoneQ cl l p y∨(y=l.getD p 0∧cl.getD y.toNat 0=y):=by
 unfold DoneQ;rw[mem_take_step hp];constructor
 ·
  rintro (h|⟨h1|h1,h2⟩)
  · exact .inl (.inl h)
  · exact .inl (.inr ⟨h1,h2⟩)
  · exact .inr ⟨h1,h2⟩
 ·
  rintro ((h|h)|h)
  · exact .inl h
  · exact .inr ⟨.inl h.1,h.2⟩
  · exact .inr ⟨.inr h.1,h.2⟩
def tellW (dss:List (List Dd))(f rows:List Int):List Int:=resL (clsB (eventsB dss)) (liftL (swL dss (eventsB dss) f rows) (clsB (eventsB dss))) (eventsB dss).length
theorem tell_web {dss:List (List Dd)}{f rows:List Int}(T:Told dss f rows):Web (eventsB dss).length (tellW dss f rows)∧∀i j,i<(eventsB dss).length→j<(eventsB dss).length→line (swL dss (eventsB dss) f rows) i j=true→(sysW dss).cs i≠(sysW dss).cs j →
  ∀y x:Nat,(sysW dss).cs i=(y:Int)→(sysW dss).cs j=(x:Int)→line (tellW dss f rows) y x=true:=by
 have hl:=web_lift T.sw T.cls;have hr:=web_res hl.1 (clsB (eventsB dss));refine⟨hr.1,fun i j hi hj hlin hne y x ey ex=>?_⟩;obtain⟨y',e1,hy,e2⟩:=cs_first T.work hi;obtain⟨x',e3,hx,e4⟩:=cs_first T.work hj;obtain rfl:y'=y:=by omega
 obtain rfl:x'=x:=by omega
 have cg:∀q,q<(eventsB dss).length→(clsB (eventsB dss)).getD q 0=(sysW dss).cs q:=fun q hq=>cls_get T.twelve hq
 unfold tellW;rw[hr.2 y' x' hy]
 have l1:line (liftL (swL dss (eventsB dss) f rows) (clsB (eventsB dss))) y' x'=true:=by
  rw[hl.2.2 y' x' hy];refine⟨hx,?_,i,j,hi,hj,?_,?_,hlin⟩
  · rw[cg _ hx,cg _ hy,e2,e4];intro h;exact hne (by omega)
  · rw[cg _ hi,cg _ hy];omega
  · rw[cg _ hj,cg _ hx];omega
 unfold fstB;rw[l1,cg _ hx,cg _ hy,decide_eq_true e2,decide_eq_true e4,decide_eq_true hx];rfl
theorem tell_round {dss:List (List Dd)}{f rows:List Int}(h:slowB dss f rows=true):roundB (tellW dss f rows)=false:=by
 have T:=told_of (each_parts (slow_each h)).1;have hl:=web_lift T.sw T.cls;have hr:=web_res hl.1 (clsB (eventsB dss));refine less_round hr.1 hl.1 (fun i j hi hj hlin=>?_) ?_
 ·
  have e:line (resL (clsB (eventsB dss)) (liftL (swL dss (eventsB dss) f rows) (clsB (eventsB dss))) (eventsB dss).length) i j=true:=hlin;rw[hr.2 i j hi] at e;simp only[Bool.and_eq_true] at e;exact e.2.2
 ·
  unfold slowB at h;simp only[Bool.and_eq_true,Bool.not_eq_true'] at h;exact h.2.2
theorem tell_stands {dss:List (List Dd)}{f rows:List Int}(h:slowB dss f rows=true):sortedB (tellW dss f rows)=true∧∃d,Stands (tellW dss f rows) (eventsB dss).length (eventsB dss).length (sortedL (tellW dss f rows)) d:=by
 have T:=told_of (each_parts (slow_each h)).1;have W:=(tell_web T).1;have hs:sortedB (tellW dss f rows)=true:=by rw[sorted_iff W,tell_round h];rfl
 refine⟨hs,?_⟩;unfold sortedB at hs
 cases hq:sortedO (tellW dss f rows) with
 |none=>rw[hq] at hs;cases hs
 |some q=>
  obtain⟨l,d⟩:=q;rw[sortedL_some hq];have hk:sortK (tellW dss f rows) (tellW dss f rows).length=some (l,d):=by unfold sortedO at hq;rw[if_pos W.b] at hq;exact hq
  rw[W.2.1] at hk;exact⟨d,sort_stands W _ hk⟩
theorem row_no_beg {dss:List (List Dd)}{f rows:List Int}(he:eachB dss f rows=true){x i:Nat}(hx:x<(eventsB dss).length)(hi:i<3)(h:rowlt dss rows x i):False:=by
 obtain⟨ht,hr0⟩:=each_parts he;have T:=told_of ht;have hb:=T.work;obtain⟨hin,hne,hp⟩:=row_use T.webs T.twelve T.rws hx h;by_cases h3:x<3
 ·
  have p1:=(beg_place hb h3).1;have p2:=(beg_place hb hi).1;omega
 ·
  refine two_round T.pw hr0 hx (j:=i) ?_ ?_
  · rw[T.pwl x i hx,h];simp
  ·
   have:=plc_is T.twelve (i:=i) (k:=x) (by omega) hx (.inl ⟨hi,by omega⟩) hp.symm;rw[T.pwl i x hin,this];simp
theorem sw_no_beg {dss:List (List Dd)}{f rows:List Int}(he:eachB dss f rows=true){j i:Nat}(hj:j<(eventsB dss).length)(hi:i<3)(h:line (swL dss (eventsB dss) f rows) j i=true):False:=by
 have T:=told_of (each_parts he).1;have hb:=T.work;rw[T.swl j i hj,(ow_line T.webs).2 j i hj] at h;simp only[Bool.or_eq_true,Bool.and_eq_true] at h;rcases h with (h|h)|(h|h)
 ·
  rw[(kep_line (dss:=dss) T.twelve).2 j i hj] at h;simp only[Bool.and_eq_true] at h;have:=h.1.2;unfold behP at this;simp only[Bool.and_eq_true,Bool.or_eq_true,decide_eq_true_eq] at this;omega
 ·
  obtain⟨q,hq,_,e⟩:=(T.webs.fwl j i hj).1 h.1;have h1:=rd_is T.twelve hq;rw[e,Int.toNat_natCast,(beg_place hb hi).2.1] at h1;cases h1
 · exact row_no_beg he hj hi h
 ·
  obtain⟨q,hq,e,hl⟩:=(T.webs.agl j i hj).1 h;obtain⟨sl,su⟩:=src_use T.twelve T.src;have:=(su q hq).1;exact row_no_beg he (by omega) hi hl
theorem tell_front {dss:List (List Dd)}{f rows:List Int}(h:slowB dss f rows=true){l:List Int}{d:Int}(S:Stands (tellW dss f rows) (eventsB dss).length (eventsB dss).length l d){p k:Nat}(hp:p<l.length)(ek:l.getD p 0=(k:Int))(h3:3≤k)(hf:(sysW dss).cs k=(k:Int)):Front dss f rows (DoneQ (clsB (eventsB dss)) l p) (k:Int):=by
 have T:=told_of (each_parts (slow_each h)).1;have hb:=T.work;have W:=tell_web T;refine⟨h,fun z h0 h1 => .inl ⟨h0,h1⟩,?_,?_⟩
 ·
  rintro (hq|hq)
  · omega
  ·
   obtain⟨q,q1,q2,q3⟩:=at_take hq.1;have:=at_one S.once q2 hp (by rw[q3,ek]);omega
 ·
  intro j i hj hi hlin hne hor;obtain⟨y,e1,hy,e2⟩:=cs_first hb hj;obtain⟨x,e3,hx,e4⟩:=cs_first hb hi;have hl:=W.2 j i hj hi hlin hne y x e1 e3;rw[e1];rw[e3] at hor;by_cases y3:y<3
  · exact .inl ⟨by omega,by omega⟩
  have hcy:(clsB (eventsB dss)).getD (y:Int).toNat 0=(y:Int):=by rw[Int.toNat_natCast,cls_get T.twelve hy];exact e2
  refine .inr ⟨?_,hcy⟩;rcases hor with (hq|hq)|hq
  ·
   exfalso;have hx3:x<3:=by omega
   have:i<3:=by
    apply Classical.byContradiction;intro hi3;obtain⟨c,kk,ii,E⟩:=ev_dec hb (by omega) hi;have:=cls_three hb E.hc E.hk E.kind;rw[(sys_at hb E).2.2.2] at e3;omega
   exact sw_no_beg (slow_each h) hj this hlin
  ·
   obtain⟨q,q1,q2,q3⟩:=at_take hq.1;have hm:=S.ahead q q2 x y q3 hy hl;exact List.take_subset_take_left _ (by omega) hm
  ·
   have:=S.ahead p hp x y (by rw[ek,hq]) hy hl;exact this
theorem CI_same {dss:List (List Dd)}{f rows:List Int}{Q Q':Int→Prop}{κ:Int}{b:Bd}{a:Ab}{τ:Nat→Nat}{Tm:Nat}{z:Int}(C:CI dss f rows Q κ b a τ Tm z)(h:∀j,j<(eventsB dss).length→(Q ((sysW dss).cs j)↔Q' ((sysW dss).cs j))):CI dss f rows Q' κ b a τ Tm z:=
 ⟨C.mi,fun j hj=>by rw[C.dq j hj,h j hj],C.ro,C.fo⟩
def tellM (dss:List (List Dd))(es:List Ev)(p:Bd×List Int)(k:Int):Bd×List Int:=
  if k<3∨(clsB es).getD k.toNat 0≠k then p else
    if isB (possM dss (aheadM dss es (es.getD k.toNat zE).1.toNat (dss.getD (es.getD k.toNat zE).1.toNat []).length p).1)
        (if (dOf dss (es.getD k.toNat zE)).1=2∧(dOf dss (es.getD k.toNat zE)).2.2.2=0 then 10+(es.getD k.toNat zE).1 else (es.getD k.toNat zE).1)=true then
      (stepM dss es (aheadM dss es (es.getD k.toNat zE).1.toNat (dss.getD (es.getD k.toNat zE).1.toNat []).length p).1
        (if (dOf dss (es.getD k.toNat zE)).1=2∧(dOf dss (es.getD k.toNat zE)).2.2.2=0 then 10+(es.getD k.toNat zE).1 else (es.getD k.toNat zE).1),
       (aheadM dss es (es.getD k.toNat zE).1.toNat (dss.getD (es.getD k.toNat zE).1.toNat []).length p).2 ++
        [if (dOf dss (es.getD k.toNat zE)).1=2∧(dOf dss (es.getD k.toNat zE)).2.2.2=0 then 10+(es.getD k.toNat zE).1 else (es.getD k.toNat zE).1])
    else aheadM dss es (es.getD k.toNat zE).1.toNat (dss.getD (es.getD k.toNat zE).1.toNat []).length p
theorem tell_step {dss:List (List Dd)}{f rows:List Int}(h:slowB dss f rows=true){l:List Int}{d:Int}(S:Stands (tellW dss f rows) (eventsB dss).length (eventsB dss).length l d){q:Nat}(hq:q<l.length){p:Bd×List Int}{a:Ab}{τ:Nat→Nat}{Tm:Nat}{z:Int}
  (C:Idle dss f rows (DoneQ (clsB (eventsB dss)) l q) p.1 a τ Tm z) (W:Way0 dss p):
  ∃a' τ' T' z',Idle dss f rows (DoneQ (clsB (eventsB dss)) l (q+1)) (tellM dss (eventsB dss) p (l.getD q 0)).1 a' τ' T' z'∧Way0 dss (tellM dss (eventsB dss) p (l.getD q 0)):=by
 have T:=told_of (each_parts (slow_each h)).1;have hb:=T.work;obtain⟨k,ek,hk⟩:=S.low (l.getD q 0) (getD_mem hq);have cg:∀q,q<(eventsB dss).length→(clsB (eventsB dss)).getD q 0=(sysW dss).cs q:=fun q hq=>cls_get T.twelve hq
 have hdn:=fun y=>done_next (cl:=clsB (eventsB dss)) hq y
 by_cases hno:(k:Int)<3∨(clsB (eventsB dss)).getD (k:Int).toNat 0≠(k:Int)
 ·
  have e:tellM dss (eventsB dss) p (l.getD q 0)=p:=by unfold tellM;rw[ek,if_pos hno]
  rw[e];refine⟨a,τ,Tm,z,CI_same C (fun j hj=>?_),W⟩;rw[hdn,ek];constructor
  · exact fun h => .inl h
  ·
   rintro (h|⟨h1,h2⟩)
   · exact h
   ·
    rcases hno with h3|h3
    · exact .inl ⟨by omega,by omega⟩
    ·
     rw[h1] at h2;exact absurd h2 h3
 ·
  have h3:3≤k:=by
   apply Classical.byContradiction;intro hn;exact hno (.inl (by omega))
  have hcl:(clsB (eventsB dss)).getD (k:Int).toNat 0=(k:Int):=Classical.byContradiction (fun hn=>hno (.inr hn));have hf:(sysW dss).cs k=(k:Int):=by rw[Int.toNat_natCast,cg k hk] at hcl;exact hcl
  obtain⟨c,kk,E,e1,e2⟩:=first_ev hb h3 hk hf;have F:=tell_front h S hq ek h3 hf;rw[e1,←e2] at F;obtain⟨a1,τ1,T1,z1,C1,W1,ha,_⟩:=ahead_idle hb E.hc (dss.getD c []).length p a τ Tm z C W (by omega);have hev:=E.at hb;have hE1:((eventsB dss).getD (k:Int).toNat zE).1=(c:Int):=by rw[Int.toNat_natCast,e1,hev]
  have hdo:dOf dss ((eventsB dss).getD (k:Int).toNat zE)=dAt dss c kk:=by unfold dOf;rw[Int.toNat_natCast,e1,hev,Int.toNat_natCast,Int.toNat_natCast]
  have hcong:∀ {b':Bd} {a':Ab} {τ':Nat→Nat} {T':Nat} {z':Int},Idle dss f rows (fun y=>DoneQ (clsB (eventsB dss)) l q y∨y=(k:Int)) b' a' τ' T' z'→Idle dss f rows (DoneQ (clsB (eventsB dss)) l (q+1)) b' a' τ' T' z':=fun C'=>CI_same C' (fun j hj=>by
   rw[hdn,ek];constructor
   ·
    rintro (h|h)
    · exact .inl h
    · exact .inr ⟨h,by rw[h];exact hcl⟩
   ·
    rintro (h|h)
    · exact .inl h
    · exact .inr h.1)
  unfold tellM;rw[ek,if_neg hno,hdo,hE1,Int.toNat_natCast];by_cases hpl:(dAt dss c kk).1=2∧(dAt dss c kk).2.2.2=0
  ·
   rw[if_pos hpl];obtain⟨rest,hN⟩:=pos_note F C1 E e2 ha hpl.1 hpl.2
   have hne:(aheadM dss (eventsB dss) c (dss.getD c []).length p).1.nts.getD c []≠[]:=by
    rw[nts_at C1.mi.rep E.hc,hN];simp
   have hps:=poss_flush E.hc hne;rw[if_pos hps];have F0:Front dss f rows (DoneQ (clsB (eventsB dss)) l q) (-1):=⟨F.slow,F.beg,done_low S.low,fun j i hj hi h1 h2 h3=>F.cl j i hj hi h1 h2 (h3.elim (fun h => .inl h) (fun h=>by have:=cs_nat hb hi;omega))⟩;obtain⟨a2,τ2,z2,C2,_⟩:=CI_flush F0 C1 E.hc hN
   have hst:stepM dss (eventsB dss) (aheadM dss (eventsB dss) c (dss.getD c []).length p).1 (10+(c:Int))=flushM (aheadM dss (eventsB dss) c (dss.getD c []).length p).1 c:=by
    unfold stepM;rw[if_pos (by omega),show (10+(c:Int)-10).toNat=c by omega]
   refine⟨a2,τ2,T1+1,z2,?_,W1.step hps⟩;show Idle dss f rows _ (stepM dss (eventsB dss) _ (10+(c:Int))) a2 τ2 (T1+1) z2;rw[hst];apply hcong;have:(sysW dss).cs (offN dss c kk)=(k:Int):=by rw[←e1];exact hf
   rw[this] at C2;exact C2
  ·
   rw[if_neg hpl];have h2:(dAt dss c kk).1=2→gAt dss c kk≠0:=fun h h'=>hpl ⟨h,h'⟩
   obtain⟨p1,p2⟩:=pos_deed F C1 E e2 ha h2
   have hcan:canM dss (aheadM dss (eventsB dss) c (dss.getD c []).length p).1 c=true:=by
    rw[can_rep C1.mi.rep E.hc,p1,decide_eq_true E.hk];rcases p2 with ⟨g1,g2⟩|g
    · rw[g1,g2];rfl
    · rw[g];simp
   have hps:=poss_can E.hc hcan;rw[if_pos hps];subst p1;obtain⟨a2,τ2,z2,C2,_⟩:=CI_class F C1 E.hc E.hk e2 E.kind h2 p2;refine⟨a2,τ2,T1+1,z2,hcong ?_,W1.step hps⟩;rw[e2,←e1] at C2;exact C2
theorem tell_loop {dss:List (List Dd)}{f rows:List Int}(h:slowB dss f rows=true){l:List Int}{d:Int}(S:Stands (tellW dss f rows) (eventsB dss).length (eventsB dss).length l d){p0:Bd×List Int}{a0:Ab}{τ0:Nat→Nat}{T0:Nat}{z0:Int}
  (C0:Idle dss f rows (DoneQ (clsB (eventsB dss)) l 0) p0.1 a0 τ0 T0 z0) (W0:Way0 dss p0):∀q:Nat,q≤l.length →
  ∃a τ T z,Idle dss f rows (DoneQ (clsB (eventsB dss)) l q) ((l.take q).foldl (tellM dss (eventsB dss)) p0).1 a τ T z∧Way0 dss ((l.take q).foldl (tellM dss (eventsB dss)) p0)
 | 0,_=>by
  rw[List.take_zero];exact⟨a0,τ0,T0,z0,C0,W0⟩
 |q+1,hq=>by
  obtain⟨a,τ,T,z,C,W⟩:=tell_loop h S C0 W0 q (by omega);rw[List.take_add_one,List.getElem?_eq_getElem (by omega),List.foldl_append];have:=tell_step h S (q:=q) (by omega) C W;rw[List.getD_eq_getElem?_getD,List.getElem?_eq_getElem (by omega)] at this;exact this
theorem new_idle {dss:List (List Dd)}(hb:workB dss=true)(f rows cl l:List Int):Idle dss f rows (DoneQ cl l 0) (newM dss) newA (fun _=>0) 0 (-1):=by
 have hX:∀j,(stA dss newA (fun _=>0)).X j↔j<3:=by
  intro j;show (j<(eventsB dss).length∧exA dss newA j=true)↔_;unfold exA newA;simp;have:=(beg_ev hb).1;omega
 have hN:∀c,(stA dss newA (fun _=>0)).N c=[]:=fun c=>by show (if 0≤c then [] else [])=[];split<;>rfl
 refine⟨(new_sim hb).1,fun j hj=>?_,fun p=>?_,fun r hr hrd=>?_⟩
 ·
  unfold AbsSt.D;rw[hX,hN]
  have hcs:j<3↔(sysW dss).cs j<3:=by
   by_cases h3:j<3
   ·
    have:(sysW dss).cs j=(j:Int):=(beg_place hb h3).2.2.1;omega
   ·
    obtain⟨c,k,i,E⟩:=ev_dec hb (by omega) hj;have:=cls_three hb E.hc E.hk E.kind;rw[(sys_at hb E).2.2.2];omega
  have h0:=cs_nat hb hj;unfold DoneQ;simp only[List.take_zero,List.not_mem_nil,not_false_eq_true,and_true,false_and,or_false];omega
 ·
  show (if p<3 then [p] else []).Pairwise _;split<;>simp
 ·
  have h3:=(hX r).1 hr;have:(sysW dss).rd r=false:=(beg_place hb h3).2.1;rw[this] at hrd;cases hrd
def lastM (dss:List (List Dd))(es:List Ev)(p:Bd×List Int)(m:Nat):Bd×List Int:=(List.range m).foldl (fun p c=>aheadM dss es c (dss.getD c []).length p) p
theorem last_idle {dss:List (List Dd)}{f rows:List Int}{Q:Int→Prop}(hb:workB dss=true){p0:Bd×List Int}{a0:Ab}{τ0:Nat→Nat}{T0:Nat}{z0:Int}(C0:Idle dss f rows Q p0.1 a0 τ0 T0 z0)(W0:Way0 dss p0)(hall:∀j,j<(eventsB dss).length→Q ((sysW dss).cs j)):∀m:Nat,m≤dss.length →
  ∃a τ T z,Idle dss f rows Q (lastM dss (eventsB dss) p0 m).1 a τ T z∧Way0 dss (lastM dss (eventsB dss) p0 m)∧∀c,c<m→(dss.getD c []).length≤a.nx c
 | 0,_=>⟨a0,τ0,T0,z0,C0,W0,fun c hc=>by omega⟩
 |m+1,hm=>by
  obtain⟨a,τ,T,z,C,W,hl⟩:=last_idle hb C0 W0 hall m (by omega)
  have e:lastM dss (eventsB dss) p0 (m+1)=aheadM dss (eventsB dss) m (dss.getD m []).length (lastM dss (eventsB dss) p0 m):=by
   unfold lastM;rw[List.range_succ,List.foldl_append];rfl
  rw[e];obtain⟨a',τ',T',z',C',W',ha,ho⟩:=ahead_idle hb (c:=m) (by omega) (dss.getD m []).length _ a τ T z C W (by omega);refine⟨a',τ',T',z',C',W',fun c hc=>?_⟩;by_cases ec:c=m
  ·
   subst ec;have hc':c<dss.length:=by omega
   apply Classical.byContradiction;intro hlt;have hlt':a'.nx c<(dss.getD c []).length:=by omega
   by_cases h4:(dAt dss c (a'.nx c)).1=4
   ·
    have hN:a'.N c=[]:=by
     cases hN:a'.N c with
     |nil=>rfl
     |cons x r=>
      exfalso;have hx:x∈a'.N c:=by rw[hN];simp
      have hxn:=C'.mi.inv.lt x (C'.mi.inv.note (c:Int) x (by rw[st_N];exact hx)).1;exact note_not C'.mi hx ((idle_dq hb C' hxn).2 (hall x hxn))
    unfold aheadB at ha;rw[can_rep C'.mi.rep hc',(nx_at C'.mi.rep hc').2,h4,hN,decide_eq_true hlt'] at ha;simp at ha
   ·
    have E:=ev_first hc' hlt' h4;have hn:=(E.lt hb).2;have hd:=(idle_dq hb C' hn).2 (hall _ hn);have:=hd.1.2;rw[ex_at hb E,decide_eq_true_eq] at this;omega
  ·
   rw[(ho c ec).1];exact hl c (by omega)
def stepsM (dss:List (List Dd))(f rows:List Int):Bd×List Int:=lastM dss (eventsB dss) ((sortedL (tellW dss f rows)).foldl (tellM dss (eventsB dss)) (newM dss,[])) dss.length
theorem steps_end {dss:List (List Dd)}{f rows:List Int}(h:slowB dss f rows=true):Way0 dss (stepsM dss f rows)∧endM dss (stepsM dss f rows).1=true∧∃Q a τ T z,Idle dss f rows Q (stepsM dss f rows).1 a τ T z:=by
 have T:=told_of (each_parts (slow_each h)).1;have hb:=T.work;obtain⟨_,d,S⟩:=tell_stands h;obtain⟨a,τ,Tm,z,C,W⟩:=tell_loop h S (p0:=(newM dss,[])) (new_idle hb f rows _ _) ⟨rfl,rfl⟩ _ (Nat.le_refl _);rw[List.take_length] at C W
 have hall:∀j,j<(eventsB dss).length→DoneQ (clsB (eventsB dss)) (sortedL (tellW dss f rows)) (sortedL (tellW dss f rows)).length ((sysW dss).cs j):=by
  intro j hj;obtain⟨y,e1,hy,e2⟩:=cs_first hb hj;rw[e1];refine .inr ⟨?_,?_⟩
  ·
   rw[List.take_length];exact all_in S.len S.low S.once hy
  · rw[Int.toNat_natCast,cls_get T.twelve hy];exact e2
 obtain⟨a',τ',T',z',C',W',hl⟩:=last_idle hb C W hall dss.length (Nat.le_refl _);refine⟨W',?_,_,a',τ',T',z',C'⟩;unfold endM;rw[List.all_eq_true];intro c hc;have hc':=List.mem_range.1 hc
 have hN:a'.N c=[]:=by
  cases hN:a'.N c with
  |nil=>rfl
  |cons x r=>
   exfalso;have hx:x∈a'.N c:=by rw[hN];simp
   have hxn:=C'.mi.inv.lt x (C'.mi.inv.note (c:Int) x (by rw[st_N];exact hx)).1;exact note_not C'.mi hx ((idle_dq hb C' hxn).2 (hall x hxn))
 show (decide ((dss.getD c []).length≤nxN (stepsM dss f rows).1 c)&&((stepsM dss f rows).1.nts.getD c []).isEmpty)=true;have r1:nxN (stepsM dss f rows).1 c=a'.nx c:=(nx_at C'.mi.rep hc').2;have r2:(stepsM dss f rows).1.nts.getD c []=(a'.N c).map (ntE dss):=nts_at C'.mi.rep hc';rw[r1,r2,hN,decide_eq_true (hl c hc')];rfl
theorem goes_len {dss:List (List Dd)}(hb:workB dss=true){es:List Ev}:∀(l:List Int) (b:Bd),LN dss b→(∀c,0≤b.nxt.getD c 0)→goesM dss es l b=true→l.length+mesM dss (runM dss es b l)≤mesM dss b
 | [],b,_,_,_=>by rw[runM];simp
 |s::l,b,hL,h0,h=>by
  rw[goesM,Bool.and_eq_true] at h;obtain⟨m1,m2,m3⟩:=mes_step hb (es:=es) hL h0 h.1;have:=goes_len hb l (stepM dss es b s) m2 m3 h.2;rw[runM,if_pos h.1,List.length_cons];omega
def rowle (es:List Ev)(rows:List Int)(x y:Int):Prop:=plE es x=plE es y→line (rwL es rows) x.toNat y.toNat=true
theorem rows_pair {es:List Ev}{rows:List Int}(hx:es.length≤12)(h:rowsL es rows=true):rows.Pairwise (rowle es rows):=by
 rw[List.pairwise_iff_getElem];intro i k hi hk hik hp;have:=row_cell hx h hi hk;rw[List.getD_eq_getElem?_getD,List.getElem?_eq_getElem hi,List.getD_eq_getElem?_getD,List.getElem?_eq_getElem hk] at this;simp only[Option.getD_some] at this;rw[this];unfold rwP;rw[List.getD_eq_getElem?_getD,List.getElem?_eq_getElem hi,List.getD_eq_getElem?_getD,List.getElem?_eq_getElem hk];simp only[Option.getD_some];rw[hp,decide_eq_true hik];simp
theorem rows_split {es:List Ev}{rows:List Int}(hx:es.length≤12)(h:rowsL es rows=true):∃P0 P1 P2,rows=P0++P1++P2∧(plcW es 0).Perm P0∧(plcW es 1).Perm P1∧(plcW es 2).Perm P2:=by
 unfold rowsL at h;simp only[Bool.and_eq_true,decide_eq_true_eq] at h;obtain⟨⟨⟨h0,h1⟩,h2⟩,hl⟩:=h;obtain⟨l0,p0⟩:=okP_perm (plcW_nodup hx 0) h0;obtain⟨l1,p1⟩:=okP_perm (plcW_nodup hx 1) h1;obtain⟨l2,p2⟩:=okP_perm (plcW_nodup hx 2) h2
 have e:rows=rows.take (plcW es 0).length++(rows.drop (plcW es 0).length).take (plcW es 1).length++(rows.drop ((plcW es 0).length+(plcW es 1).length)).take (plcW es 2).length:=by
  have t2:(rows.drop ((plcW es 0).length+(plcW es 1).length)).take (plcW es 2).length=rows.drop ((plcW es 0).length+(plcW es 1).length):=List.take_of_length_le (by rw[List.length_drop];omega);rw[t2,List.append_assoc,←List.drop_drop,List.take_append_drop,List.take_append_drop]
 rw[List.drop_zero] at p0;exact⟨_,_,_,e,p0,p1,p2⟩
theorem part_same {dss:List (List Dd)}{f rows:List Int}(T:Told dss f rows){a:Ab}{τ:Nat→Nat}{Tm:Nat}{z:Int}{b:Bd}(h:Fin dss a τ Tm z b)(ro:∀p,(a.R p).Pairwise (rowlt dss rows)){p:Nat}{P:List Int}(hp:(plcW (eventsB dss) p).Perm P)(hs:P.Pairwise (rowle (eventsB dss) rows)):(a.R p).map Int.ofNat=P:=by
 have hb:=T.work;have hm:∀x,x∈(a.R p).map Int.ofNat→x∈plcW (eventsB dss) p:=fun x hx=>(h.perm hb p).mem_iff.1 hx
 refine List.Perm.eq_of_pairwise (le:=rowle (eventsB dss) rows) (fun x y hx hy h1 h2=>?_) ?_ hs ((h.perm hb p).trans hp)
 ·
  exfalso;obtain⟨x1,x2⟩:=plcW_mem T.twelve (hm x hx);obtain⟨y1,y2⟩:=plcW_mem T.twelve (hp.mem_iff.2 hy);have e:plE (eventsB dss) x=plE (eventsB dss) y:=by unfold plE;rw[x2,y2]
  exact row_anti T (show x.toNat<_ by omega) (h1 e) (h2 e.symm)
 ·
  refine List.Pairwise.map _ (fun x y hxy _=>?_) (ro p);exact hxy
theorem tells_rows {dss:List (List Dd)}{f rows:List Int}(T:Told dss f rows){a:Ab}{τ:Nat→Nat}{Tm:Nat}{z:Int}{b:Bd}(h:Fin dss a τ Tm z b)(ro:∀p,(a.R p).Pairwise (rowlt dss rows)):rowsOf b=rows:=by
 have hp:=rows_pair T.twelve T.rws;obtain⟨P0,P1,P2,e,p0,p1,p2⟩:=rows_split T.twelve T.rws;have s:∀P:List Int,P.Sublist rows→P.Pairwise (rowle (eventsB dss) rows):=fun P hP=>hp.sublist hP
 rw[h.rowsE]
 rw[part_same T h ro p0 (s P0 (by rw[e];exact (List.sublist_append_left P0 P1).trans (List.sublist_append_left _ P2))),
  part_same T h ro p1 (s P1 (by rw[e];exact (List.sublist_append_right P0 P1).trans (List.sublist_append_left _ P2))),
  part_same T h ro p2 (s P2 (by rw[e];exact List.sublist_append_right _ P2)),←e]
theorem tells_from {dss:List (List Dd)}{f rows:List Int}(T:Told dss f rows){a:Ab}{τ:Nat→Nat}{Tm:Nat}{z:Int}{b:Bd}(h:Fin dss a τ Tm z b)(fo:∀r,(stA dss a τ).X r→(sysW dss).rd r=true→a.F r=fromN dss f r):b.fr=f:=by
 obtain⟨sl,_⟩:=src_use T.twelve T.src;have hl:b.fr.length=(idxB rdE (eventsB dss)).length:=by rw[h.frs.1,List.length_map]
 refine list_ext (n:=b.fr.length) rfl (by rw[hl];exact sl.symm) (fun i hi=>?_);obtain⟨r,hr,e1,e2,e3⟩:=h.rd (i:=i) (by omega);obtain⟨q,hq,g1,g2,_⟩:=from_at T hr e3;have:=nodup_get (rd_nodup T.twelve) (p:=i) (q:=q) (by omega) hq (by rw[e1,g1]);subst this;rw[e2,g2,fo r (h.all r hr).1 e3]
theorem steps_tell {dss:List (List Dd)}{f rows:List Int}(h:slowB dss f rows=true):
  goesM dss (eventsB dss) (stepsM dss f rows).2 (newM dss)=true∧runM dss (eventsB dss) (newM dss) (stepsM dss f rows).2=(stepsM dss f rows).1∧(stepsM dss f rows).2.length≤24∧endM dss (stepsM dss f rows).1=true ∧
  (stepsM dss f rows).1.fr=f∧rowsOf (stepsM dss f rows).1=rows∧ocB dss f rows=(stepsM dss f rows).1.sn++(stepsM dss f rows).1.plc:=by
 have T:=told_of (each_parts (slow_each h)).1;have hb:=T.work;obtain⟨W,he,Q,a,τ,Tm,z,C⟩:=steps_end h;have F:=fin_of hb C.mi he;have e1:=tells_from T F C.fo;have e2:=tells_rows T F C.ro;obtain⟨m1,m2,m3⟩:=mes_new hb;have:=goes_len hb _ _ m2 m3 W.goes;refine⟨W.goes,W.run,by omega,he,e1,e2,?_⟩;have:=F.outcome hb;rw[e1,e2] at this;exact this
def tellX (dss:List (List Dd))(f rows:List Int):List Int:=resL (clsB (eventsB dss)) (liftL (xwL (eventsB dss) f rows) (clsB (eventsB dss))) (eventsB dss).length
theorem tellX_web {dss:List (List Dd)}{f rows:List Int}(T:Told dss f rows):Web (eventsB dss).length (tellX dss f rows)∧∀i j,i<(eventsB dss).length→j<(eventsB dss).length→line (xwL (eventsB dss) f rows) i j=true→(sysW dss).cs i≠(sysW dss).cs j →
  ∀y x:Nat,(sysW dss).cs i=(y:Int)→(sysW dss).cs j=(x:Int)→line (tellX dss f rows) y x=true:=by
 have hl:=web_lift T.xw T.cls;have hr:=web_res hl.1 (clsB (eventsB dss));refine⟨hr.1,fun i j hi hj hlin hne y x ey ex=>?_⟩;obtain⟨y',e1,hy,e2⟩:=cs_first T.work hi;obtain⟨x',e3,hx,e4⟩:=cs_first T.work hj;obtain rfl:y'=y:=by omega
 obtain rfl:x'=x:=by omega
 have cg:∀q,q<(eventsB dss).length→(clsB (eventsB dss)).getD q 0=(sysW dss).cs q:=fun q hq=>cls_get T.twelve hq
 unfold tellX;rw[hr.2 y' x' hy]
 have l1:line (liftL (xwL (eventsB dss) f rows) (clsB (eventsB dss))) y' x'=true:=by
  rw[hl.2.2 y' x' hy];refine⟨hx,?_,i,j,hi,hj,?_,?_,hlin⟩
  · rw[cg _ hx,cg _ hy,e2,e4];intro h;exact hne (by omega)
  · rw[cg _ hi,cg _ hy];omega
  · rw[cg _ hj,cg _ hx];omega
 unfold fstB;rw[l1,cg _ hx,cg _ hy,decide_eq_true e2,decide_eq_true e4,decide_eq_true hx];rfl
theorem tellX_stands {dss:List (List Dd)}{f rows:List Int}(h:strictB dss f rows=true):∃l d,Stands (tellX dss f rows) (eventsB dss).length (eventsB dss).length l d:=by
 have T:=told_of (each_parts (slow_each (strict_slow h))).1;have hl:=web_lift T.xw T.cls;have hr:=web_res hl.1 (clsB (eventsB dss));have W:=(tellX_web T).1
 have hro:roundB (tellX dss f rows)=false:=by
  refine less_round hr.1 hl.1 (fun i j hi hj hlin=>?_) ?_
  ·
   have e:line (resL (clsB (eventsB dss)) (liftL (xwL (eventsB dss) f rows) (clsB (eventsB dss))) (eventsB dss).length) i j=true:=hlin;rw[hr.2 i j hi] at e;simp only[Bool.and_eq_true] at e;exact e.2.2
  ·
   unfold strictB at h;simp only[Bool.and_eq_true,Bool.not_eq_true'] at h;exact h.2.2
 obtain⟨l,d,hk⟩:=sort_goes W hro _ (Nat.le_refl _);exact⟨l,d,sort_stands W _ hk⟩
theorem tellX_front {dss:List (List Dd)}{f rows:List Int}(h:strictB dss f rows=true){l:List Int}{d:Int}(S:Stands (tellX dss f rows) (eventsB dss).length (eventsB dss).length l d){p k:Nat}(hp:p<l.length)(ek:l.getD p 0=(k:Int))(h3:3≤k)(hf:(sysW dss).cs k=(k:Int)):
  Front dss f rows (DoneQ (clsB (eventsB dss)) l p) (k:Int)∧∀j,3≤j→j<k→(sysW dss).ck j=(sysW dss).ck k→(sysW dss).cs j≠(k:Int)→k<(eventsB dss).length→DoneQ (clsB (eventsB dss)) l p ((sysW dss).cs j):=by
 have hsl:=strict_slow h;have T:=told_of (each_parts (slow_each hsl)).1;have hb:=T.work;have W:=tellX_web T
 have main:∀j i,j<(eventsB dss).length→i<(eventsB dss).length→line (xwL (eventsB dss) f rows) j i=true→(sysW dss).cs j≠(sysW dss).cs i→((∃x:Nat,(sysW dss).cs i=(x:Int)∧(x:Int)∈l.take p)∨(sysW dss).cs i=(k:Int))→DoneQ (clsB (eventsB dss)) l p ((sysW dss).cs j):=by
  intro j i hj hi hlin hne hor;obtain⟨y,e1,hy,e2⟩:=cs_first hb hj;obtain⟨x,e3,hx,e4⟩:=cs_first hb hi;have hl:=W.2 j i hj hi hlin hne y x e1 e3;rw[e1];have hcy:(clsB (eventsB dss)).getD (y:Int).toNat 0=(y:Int):=by rw[Int.toNat_natCast,cls_get T.twelve hy];exact e2
  refine .inr ⟨?_,hcy⟩;rcases hor with ⟨x',ex',hm⟩|hq
  ·
   obtain⟨q,q1,q2,q3⟩:=at_take hm;have hm:=S.ahead q q2 x y (by omega) hy hl;exact List.take_subset_take_left _ (by omega) hm
  · exact S.ahead p hp x y (by omega) hy hl
 refine⟨⟨hsl,fun z h0 h1 => .inl ⟨h0,h1⟩,?_,?_⟩,?_⟩
 ·
  rintro (hq|hq)
  · omega
  ·
   obtain⟨q,q1,q2,q3⟩:=at_take hq.1;have:=at_one S.once q2 hp (by rw[q3,ek]);omega
 ·
  intro j i hj hi hlin hne hor;obtain⟨x,e3,hx,e4⟩:=cs_first hb hi;refine main j i hj hi (slow_in T j i hj hi hlin) hne ?_;rcases hor with (hq|hq)|hq
  ·
   exfalso
   have:i<3:=by
    apply Classical.byContradiction;intro hi3;obtain⟨c,kk,ii,E⟩:=ev_dec hb (by omega) hi;have:=cls_three hb E.hc E.hk E.kind;rw[(sys_at hb E).2.2.2] at hq;omega
   exact sw_no_beg (slow_each hsl) hj this hlin
  · exact .inl ⟨x,e3,by rw[←e3];exact hq.1⟩
  · exact .inr hq
 ·
  intro j h3j hjk hck hcs hk;have hj:j<(eventsB dss).length:=by omega
  refine main j k hj hk ?_ (by rw[hf];exact hcs) (.inr hf);have h1:behP (eventsB dss) j k=true:=beh_is hjk (.inr ⟨h3j,hck⟩);have h2:=(beh_line T.twelve).2 j k hj;rw[h1,decide_eq_true hk] at h2;rw[T.xwl j k hj,h2];rfl
def Qway (dss:List (List Dd))(b:Bd):Prop:=∃l,quickG dss (eventsB dss) l (newM dss)=true∧quickR dss (eventsB dss) l (newM dss)=b
theorem quick_snoc {dss:List (List Dd)}{es:List Ev}:∀(l:List Nat) (b:Bd) (c:Nat),quickG dss es l b=true→c<dss.length→canM dss (quickR dss es l b) c=true→quickG dss es (l++[c]) b=true∧quickR dss es (l++[c]) b=quickM dss es (quickR dss es l b) c
 | [],b,c,_,h1,h2=>by
  have h2':canM dss b c=true:=h2;refine⟨?_,rfl⟩;show (decide (c<dss.length)&&canM dss b c&&true)=true;rw[decide_eq_true h1,h2'];rfl
 |x::l,b,c,h,h1,h2=>by
  rw[quickG,Bool.and_eq_true] at h;obtain⟨e1,e2⟩:=quick_snoc l (quickM dss es b x) c h.2 h1 h2;rw[List.cons_append,quickG,quickR,h.1,e1,e2];exact⟨rfl,rfl⟩
theorem Qway.step {dss:List (List Dd)}{b:Bd}(h:Qway dss b){c:Nat}(hc:c<dss.length)(hcan:canM dss b c=true):Qway dss (quickM dss (eventsB dss) b c):=by
 obtain⟨l,h1,h2⟩:=h;obtain⟨e1,e2⟩:=quick_snoc l (newM dss) c h1 hc (by rw[h2];exact hcan);exact⟨l++[c],e1,by rw[e2,h2]⟩
theorem pass_waits {dss:List (List Dd)}{f rows:List Int}{Q:Int→Prop}(hb:workB dss=true){c:Nat}(hc:c<dss.length):∀(m:Nat) (b:Bd) (a:Ab) (τ:Nat→Nat) (Tm:Nat) (z:Int),Idle dss f rows Q b a τ Tm z→Qway dss b→(∀c,a.N c=[])→(dss.getD c []).length≤a.nx c+m →
  ∃b' a' τ' T' z',Idle dss f rows Q b' a' τ' T' z'∧Qway dss b'∧(∀c,a'.N c=[])∧(a'.nx c<(dss.getD c []).length→(dAt dss c (a'.nx c)).1≠4)∧(∀c',c'≠c→a'.nx c'=a.nx c')
 | 0,b,a,τ,Tm,z,C,W,hN,hm=>⟨b,a,τ,Tm,z,C,W,hN,fun h=>by omega,fun _ _=>rfl⟩
 |m+1,b,a,τ,Tm,z,C,W,hN,hm=>by
  by_cases hk:a.nx c<(dss.getD c []).length
  ·
   by_cases h4:(dAt dss c (a.nx c)).1=4
   ·
    have hn:=(nx_at C.mi.rep hc).2
    have hg0:gAt dss c (a.nx c)=0:=by
     apply Classical.byContradiction;intro hg;exact (num_grp (okC_of hb hc) hk hg).1 h4
    have hst:=step_zero hb hc (b:=b) (by rw[hn];exact hk) (by rw[hn];exact hg0);have C':=CI_wait hb C hc hk h4 (hN c)
    have hq:quickM dss (eventsB dss) b c=oneM dss (eventsB dss) b c:=by
     unfold quickM;rw[hst,if_pos];rw[nts_at C'.mi.rep hc];show ((a.N c).map _).isEmpty=true;rw[hN c];rfl
    have hcan:canM dss b c=true:=by
     rw[can_rep C.mi.rep hc,hN c,decide_eq_true hk];simp
    have W':=W.step hc hcan;rw[hq] at W';obtain⟨b',a',τ',T',z',q1,q2,q3,q4,q5⟩:=pass_waits hb hc m _ _ τ Tm z C' W' hN (by rw[nx_bump,if_pos rfl];omega);refine⟨b',a',τ',T',z',q1,q2,q3,q4,fun c' h=>?_⟩;have:=q5 c' h;rw[nx_bump,if_neg h] at this;exact this
   · exact⟨b,a,τ,Tm,z,C,W,hN,fun _=>h4,fun _ _=>rfl⟩
  · exact⟨b,a,τ,Tm,z,C,W,hN,fun h=>absurd h hk,fun _ _=>rfl⟩
theorem tellX_step {dss:List (List Dd)}{f rows:List Int}(h:strictB dss f rows=true){l:List Int}{d:Int}(S:Stands (tellX dss f rows) (eventsB dss).length (eventsB dss).length l d){q:Nat}(hq:q<l.length){b:Bd}{a:Ab}{τ:Nat→Nat}{Tm:Nat}{z:Int}
  (C:Idle dss f rows (DoneQ (clsB (eventsB dss)) l q) b a τ Tm z) (W:Qway dss b) (hN:∀c,a.N c=[]):
  ∃b' a' τ' T' z',Idle dss f rows (DoneQ (clsB (eventsB dss)) l (q+1)) b' a' τ' T' z'∧Qway dss b'∧∀c,a'.N c=[]:=by
 have T:=told_of (each_parts (slow_each (strict_slow h))).1;have hb:=T.work;obtain⟨k,ek,hk⟩:=S.low (l.getD q 0) (getD_mem hq);have cg:∀q,q<(eventsB dss).length→(clsB (eventsB dss)).getD q 0=(sysW dss).cs q:=fun q hq=>cls_get T.twelve hq
 have hdn:=fun y=>done_next (cl:=clsB (eventsB dss)) hq y
 by_cases hno:(k:Int)<3∨(clsB (eventsB dss)).getD (k:Int).toNat 0≠(k:Int)
 ·
  refine⟨b,a,τ,Tm,z,CI_same C (fun j hj=>?_),W,hN⟩;rw[hdn,ek];constructor
  · exact fun h => .inl h
  ·
   rintro (h|⟨h1,h2⟩)
   · exact h
   ·
    rcases hno with h3|h3
    · exact .inl ⟨by omega,by omega⟩
    ·
     rw[h1] at h2;exact absurd h2 h3
 ·
  have h3:3≤k:=by
   apply Classical.byContradiction;intro hn;exact hno (.inl (by omega))
  have hcl:(clsB (eventsB dss)).getD (k:Int).toNat 0=(k:Int):=Classical.byContradiction (fun hn=>hno (.inr hn));have hf:(sysW dss).cs k=(k:Int):=by rw[Int.toNat_natCast,cg k hk] at hcl;exact hcl
  obtain⟨c,kk,E,e1,e2⟩:=first_ev hb h3 hk hf;obtain⟨F,hbeh⟩:=tellX_front h S hq ek h3 hf
  have hcong:∀ {b':Bd} {a':Ab} {τ':Nat→Nat} {T':Nat} {z':Int},Idle dss f rows (fun y=>DoneQ (clsB (eventsB dss)) l q y∨y=(k:Int)) b' a' τ' T' z'→Idle dss f rows (DoneQ (clsB (eventsB dss)) l (q+1)) b' a' τ' T' z':=fun C'=>CI_same C' (fun j hj=>by
   rw[hdn,ek];constructor
   ·
    rintro (h|h)
    · exact .inl h
    · exact .inr ⟨h,by rw[h];exact hcl⟩
   ·
    rintro (h|h)
    · exact .inl h
    · exact .inr h.1)
  obtain⟨b1,a1,τ1,T1,z1,C1,W1,N1,hw,_⟩:=pass_waits hb E.hc (dss.getD c []).length b a τ Tm z C W hN (by omega);have s:=sys_at hb E
  have p1:a1.nx c=kk:=by
   have up:¬kk<a1.nx c:=by
    intro hlt;have hX:(stA dss a1 τ1).X k:=⟨hk,by rw[e1,ex_at hb E,decide_eq_true_eq];exact hlt⟩;have hD:=(D_no τ1 N1 k).2 hX;have:=(idle_dq hb C1 hk).1 hD;rw[hf] at this;exact F.new this
   have low:¬a1.nx c<kk:=by
    intro hlt;have hm:a1.nx c<(dss.getD c []).length:=by have:=E.hk;omega
    have E1:=ev_first E.hc hm (hw hm);have hjk:offN dss c (a1.nx c)<offN dss c kk:=(E1.ord E).2 (.inr ⟨rfl,.inl hlt⟩);have hlow:=cls_low hb E.hc hm (hw hm);have l1:=E1.lt hb;have s1:=sys_at hb E1;have hq':=hbeh _ l1.1 (by omega) (by rw[s1.1,e1,s.1]) (by rw[s1.2.2.2,e1];omega) hk;have:=((idle_dq hb C1 l1.2).2 hq').1.2;rw[ex_at hb E1,decide_eq_true_eq] at this;omega
   omega
  have hn:=(nx_at C1.mi.rep E.hc).2
  have hcan:canM dss b1 c=true:=by
   rw[can_rep C1.mi.rep E.hc,N1 c,p1,decide_eq_true E.hk];simp
  have W2:=W1.step E.hc hcan;rw[e1,←e2] at F;by_cases hpl:(dAt dss c kk).1=2∧gAt dss c kk=0
  ·
   have hst:=step_zero hb E.hc (b:=b1) (by rw[hn,p1];exact E.hk) (by rw[hn,p1];exact hpl.2);subst p1;have h3c:=cls_three hb E.hc E.hk E.kind;have C2:=CI_note hb C1 E.hc E.hk hpl.1 hpl.2 (by omega)
   have hN':(noteA dss a1 c).N c=offN dss c (a1.nx c)::[]:=by
    show (if c=c then a1.N c++[offN dss c (a1.nx c)] else a1.N c)=_;rw[if_pos rfl,N1 c];rfl
   have F0:Front dss f rows (DoneQ (clsB (eventsB dss)) l q) (-1):=⟨F.slow,F.beg,done_low S.low,fun j i hj hi h1 h2 h3=>F.cl j i hj hi h1 h2 (h3.elim (fun h => .inl h) (fun h=>by have:=cs_nat hb hi;omega))⟩;obtain⟨a3,τ3,z3,C3,_,hN3⟩:=CI_flush F0 C2 E.hc hN'
   have hqm:quickM dss (eventsB dss) b1 c=flushM (oneM dss (eventsB dss) b1 c) c:=by
    unfold quickM;rw[hst,if_neg]
    ·
     unfold stepM;rw[if_pos (by omega),show (10+(c:Int)-10).toNat=c by omega]
    ·
     rw[nts_at C2.mi.rep E.hc,hN'];simp
   rw[hqm] at W2;refine⟨_,a3,τ3,T1+1,z3,hcong ?_,W2,fun c'=>?_⟩
   ·
    rw[s.2.2.2,e2,←e1] at C3;exact C3
   ·
    rw[hN3 c'];show (if c'=c then [] else (if c'=c then a1.N c'++[offN dss c (a1.nx c)] else a1.N c'))=[];split
    · rfl
    · exact N1 c'
  ·
   have h2:(dAt dss c kk).1=2→gAt dss c kk≠0:=fun h h'=>hpl ⟨h,h'⟩
   subst p1;obtain⟨a3,τ3,z3,C3,_,hN3⟩:=CI_class F C1 E.hc E.hk e2 E.kind h2 (.inr (N1 c))
   have hqm:quickM dss (eventsB dss) b1 c=stepM dss (eventsB dss) b1 (c:Int):=by
    unfold quickM;rw[if_pos];rw[nts_at C3.mi.rep E.hc,hN3,N1 c];rfl
   rw[hqm] at W2;refine⟨_,a3,τ3,T1+1,z3,hcong ?_,W2,fun c'=>by rw[hN3];exact N1 c'⟩;rw[e2,←e1] at C3;exact C3
theorem tellX_loop {dss:List (List Dd)}{f rows:List Int}(h:strictB dss f rows=true){l:List Int}{d:Int}(S:Stands (tellX dss f rows) (eventsB dss).length (eventsB dss).length l d):∀q:Nat,q≤l.length →
  ∃b a τ T z,Idle dss f rows (DoneQ (clsB (eventsB dss)) l q) b a τ T z∧Qway dss b∧∀c,a.N c=[]
 | 0,_=>by
  have hb:=(told_of (each_parts (slow_each (strict_slow h))).1).work;exact⟨_,_,_,_,_,new_idle hb f rows _ _,⟨[],rfl,rfl⟩,fun _=>rfl⟩
 |q+1,hq=>by
  obtain⟨b,a,τ,T,z,C,W,hN⟩:=tellX_loop h S q (by omega);exact tellX_step h S (q:=q) (by omega) C W hN
theorem lastX {dss:List (List Dd)}{f rows:List Int}{Q:Int→Prop}(hb:workB dss=true)(hall:∀j,j<(eventsB dss).length→Q ((sysW dss).cs j)){b0:Bd}{a0:Ab}{τ0:Nat→Nat}{T0:Nat}{z0:Int}(C0:Idle dss f rows Q b0 a0 τ0 T0 z0)(W0:Qway dss b0)(N0:∀c,a0.N c=[]):∀m:Nat,m≤dss.length →
  ∃b a τ T z,Idle dss f rows Q b a τ T z∧Qway dss b∧(∀c,a.N c=[])∧∀c,c<m→(dss.getD c []).length≤a.nx c
 | 0,_=>⟨b0,a0,τ0,T0,z0,C0,W0,N0,fun c hc=>by omega⟩
 |m+1,hm=>by
  obtain⟨b,a,τ,T,z,C,W,hN,hl⟩:=lastX hb hall C0 W0 N0 m (by omega);obtain⟨b',a',τ',T',z',C',W',N',hw,ho⟩:=pass_waits hb (c:=m) (by omega) (dss.getD m []).length b a τ T z C W hN (by omega);refine⟨b',a',τ',T',z',C',W',N',fun c hc=>?_⟩;by_cases ec:c=m
  ·
   subst ec;apply Classical.byContradiction;intro hlt;have hlt':a'.nx c<(dss.getD c []).length:=by omega
   have E:=ev_first (show c<dss.length by omega) hlt' (hw hlt');have hn:=(E.lt hb).2;have:=((idle_dq hb C' hn).2 (hall _ hn)).1.2;rw[ex_at hb E,decide_eq_true_eq] at this;omega
  ·
   rw[ho c ec];exact hl c (by omega)
theorem quick_tells {dss:List (List Dd)}{f rows:List Int}(h:strictB dss f rows=true):∃l,quickG dss (eventsB dss) l (newM dss)=true∧endM dss (quickR dss (eventsB dss) l (newM dss))=true∧(quickR dss (eventsB dss) l (newM dss)).fr=f∧rowsOf (quickR dss (eventsB dss) l (newM dss))=rows ∧
  ocB dss f rows=(quickR dss (eventsB dss) l (newM dss)).sn++(quickR dss (eventsB dss) l (newM dss)).plc:=by
 have T:=told_of (each_parts (slow_each (strict_slow h))).1;have hb:=T.work;obtain⟨l,d,S⟩:=tellX_stands h;obtain⟨b,a,τ,Tm,z,C,W,hN⟩:=tellX_loop h S _ (Nat.le_refl _)
 have hall:∀j,j<(eventsB dss).length→DoneQ (clsB (eventsB dss)) l l.length ((sysW dss).cs j):=by
  intro j hj;obtain⟨y,e1,hy,e2⟩:=cs_first hb hj;rw[e1];refine .inr ⟨?_,?_⟩
  ·
   rw[List.take_length];exact all_in S.len S.low S.once hy
  · rw[Int.toNat_natCast,cls_get T.twelve hy];exact e2
 obtain⟨b',a',τ',T',z',C',⟨r,g1,g2⟩,N',hl⟩:=lastX hb hall C W hN dss.length (Nat.le_refl _)
 have he:endM dss b'=true:=by
  unfold endM;rw[List.all_eq_true];intro c hc;have hc':=List.mem_range.1 hc;rw[(nx_at C'.mi.rep hc').2,nts_at C'.mi.rep hc',N' c,decide_eq_true (hl c hc')];rfl
 have Fi:=fin_of hb C'.mi he;have e1:=tells_from T Fi C'.fo;have e2:=tells_rows T Fi C'.ro;refine⟨r,g1,?_⟩;rw[g2];refine⟨he,e1,e2,?_⟩;have:=Fi.outcome hb;rw[e1,e2] at this;exact this
end Go.Proofs.YtkmjmnljkidobaaGreat
