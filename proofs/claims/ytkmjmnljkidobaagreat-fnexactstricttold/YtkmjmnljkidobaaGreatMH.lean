/- Gathered texts. -/
import Derived.Test.YtkmjmnljkidobaaGreatMG
import Derived.Shelf.SlSortCmp.Whole1
import Derived.Shelf.SlGeneric
import Derived.Ground.SlsfProg
import Derived.Test.YtkmjmnljkidobaaGreatProg
import Derived.Maps.AppendAt
import Derived.Laws.OwnMore
import Derived.OwnWalk
import Derived.Laws.Tables
import Derived.RegionTactic
set_option maxRecDepth 100000
set_option maxHeartbeats 8000000
namespace Go.Proofs.YtkmjmnljkidobaaGreat
open Go.ChangeShapes Go.WideShapes Go.ChangeAt Go.RowKit
open Go.RowKit
open Go.Shelf
def nextsM (dss:List (List Dd))(es:List Ev)(quick:Bool)(b:Bd):List Bd:=
 ((possM dss b).filter (fun s=>!(quick&&decide (10≤s)))).map (fun s=>if quick=true then quickM dss es b s.toNat else stepM dss es b s)
inductive ReachM (dss:List (List Dd)) (quick:Bool):Bd→Prop
 |new:ReachM dss quick (newM dss)
 |step {b x:Bd}:ReachM dss quick b→x∈nextsM dss (eventsB dss) quick b→ReachM dss quick x
theorem poss_twoS {dss:List (List Dd)}{b:Bd}{s:Int}(h:s∈possM dss b)(hl3:dss.length≤3):(∃c:Nat,s=(c:Int)∧c<dss.length∧canM dss b c=true∧s<10)∨(∃c:Nat,s=10+(c:Int)∧c<dss.length∧b.nts.getD c []≠[]∧10≤s):=by
 unfold possM at h;rw[List.mem_append,List.mem_map,List.mem_map] at h;rcases h with ⟨c,hc,e⟩|⟨c,hc,e⟩
 ·
  rw[List.mem_filter,List.mem_range] at hc;exact .inl ⟨c,e.symm,hc.1,hc.2,by omega⟩
 ·
  rw[List.mem_filter,List.mem_range] at hc;refine .inr ⟨c,e.symm,hc.1,fun h=>?_,by omega⟩;rw[h] at hc;simp at hc
theorem nexts_cases {dss:List (List Dd)}{es:List Ev}(hb:workB dss=true){quick:Bool}{b x:Bd}(h:x∈nextsM dss es quick b):
  (quick=true∧∃c,c<dss.length∧canM dss b c=true∧x=quickM dss es b c)∨(quick=false∧∃s,isB (possM dss b) s=true∧x=stepM dss es b s):=by
 unfold nextsM at h;rw[List.mem_map] at h;obtain⟨s,hs,e⟩:=h;rw[List.mem_filter] at hs
 cases quick with
 |true=>
  rw[if_pos rfl] at e;rcases poss_twoS hs.1 (three_of hb) with ⟨c,ec,h1,h2,_⟩|⟨c,ec,h1,h2,h3⟩
  ·
   refine .inl ⟨rfl,c,h1,h2,?_⟩;rw[←e,ec,Int.toNat_natCast]
  ·
   have:=hs.2;rw[decide_eq_true h3] at this;simp at this
 |false=>
  rw[if_neg (by simp)] at e;exact .inr ⟨rfl,s,mem_isB hs.1,e.symm⟩
theorem nexts_quick {dss:List (List Dd)}{es:List Ev}(hb:workB dss=true){b:Bd}{c:Nat}(hc:c<dss.length)(h:canM dss b c=true):quickM dss es b c∈nextsM dss es true b:=by
 have:=three_of hb;unfold nextsM;rw[List.mem_map];refine⟨(c:Int),List.mem_filter.2 ⟨isB_mem (poss_can hc h),?_⟩,by rw[if_pos rfl,Int.toNat_natCast]⟩;rw[decide_eq_false (by omega)];rfl
theorem nexts_step {dss:List (List Dd)}{es:List Ev}{b:Bd}{s:Int}(h:isB (possM dss b) s=true):stepM dss es b s∈nextsM dss es false b:=by
 unfold nextsM;rw[List.mem_map];exact⟨s,List.mem_filter.2 ⟨isB_mem h,rfl⟩,by rw[if_neg (by simp)]⟩
theorem reach_rep {dss:List (List Dd)}(hb:workB dss=true){quick:Bool}{b:Bd}(h:ReachM dss quick b):∃a τ T z,MI dss b a τ T z∧BD dss a∧(quick=true→QI dss b a τ T z):=by
 induction h with
 |new=>exact⟨_,_,_,_,(new_sim hb).1,(new_sim hb).2,fun _=>new_quick hb⟩
 |step hr hx ih=>
  obtain⟨a,τ,T,z,M,B,Q⟩:=ih;rcases nexts_cases hb hx with ⟨hq,c,hc,hcan,rfl⟩|⟨hq,s,hs,rfl⟩
  ·
   obtain⟨a',τ',T',z',Q'⟩:=quick_sim hb (Q hq) hc hcan;exact⟨a',τ',T',z',Q'.mi,Q'.bd,fun _=>Q'⟩
  ·
   obtain⟨a',τ',z',M',B'⟩:=step_sim hb M B hs;exact⟨a',τ',T+1,z',M',B',fun h=>by rw[hq] at h;cases h⟩
def IsEnds (dss:List (List Dd))(quick:Bool)(l:List (List Int)):Prop:=Ord l∧∀x,x∈l↔∃b,ReachM dss quick b∧endM dss b=true∧x=shownM b
theorem ends_one {dss:List (List Dd)}{quick:Bool}{l l':List (List Int)}(h:IsEnds dss quick l)(h':IsEnds dss quick l'):l=l':=ord_ext h.1 h'.1 (fun x=>by rw[h.2,h'.2])
theorem reach_goes {dss:List (List Dd)}:∀(l:List Int) (b:Bd),ReachM dss false b→goesM dss (eventsB dss) l b=true→ReachM dss false (runM dss (eventsB dss) b l)
 | [],b,h,_=>h
 |s::l,b,h,hg=>by
  rw[goesM,Bool.and_eq_true] at hg;rw[runM,if_pos hg.1];exact reach_goes l _ (.step h (nexts_step hg.1)) hg.2
theorem reach_quick {dss:List (List Dd)}(hb:workB dss=true):∀(l:List Nat) (b:Bd),ReachM dss true b→quickG dss (eventsB dss) l b=true→ReachM dss true (quickR dss (eventsB dss) l b)
 | [],b,h,_=>h
 |c::l,b,h,hg=>by
  rw[quickG,Bool.and_eq_true,Bool.and_eq_true,decide_eq_true_eq] at hg;exact reach_quick hb l _ (.step h (nexts_quick hb hg.1.1 hg.1.2)) hg.2
theorem ends_slow {dss:List (List Dd)}(hb:workB dss=true)(x:List Int):(∃b,ReachM dss false b∧endM dss b=true∧x=shownM b)↔∃f rows,slowB dss f rows=true∧x=ocB dss f rows:=by
 constructor
 ·
  rintro⟨b,hr,he,rfl⟩;obtain⟨a,τ,T,z,M,_⟩:=reach_rep hb hr;have F:=fin_of hb M he;refine⟨b.fr,rowsOf b,?_,(F.outcome hb).symm⟩;unfold slowB;rw[F.tale hb,F.each hb,F.slow hb];rfl
 ·
  rintro⟨f,rows,h,rfl⟩;obtain⟨h1,h2,h3,h4,h5,h6,h7⟩:=steps_tell h;refine⟨_,?_,h4,h7⟩;rw[←h2];exact reach_goes _ _ .new h1
theorem ends_quick {dss:List (List Dd)}(hb:workB dss=true)(x:List Int):(∃b,ReachM dss true b∧endM dss b=true∧x=shownM b)↔∃f rows,strictB dss f rows=true∧x=ocB dss f rows:=by
 constructor
 ·
  rintro⟨b,hr,he,rfl⟩;obtain⟨a,τ,T,z,M,_,hQ⟩:=reach_rep hb hr;have Q:=hQ rfl;have F:=fin_of hb M he;have h1:=F.tale hb;have h2:=F.each hb;have h3:eachB dss b.fr (rowsOf b)=true:=by unfold eachB;rw[h1,h2];rfl
  have h4:=F.strict hb Q.mono h3;exact⟨b.fr,rowsOf b,by unfold strictB;rw[h1,h2,h4];rfl,(F.outcome hb).symm⟩
 ·
  rintro⟨f,rows,h,rfl⟩;obtain⟨l,h1,h2,h3,h4,h5⟩:=quick_tells h;exact⟨_,reach_quick hb l _ .new h1,h2,h5⟩
theorem src_sur {c:List (List Int)}{f:List Int}(h:srcB c f=true):∃n:Nat,n<srcN c c.length∧atL c n=f:=by
 unfold srcB at h;rw[Bool.and_eq_true,decide_eq_true_eq] at h;have hi:=(srcK_iff c.length).1 h.2
 have main:∀k:Nat,k≤c.length→∃n:Nat,n<srcN c k∧atP c k n=f.take k:=by
  intro k
  induction k with
  |zero=>intro _;exact⟨0,by rw[srcN_zero];omega,by rw[atP_zero];simp⟩
  |succ k ih=>
   intro hk;obtain⟨n,hn,e⟩:=ih (by omega);have hm:=isB_mem (hi k (by omega));obtain⟨i,hil,ei⟩:=at_of_mem hm;refine⟨n*(c.getD k []).length+i,by rw[srcN_succ];exact src_lt hn hil,?_⟩;rw[atP_succ c k n i (by omega) hil,e,ei,List.take_add_one,List.getElem?_eq_getElem (by omega),List.getD_eq_getElem?_getD,List.getElem?_eq_getElem (by omega)];rfl
 obtain⟨n,hn,e⟩:=main c.length (Nat.le_refl _);refine⟨n,hn,?_⟩;rw[←atP_all,e,h.1,List.take_length]
theorem ord_sur:∀ {m:Nat} {l Q:List Int},l.length=m→Q.Perm l→∃n:Int,0≤n∧n<fac m∧ordL m l n=Q
 | 0,l,Q,hl,hp=>by
  have:Q=[]:=List.eq_nil_of_length_eq_zero (by rw[hp.length_eq];exact hl);exact⟨0,by omega,by simp[fac],by rw[this];rfl⟩
 |m+1,l,Q,hl,hp=>by
  cases Q with
  |nil=>have:=hp.length_eq;simp at this;omega
  |cons q Q=>
   obtain⟨k,hk,e⟩:=at_of_mem (hp.mem_iff.1 (List.mem_cons_self))
   have hp2:Q.Perm (l.eraseIdx k):=by
    have h1:=erase_perm hk;rw[e] at h1;exact (hp.trans h1.symm).cons_inv
   obtain⟨n,n0,n1,en⟩:=ord_sur (erase_len hl (by omega)) hp2;have hf:=fac_pos m
   have e1:((k:Int)*fac m+n) / fac m=(k:Int):=by
    rw[Int.add_comm,Int.add_mul_ediv_right _ _ (by omega),Int.ediv_eq_zero_of_lt n0 n1,Int.zero_add]
   have e2:((k:Int)*fac m+n) % fac m=n:=by
    rw[Int.add_comm,Int.add_mul_emod_self_right,Int.emod_eq_of_lt n0 n1]
   refine⟨(k:Int)*fac m+n,?_,?_,?_⟩
   · have:=Int.mul_nonneg (Int.natCast_nonneg k) (Int.le_of_lt hf);omega
   ·
    have h2:((k:Int)+1)*fac m≤((m:Int)+1)*fac m:=Int.mul_le_mul_of_nonneg_right (by omega) (by omega);rw[Int.add_mul,Int.one_mul] at h2;rw[fac,Int.mul_comm (fac m)];omega
   · rw[ordL,e1,e2,Int.toNat_natCast,e,en]
theorem part_sur {l P:List Int}(h0:0<l.length)(hp:P.Perm l)(hh:P.getD 0 0=l.getD 0 0):∃n:Int,0≤n∧n<fac (l.length-1)∧partL l n=P:=by
 match l,P,h0 with
 |x::r,[],_=>have:=hp.length_eq;simp at this
 |x::r,y::P,_=>
  simp only[List.getD_cons_zero] at hh;subst hh;obtain⟨n,n0,n1,e⟩:=ord_sur (l:=r) rfl hp.cons_inv;refine⟨n,n0,n1,?_⟩;rw[partL];simp only[List.length_cons,Nat.add_sub_cancel,List.drop_succ_cons,List.drop_zero,List.getD_cons_zero];rw[e]
theorem okP_head {rows p:List Int}{at0 i:Nat}(h0:0<p.length)(h:okP rows at0 p i=true):((rows.drop at0).take p.length).getD 0 0=(i:Int):=by
 unfold okP at h;simp only[Bool.and_eq_true,decide_eq_true_eq,beq_iff_eq] at h;rw[←h.1.2,List.getD_eq_getElem?_getD,List.getElem?_take,if_pos h0,List.getElem?_drop,List.getD_eq_getElem?_getD,Nat.add_zero]
theorem rat_sur {dss:List (List Dd)}{rows:List Int}(hb:workB dss=true)(h:rowsL (eventsB dss) rows=true):∃n:Int,0≤n∧n<rcntL (eventsB dss)∧ratL (eventsB dss) n=rows:=by
 have hx:=eventsB_12 dss;unfold rowsL at h;simp only[Bool.and_eq_true,decide_eq_true_eq] at h;obtain⟨⟨⟨h0,h1⟩,h2⟩,hl⟩:=h;obtain⟨p0,q0⟩:=plcW_first hb 0 (by decide);obtain⟨p1,q1⟩:=plcW_first hb 1 (by decide);obtain⟨p2,q2⟩:=plcW_first hb 2 (by decide);obtain⟨l0,r0⟩:=okP_perm (plcW_nodup hx 0) h0;obtain⟨l1,r1⟩:=okP_perm (plcW_nodup hx 1) h1;obtain⟨l2,r2⟩:=okP_perm (plcW_nodup hx 2) h2;obtain⟨n0,a0,a1,e0⟩:=part_sur p0 r0.symm (by rw[okP_head p0 h0,q0]);obtain⟨n1,b0,b1,e1⟩:=part_sur p1 r1.symm (by rw[okP_head p1 h1,q1]);obtain⟨n2,c0,c1,e2⟩:=part_sur p2 r2.symm (by rw[okP_head p2 h2,q2])
 have e:rows=rows.take (plcW (eventsB dss) 0).length++(rows.drop (plcW (eventsB dss) 0).length).take (plcW (eventsB dss) 1).length++(rows.drop ((plcW (eventsB dss) 0).length+(plcW (eventsB dss) 1).length)).take (plcW (eventsB dss) 2).length:=by
  have t2:(rows.drop ((plcW (eventsB dss) 0).length+(plcW (eventsB dss) 1).length)).take (plcW (eventsB dss) 2).length=rows.drop ((plcW (eventsB dss) 0).length+(plcW (eventsB dss) 1).length):=List.take_of_length_le (by rw[List.length_drop];omega);rw[t2,List.append_assoc,←List.drop_drop,List.take_append_drop,List.take_append_drop]
 rw[List.drop_zero] at e0;have f0:=fac_pos ((plcW (eventsB dss) 0).length-1);have f1:=fac_pos ((plcW (eventsB dss) 1).length-1);have f2:=fac_pos ((plcW (eventsB dss) 2).length-1);generalize hF0:fac ((plcW (eventsB dss) 0).length-1)=F0 at *;generalize hF1:fac ((plcW (eventsB dss) 1).length-1)=F1 at *;generalize hF2:fac ((plcW (eventsB dss) 2).length-1)=F2 at *
 have d2:((n0*F1+n1)*F2+n2) / F2=n0*F1+n1:=by
  rw[Int.add_comm,Int.add_mul_ediv_right _ _ (by omega),Int.ediv_eq_zero_of_lt c0 c1,Int.zero_add]
 have m2:((n0*F1+n1)*F2+n2) % F2=n2:=by
  rw[Int.add_comm,Int.add_mul_emod_self_right,Int.emod_eq_of_lt c0 c1]
 have d1:(n0*F1+n1) / F1=n0:=by
  rw[Int.add_comm,Int.add_mul_ediv_right _ _ (by omega),Int.ediv_eq_zero_of_lt b0 b1,Int.zero_add]
 have m1:(n0*F1+n1) % F1=n1:=by
  rw[Int.add_comm,Int.add_mul_emod_self_right,Int.emod_eq_of_lt b0 b1]
 have g1:0≤n0*F1+n1:=by have:=Int.mul_nonneg a0 (Int.le_of_lt f1);omega
 have g2:n0*F1+n1<F0*F1:=by
  have:(n0+1)*F1≤F0*F1:=Int.mul_le_mul_of_nonneg_right (by omega) (by omega);rw[Int.add_mul,Int.one_mul] at this;omega
 refine⟨(n0*F1+n1)*F2+n2,?_,?_,?_⟩
 · have:=Int.mul_nonneg g1 (Int.le_of_lt f2);omega
 ·
  have:(n0*F1+n1+1)*F2≤(F0*F1)*F2:=Int.mul_le_mul_of_nonneg_right (by omega) (by omega);rw[Int.add_mul,Int.one_mul] at this;unfold rcntL;rw[hF0,hF1,hF2];omega
 ·
  unfold ratL;rw[hF0,hF1,hF2,d2,m2,d1,m1,Int.emod_eq_of_lt a0 a1,e0,e1,e2];exact e.symm
def okT (dss:List (List Dd))(strict:Bool)(f rows:List Int):Bool:=
 !roundB (pwL (eventsB dss) f rows)&&!roundB (liftL (if strict=true then xwL (eventsB dss) f rows else swL dss (eventsB dss) f rows) (clsB (eventsB dss)))
def toldR (dss:List (List Dd))(strict:Bool)(f:List Int)(out:List (List Int)):Nat→List (List Int)
 | 0=>out
 |k+1=>if okT dss strict f (ratL (eventsB dss) (k:Int))=true then putL (toldR dss strict f out k) (ocL (eventsB dss) f (ratL (eventsB dss) (k:Int))) else toldR dss strict f out k
def toldK (dss:List (List Dd))(strict:Bool):Nat→List (List Int)
 | 0=>[]
 |n+1=>toldR dss strict (atL (chcL (eventsB dss)) (n:Int)) (toldK dss strict n) (rcntL (eventsB dss)).toNat
theorem toldR_spec {dss:List (List Dd)}{strict:Bool}{f:List Int}{out:List (List Int)}(ho:Ord out):∀k:Nat,Ord (toldR dss strict f out k)∧∀x,x∈toldR dss strict f out k↔x∈out∨∃i:Nat,i<k∧okT dss strict f (ratL (eventsB dss) (i:Int))=true∧x=ocL (eventsB dss) f (ratL (eventsB dss) (i:Int))
 | 0=>⟨ho,fun x=>⟨fun h => .inl h,fun h=>h.elim id (fun ⟨i,hi,_⟩=>by omega)⟩⟩
 |k+1=>by
  obtain⟨h1,h2⟩:=toldR_spec ho (strict:=strict) (f:=f) k;rw[toldR];by_cases hk:okT dss strict f (ratL (eventsB dss) (k:Int))=true
  ·
   rw[if_pos hk];refine⟨put_ord h1 _,fun x=>?_⟩;rw[put_mem _ h1,h2];constructor
   ·
    rintro ((h|⟨i,hi,h⟩)|h)
    · exact .inl h
    · exact .inr ⟨i,by omega,h⟩
    · exact .inr ⟨k,by omega,hk,h⟩
   ·
    rintro (h|⟨i,hi,h⟩)
    · exact .inl (.inl h)
    ·
     by_cases e:i=k
     · subst e;exact .inr h.2
     · exact .inl (.inr ⟨i,by omega,h⟩)
  ·
   rw[if_neg hk];refine⟨h1,fun x=>?_⟩;rw[h2];constructor
   ·
    rintro (h|⟨i,hi,h⟩)
    · exact .inl h
    · exact .inr ⟨i,by omega,h⟩
   ·
    rintro (h|⟨i,hi,h⟩)
    · exact .inl h
    ·
     by_cases e:i=k
     · subst e;exact absurd h.1 hk
     · exact .inr ⟨i,by omega,h⟩
theorem toldK_spec {dss:List (List Dd)}{strict:Bool}:∀n:Nat,Ord (toldK dss strict n)∧∀x,x∈toldK dss strict n↔∃m i:Nat,m<n∧i<(rcntL (eventsB dss)).toNat∧okT dss strict (atL (chcL (eventsB dss)) (m:Int)) (ratL (eventsB dss) (i:Int))=true∧x=ocL (eventsB dss) (atL (chcL (eventsB dss)) (m:Int)) (ratL (eventsB dss) (i:Int))
 | 0=>⟨List.Pairwise.nil,fun x=>⟨fun h=>(by cases h),fun ⟨m,i,h,_⟩=>by omega⟩⟩
 |n+1=>by
  obtain⟨h1,h2⟩:=toldK_spec (dss:=dss) (strict:=strict) n;obtain⟨r1,r2⟩:=toldR_spec (dss:=dss) (strict:=strict) (f:=atL (chcL (eventsB dss)) (n:Int)) h1 (rcntL (eventsB dss)).toNat;rw[toldK];refine⟨r1,fun x=>?_⟩;rw[r2,h2];constructor
  ·
   rintro (⟨m,i,h,g⟩|⟨i,hi,g⟩)
   · exact⟨m,i,by omega,g⟩
   · exact⟨n,i,by omega,hi,g⟩
  ·
   rintro⟨m,i,h,g⟩;by_cases e:m=n
   · subst e;exact .inr ⟨i,g⟩
   · exact .inl ⟨m,i,by omega,g⟩
def toldB (dss:List (List Dd))(strict:Bool):List (List Int):=if workB dss=true then toldK dss strict (srcN (chcL (eventsB dss)) (chcL (eventsB dss)).length) else []
def mayB' (dss:List (List Dd))(strict:Bool)(f rows:List Int):Bool:=if strict=true then strictB dss f rows else slowB dss f rows
theorem may_ok {dss:List (List Dd)}{strict:Bool}{f rows:List Int}(h:taleB dss f rows=true):mayB' dss strict f rows=okT dss strict f rows:=by
 unfold mayB' okT
 cases strict with
 |true=>rw[if_pos rfl,if_pos rfl];unfold strictB;rw[h];rfl
 |false=>rw[if_neg (by simp),if_neg (by simp)];unfold slowB;rw[h];rfl
theorem may_tale {dss:List (List Dd)}{strict:Bool}{f rows:List Int}(h:mayB' dss strict f rows=true):taleB dss f rows=true:=by
 unfold mayB' at h
 cases strict with
 |true=>rw[if_pos rfl] at h;unfold strictB at h;rw[Bool.and_eq_true] at h;exact h.1
 |false=>rw[if_neg (by simp)] at h;unfold slowB at h;rw[Bool.and_eq_true] at h;exact h.1
theorem told_mem {dss:List (List Dd)}(hb:workB dss=true)(strict:Bool):Ord (toldB dss strict)∧∀x,x∈toldB dss strict↔∃f rows,mayB' dss strict f rows=true∧x=ocB dss f rows:=by
 obtain⟨h1,h2⟩:=toldK_spec (dss:=dss) (strict:=strict) (srcN (chcL (eventsB dss)) (chcL (eventsB dss)).length);unfold toldB;rw[if_pos hb];refine⟨h1,fun x=>?_⟩;rw[h2];constructor
 ·
  rintro⟨m,i,hm,hi,hok,rfl⟩
  have ht:taleB dss (atL (chcL (eventsB dss)) (m:Int)) (ratL (eventsB dss) (i:Int))=true:=by
   unfold taleB sourceB rowsB;rw[hb,at_src (chc_full hb).1,rat_ok hb (by omega) (by omega)];rfl
  refine⟨_,_,by rw[may_ok ht];exact hok,?_⟩;unfold ocB;rw[if_pos ht]
 ·
  rintro⟨f,rows,hm,rfl⟩;have ht:=may_tale hm;obtain⟨_,hs,hr⟩:=tale_use ht;obtain⟨m,m1,m2⟩:=src_sur hs;obtain⟨n,n0,n1,n2⟩:=rat_sur hb hr;obtain⟨i,rfl⟩:=Int.eq_ofNat_of_zero_le n0;refine⟨m,i,m1,by omega,?_,?_⟩
  · rw[m2,n2,←may_ok ht];exact hm
  ·
   unfold ocB;rw[if_pos ht,m2,n2]
theorem told_ends {dss:List (List Dd)}(hb:workB dss=true)(quick:Bool):IsEnds dss quick (toldB dss quick):=by
 obtain⟨h1,h2⟩:=told_mem hb quick;refine⟨h1,fun x=>?_⟩;rw[h2]
 cases quick with
 |true=>exact (ends_quick hb x).symm
 |false=>exact (ends_slow hb x).symm
theorem nodup_lenT {a b:List (List Int)}(ha:a.Nodup)(h:∀x,x∈a→x∈b):a.length≤b.length:=by
 induction a generalizing b with
 |nil=>simp
 |cons x a ih=>
  rw[List.nodup_cons] at ha;have hx:=h x (by simp)
  have:=ih (b:=b.erase x) ha.2 (fun y hy=>by
   have:y≠x:=fun e=>ha.1 (by rw[←e];exact hy)
   exact (List.mem_erase_of_ne this).2 (h y (List.mem_cons_of_mem _ hy)))
  rw[List.length_erase_of_mem hx] at this;have:=List.length_pos_of_mem hx;rw[List.length_cons];omega
theorem evs_sum {dss:List (List Dd)}(hb:workB dss=true):(plcW (eventsB dss) 0).length+(plcW (eventsB dss) 1).length+(plcW (eventsB dss) 2).length≤9:=by
 obtain⟨h12,hl,hsum,_,_⟩:=events_law hb
 have h9:(evsW dss dss.length).length≤9:=by
  simp only[workB,Bool.and_eq_true,decide_eq_true_eq] at hb;obtain⟨⟨⟨⟨_,_⟩,_⟩,h4⟩,_⟩:=hb;omega
 have e:∀f,idxB f (eventsB dss)=idxK f (evsW dss dss.length) (evsW dss dss.length).length:=fun f=>by
  unfold idxB;rw[eventsB,if_pos hb,if_pos h12]
 unfold plcW;rw[e,e,e];have q0:(idxK (toE ((0:Nat):Int)) (evsW dss dss.length) (evsW dss dss.length).length).length=(idxK (toE 0) (evsW dss dss.length) (evsW dss dss.length).length).length:=rfl;have q1:(idxK (toE ((1:Nat):Int)) (evsW dss dss.length) (evsW dss dss.length).length).length=(idxK (toE 1) (evsW dss dss.length) (evsW dss dss.length).length).length:=rfl;have q2:(idxK (toE ((2:Nat):Int)) (evsW dss dss.length) (evsW dss dss.length).length).length=(idxK (toE 2) (evsW dss dss.length) (evsW dss dss.length).length).length:=rfl;omega
theorem rcnt_few {dss:List (List Dd)}(hb:workB dss=true):rcntB dss≤720:=by
 obtain⟨_,hp⟩:=evs_parts hb;have s:=evs_sum hb;have p0:=hp 0 (by decide);have p1:=hp 1 (by decide);have p2:=hp 2 (by decide);have top:∀a:Nat,a≤6→∀b:Nat,b≤6→∀c:Nat,c≤6→a+b+c≤6→fac a*fac b*fac c≤720:=by decide +kernel
 rw[rcntB,if_pos hb];exact top _ (by omega) _ (by omega) _ (by omega) (by omega)
theorem tcB_few (dss:List (List Dd)):tcB dss≤382637520:=by
 unfold tcB;split
 ·
  rename_i hb;obtain⟨a0,a1⟩:=cnt_six hb;have b0:=(rcnt_six hb).1;have b1:=rcnt_few hb;have m:cntB dss*rcntB dss≤531441*720:=Int.mul_le_mul a1 b1 (by omega) (by decide);omega
 · decide
def mayT (dss:List (List Dd))(strict:Bool)(n:Nat):Bool:=mayB' dss strict (tfB dss (n:Int)) (trB dss (n:Int))
def ocT (dss:List (List Dd))(n:Nat):List Int:=ocB dss (tfB dss (n:Int)) (trB dss (n:Int))
def tlI (dss:List (List Dd))(strict:Bool)(k:Nat):List (List Int):=((List.range k).filter (mayT dss strict)).map (ocT dss)
theorem tlI_succ (dss:List (List Dd))(strict:Bool)(k:Nat):tlI dss strict (k+1)=tlI dss strict k++(if mayT dss strict k=true then [ocT dss k] else []):=by
 unfold tlI;rw[List.range_succ,List.filter_append,List.map_append]
 congr 1
 cases h:mayT dss strict k<;>simp[h]
theorem tlI_len (dss:List (List Dd))(strict:Bool)(k:Nat):(tlI dss strict k).length≤k:=by
 unfold tlI;rw[List.length_map];exact Nat.le_trans (List.length_filter_le _ _) (by rw[List.length_range];exact Nat.le_refl _)
theorem tale_sur {dss:List (List Dd)}{f rows:List Int}(ht:taleB dss f rows=true):∃n:Nat,n<(tcB dss).toNat∧tfB dss (n:Int)=f∧trB dss (n:Int)=rows:=by
 obtain⟨hb,hs,hr⟩:=tale_use ht;obtain⟨m,m1,m2⟩:=src_sur hs;obtain⟨k,k0,k1,k2⟩:=rat_sur hb hr;obtain⟨i,rfl⟩:=Int.eq_ofNat_of_zero_le k0;have hc:cntB dss=((srcN (chcL (eventsB dss)) (chcL (eventsB dss)).length:Nat):Int):=by rw[cntB,if_pos hb,srcN_int]
 have hrc:rcntB dss=rcntL (eventsB dss):=by rw[rcntB,if_pos hb]
 have hr0:=(rcnt_six hb).1
 have e1:((m:Int)*rcntB dss+(i:Int)) / rcntB dss=(m:Int):=by
  rw[Int.add_comm,Int.add_mul_ediv_right _ _ (by omega),Int.ediv_eq_zero_of_lt k0 (by omega),Int.zero_add]
 have e2:((m:Int)*rcntB dss+(i:Int)) % rcntB dss=(i:Int):=by
  rw[Int.add_comm,Int.add_mul_emod_self_right,Int.emod_eq_of_lt k0 (by omega)]
 have n0:0≤(m:Int)*rcntB dss+(i:Int):=by
  have:=Int.mul_nonneg (Int.natCast_nonneg m) (Int.le_of_lt hr0);omega
 have n1:(m:Int)*rcntB dss+(i:Int)<tcB dss:=by
  have h1:((m:Int)+1)*rcntB dss≤cntB dss*rcntB dss:=Int.mul_le_mul_of_nonneg_right (by omega) (by omega);rw[Int.add_mul,Int.one_mul] at h1;rw[tcB,if_pos hb];omega
 have en:((((m:Int)*rcntB dss+(i:Int)).toNat:Nat):Int)=(m:Int)*rcntB dss+(i:Int):=Int.toNat_of_nonneg n0;have hta:taB dss ((m:Int)*rcntB dss+(i:Int))=true:=by unfold taB;exact decide_eq_true ⟨n0,n1⟩
 refine⟨((m:Int)*rcntB dss+(i:Int)).toNat,by omega,?_,?_⟩
 · rw[en,tfB,if_pos hta,e1,atB,if_pos ⟨Int.natCast_nonneg _,by omega⟩,m2]
 · rw[en,trB,if_pos hta,e2,ratB,if_pos ⟨k0,by omega⟩,k2]
theorem tlI_mem {dss:List (List Dd)}(hb:workB dss=true)(strict:Bool)(x:List Int):x∈tlI dss strict (tcB dss).toNat↔x∈toldB dss strict:=by
 rw[(told_mem hb strict).2];unfold tlI;rw[List.mem_map];constructor
 ·
  rintro⟨n,hn,rfl⟩;exact⟨_,_,(List.mem_filter.1 hn).2,rfl⟩
 ·
  rintro⟨f,rows,hm,rfl⟩;obtain⟨n,n1,n2,n3⟩:=tale_sur (may_tale hm);exact⟨n,List.mem_filter.2 ⟨List.mem_range.2 n1,by unfold mayT;rw[n2,n3];exact hm⟩,by unfold ocT;rw[n2,n3]⟩
def kpB (E:List (List Int))(j:Nat):Bool:=decide (j=0) || !decide (E.getD j []=E.getD (j-1) [])
def kp (E:List (List Int))(j:Nat):List Nat:=(List.range j).filter (kpB E)
theorem kp_succ (E:List (List Int))(j:Nat):kp E (j+1)=kp E j++(if kpB E j=true then [j] else []):=by
 unfold kp;rw[List.range_succ,List.filter_append]
 congr 1
 cases h:kpB E j<;>simp[h]
theorem kp_lt {E:List (List Int)}{j i:Nat}(h:i∈kp E j):i<j:=List.mem_range.1 (List.mem_filter.1 h).1
theorem kp_nodup (E:List (List Int))(j:Nat):(kp E j).Nodup:=List.Nodup.sublist List.filter_sublist List.nodup_range
theorem kp_len (E:List (List Int))(j:Nat):(kp E j).length≤j:=Nat.le_trans (List.length_filter_le _ _) (by rw[List.length_range];exact Nat.le_refl _)
theorem kp_all {E:List (List Int)}{j:Nat}(h:∀i,i<j→kpB E i=true):kp E j=List.range j:=by
 unfold kp;exact List.filter_eq_self.2 (fun i hi=>h i (List.mem_range.1 hi))
def sqz (E:List (List Int)):List (List Int):=(kp E E.length).map (fun i=>E.getD i [])
theorem sqz_ord {E:List (List Int)}(hs:∀i j,i<j→j<E.length→lessB (E.getD j []) (E.getD i [])=false):Ord (sqz E):=by
 unfold sqz Ord;rw[List.pairwise_map];have h0:(kp E E.length).Pairwise (·<·):=List.Pairwise.sublist List.filter_sublist List.pairwise_lt_range;refine h0.imp_of_mem (fun {i j} _ hj hij=>?_);have hj1:=kp_lt hj;have hk:=(List.mem_filter.1 hj).2;unfold kpB at hk;rw[Bool.or_eq_true,decide_eq_true_eq,Bool.not_eq_true',decide_eq_false_iff_not] at hk
 have hne:E.getD j []≠E.getD (j-1) []:=by
  rcases hk with hk|hk
  · omega
  · exact hk
 have h1:lessB (E.getD (j-1) []) (E.getD j [])=true:=by
  have q:=hs (j-1) j (by omega) hj1;rcases less_total (E.getD (j-1) []) (E.getD j []) with e|e|e
  · exact absurd e.symm hne
  · exact e
  · rw[e] at q;cases q
 by_cases e:i=j-1
 · rw[e];exact h1
 ·
  have q:=hs i (j-1) (by omega) (by omega);rcases less_total (E.getD i []) (E.getD (j-1) []) with e|e|e
  · rw[e];exact h1
  · exact less_trans _ _ _ e h1
  · rw[e] at q;cases q
theorem sqz_mem (E:List (List Int))(x:List Int):x∈sqz E↔x∈E:=by
 unfold sqz;rw[List.mem_map];constructor
 ·
  rintro⟨i,hi,rfl⟩;have:=kp_lt hi;rw[List.getD_eq_getElem?_getD,List.getElem?_eq_getElem this];exact List.getElem_mem this
 ·
  intro hx;obtain⟨i,hi,rfl⟩:=List.getElem_of_mem hx
  have main:∀i,i<E.length→∃j∈kp E E.length,E.getD j []=E.getD i []:=by
   intro i
   induction i with
   |zero=>exact fun hi=>⟨0,List.mem_filter.2 ⟨List.mem_range.2 hi,by unfold kpB;simp⟩,rfl⟩
   |succ i ih=>
    intro hi;by_cases hk:kpB E (i+1)=true
    · exact⟨i+1,List.mem_filter.2 ⟨List.mem_range.2 hi,hk⟩,rfl⟩
    ·
     obtain⟨j,hj,e⟩:=ih (by omega);refine⟨j,hj,e.trans ?_⟩;unfold kpB at hk;simp only[Nat.add_eq_zero_iff,Nat.succ_ne_self,and_false,decide_false,Bool.false_or,Nat.add_sub_cancel,Bool.not_eq_true',decide_eq_false_iff_not,Decidable.not_not] at hk;exact hk.symm
  obtain⟨j,hj,e⟩:=main i hi;refine⟨j,hj,?_⟩;rw[e,List.getD_eq_getElem?_getD,List.getElem?_eq_getElem hi];rfl
def Tryz.srt_ren:Go.Shelf.Ren:=⟨fun|6=>86|15=>166|14=>165|28=>233|29=>234|20=>225|21=>226|22=>227|23=>228|24=>229|25=>230|26=>231|27=>232|46=>270|47=>271|48=>272|49=>273|50=>274|57=>289|n=>n,fun|22=>26|24=>50|25=>98|3=>3|39=>88|0=>0|53=>46|55=>43|4=>4|46=>227|45=>226|50=>188|5=>5|9=>9|66=>257|70=>260|76=>270|77=>271|n=>n,fun|n=>n⟩
theorem Tryz.srt:Go.Proofs.SlLaysF.n6 Tryz.prog Tryz.srt_ren:={
 mixed:=by kernel_rfl
 f6:=⟨Tryz.f86.name,by decide,Tryz.func86.trans (congrArg some (by kernel_rfl))⟩
 f14:=⟨Tryz.f165.name,by decide,Tryz.func165.trans (congrArg some (by kernel_rfl))⟩
 f15:=Tryz.func166.trans (congrArg some (by kernel_rfl))
 f20:=⟨Tryz.f225.name,by decide,Tryz.func225.trans (congrArg some (by kernel_rfl))⟩
 f21:=⟨Tryz.f226.name,by decide,Tryz.func226.trans (congrArg some (by kernel_rfl))⟩
 f22:=⟨Tryz.f227.name,by decide,Tryz.func227.trans (congrArg some (by kernel_rfl))⟩
 f23:=⟨Tryz.f228.name,by decide,Tryz.func228.trans (congrArg some (by kernel_rfl))⟩
 f24:=⟨Tryz.f229.name,by decide,Tryz.func229.trans (congrArg some (by kernel_rfl))⟩
 f25:=⟨Tryz.f230.name,by decide,Tryz.func230.trans (congrArg some (by kernel_rfl))⟩
 f26:=⟨Tryz.f231.name,by decide,Tryz.func231.trans (congrArg some (by kernel_rfl))⟩
 f27:=⟨Tryz.f232.name,by decide,Tryz.func232.trans (congrArg some (by kernel_rfl))⟩
 f28:=Tryz.func233.trans (congrArg some (by kernel_rfl))
 f29:=Tryz.func234.trans (congrArg some (by kernel_rfl))
 f46:=⟨Tryz.f270.name,by decide,Tryz.func270.trans (congrArg some (by kernel_rfl))⟩
 f47:=Tryz.func271.trans (congrArg some (by kernel_rfl))
 f48:=Tryz.func272.trans (congrArg some (by kernel_rfl))
 f49:=⟨Tryz.f273.name,by decide,Tryz.func273.trans (congrArg some (by kernel_rfl))⟩
 f50:=⟨Tryz.f274.name,by decide,Tryz.func274.trans (congrArg some (by kernel_rfl))⟩
 f57:=⟨Tryz.f289.name,by decide,Tryz.func289.trans (congrArg some (by kernel_rfl))⟩
 t0:=Tryz.underlying0
 a0:=Tryz.isAgg0
 z0:=Tryz.sizeOf0
 v0:=Tryz.zeroValue0
 t3:=Tryz.underlying3
 a3:=Tryz.isAgg3
 z3:=Tryz.sizeOf3
 v3:=Tryz.zeroValue3
 t4:=Tryz.underlying4
 a4:=Tryz.isAgg4
 z4:=Tryz.sizeOf4
 v4:=Tryz.zeroValue4
 t5:=Tryz.underlying5
 a5:=Tryz.isAgg5
 z5:=Tryz.sizeOf5
 v5:=Tryz.zeroValue5
 t9:=Tryz.underlying9
 a9:=Tryz.isAgg9
 z9:=Tryz.sizeOf9
 v9:=Tryz.zeroValue9
 t22:=Tryz.underlying26
 a22:=Tryz.isAgg26
 z22:=Tryz.sizeOf26
 v22:=Tryz.zeroValue26
 a24:=Tryz.isAgg50
 z24:=Tryz.sizeOf50
 t25:=Tryz.underlying98
 a25:=Tryz.isAgg98
 z25:=Tryz.sizeOf98
 v25:=Tryz.zeroValue98
 t39:=Tryz.underlying88
 a39:=Tryz.isAgg88
 z39:=Tryz.sizeOf88
 v39:=Tryz.zeroValue88
 t45:=Tryz.underlying226
 a45:=Tryz.isAgg226
 z45:=Tryz.sizeOf226
 v45:=Tryz.zeroValue226
 t46:=Tryz.underlying227
 a46:=Tryz.isAgg227
 z46:=Tryz.sizeOf227
 v46:=Tryz.zeroValue227
 t50:=Tryz.underlying188
 a50:=Tryz.isAgg188
 z50:=Tryz.sizeOf188
 v50:=Tryz.zeroValue188
 t53:=Tryz.underlying46
 a53:=Tryz.isAgg46
 z53:=Tryz.sizeOf46
 v53:=Tryz.zeroValue46
 t55:=Tryz.underlying43
 a55:=Tryz.isAgg43
 z55:=Tryz.sizeOf43
 v55:=Tryz.zeroValue43
 t66:=Tryz.underlying257
 a66:=Tryz.isAgg257
 z66:=Tryz.sizeOf257
 v66:=Tryz.zeroValue257
 t70:=Tryz.underlying260
 a70:=Tryz.isAgg260
 z70:=Tryz.sizeOf260
 v70:=Tryz.zeroValue260
 t76:=Tryz.underlying270
 a76:=Tryz.isAgg270
 z76:=Tryz.sizeOf270
 v76:=Tryz.zeroValue270
 t77:=Tryz.underlying271
 a77:=Tryz.isAgg271
 z77:=Tryz.sizeOf271
 v77:=Tryz.zeroValue271 }
def cmpZ (x y:Int):Int:=if x<y then -1 else if y<x then 1 else 0
def cmpL:List Int→List Int→Int
 | [],[]=>0
 | [],_::_=>-1
 |_::_,[]=>1
 |x::xs,y::ys=>if cmpZ x y=0 then cmpL xs ys else cmpZ x y
theorem cmpZ_cases (x y:Int):(x<y∧cmpZ x y=-1)∨(y<x∧cmpZ x y=1)∨(x=y∧cmpZ x y=0):=by
 unfold cmpZ;by_cases h1:x<y
 · exact .inl ⟨h1,if_pos h1⟩
 ·
  by_cases h2:y<x
  · exact .inr (.inl ⟨h2,by rw[if_neg h1,if_pos h2]⟩)
  · exact .inr (.inr ⟨by omega,by rw[if_neg h1,if_neg h2]⟩)
theorem drop_cons' {xs:List Int}{k:Nat}(h:k<xs.length):xs.drop k=xs.getD k 0::xs.drop (k+1):=by
 rw[List.drop_eq_getElem_cons h,List.getD_eq_getElem?_getD,List.getElem?_eq_getElem h];rfl
theorem cmpL_step {xs ys:List Int}{k:Nat}(h1:k<xs.length)(h2:k<ys.length):cmpL (xs.drop k) (ys.drop k)=if cmpZ (xs.getD k 0) (ys.getD k 0)=0 then cmpL (xs.drop (k+1)) (ys.drop (k+1)) else cmpZ (xs.getD k 0) (ys.getD k 0):=by
 rw[drop_cons' h1,drop_cons' h2,cmpL]
theorem cmpL_more {xs ys:List Int}{k:Nat}(h1:k<xs.length)(h2:ys.length≤k):cmpL (xs.drop k) (ys.drop k)=1:=by
 rw[drop_cons' h1,List.drop_eq_nil_of_le h2,cmpL]
theorem cmpL_end {xs ys:List Int}{k:Nat}(h1:xs.length≤k)(h2:k≤ys.length)(h3:k≤xs.length):cmpL (xs.drop k) (ys.drop k)=if xs.length<ys.length then -1 else 0:=by
 rw[List.drop_eq_nil_of_le h1];by_cases h:k<ys.length
 · rw[drop_cons' h,cmpL,if_pos (by omega)]
 · rw[List.drop_eq_nil_of_le (by omega),cmpL,if_neg (by omega)]
theorem cmpL_less:∀xs ys:List Int,decide (cmpL xs ys<0)=lessB xs ys
 | [],[]=>rfl
 | [],_::_=>rfl
 |_::_,[]=>rfl
 |x::xs,y::ys=>by
  have ih:=cmpL_less xs ys;rw[cmpL,lessB];rcases cmpZ_cases x y with ⟨h,e⟩|⟨h,e⟩|⟨h,e⟩
  ·
   rw[e];have:¬x=y:=by omega
   simp[this,h]
  ·
   rw[e];have h1:¬x=y:=by omega
   have h2:¬x<y:=by omega
   simp[h1,h2]
  ·
   rw[e];subst h
   simpa using ih
def rowS (v:Value)(n:Nat)(a:Addr):Prop:=∃b o l c i,v = .slice (some ⟨b,o,none⟩) l c∧i<n∧a=⟨b,o+i,none⟩
def Wb (w:World)(a:Addr):Prop:=∃cur t,w.heap[a.block]? = some (.cells cur t (0,0))∧a.off<cur.size
structure Wrt (S:Addr→Prop)(w w':World):Prop where
 os:w'.os=w.os
 tape:w'.tape=w.tape
 output:w'.output=w.output
 size:w.heap.size≤w'.heap.size
 cell:∀a,a.block<w.heap.size→¬S a→w'.cell? a=w.cell? a
 shape:∀(b:Nat) (cur:Array Value) (t:TypeId),w.heap[b]? = some (Obj.cells cur t (0,0))→∃cur':Array Value,w'.heap[b]? = some (Obj.cells cur' t (0,0))∧cur'.size=cur.size
 block:∀b,b<w.heap.size→(∀a,S a→a.block≠b)→w'.heap[b]? = w.heap[b]?
def Mkd (w:World)(v:Value)(n:Nat)(k:Int):Prop:=∀b o l c i,v = .slice (some ⟨b,o,none⟩) l c→i<n→w.cell? ⟨b,o+i,none⟩=some (.int .i64 (k+i))
theorem Wb.lt {w:World}{a:Addr}(h:Wb w a):a.block<w.heap.size:=by
 obtain⟨cur,t,h,_⟩:=h;exact (Array.getElem?_eq_some_iff.1 h).1
theorem Wb.free {w:World}{b o:Nat}(h:Wb w ⟨b,o,none⟩):w.frozen? ⟨b,o,none⟩=false:=by
 obtain⟨cur,t,h,_⟩:=h;exact frozen_of_row w b o cur t h
theorem Wb.cell {w:World}{b o:Nat}(h:Wb w ⟨b,o,none⟩):∃u,w.cell? ⟨b,o,none⟩=some u:=by
 obtain⟨cur,t,h,hn⟩:=h;exact⟨cur[o],by rw[cell_of_row w b o cur t (0,0) h,Array.getElem?_eq_getElem hn]⟩
theorem Wb.kept {S:Addr→Prop}{w w':World}{a:Addr}(h:Wb w a)(k:Wrt S w w'):Wb w' a:=by
 obtain⟨cur,t,h,hn⟩:=h;obtain⟨cur',h',e⟩:=k.shape _ _ _ h;exact⟨cur',t,h',by rw[e];exact hn⟩
theorem Wb.keep {w w':World}{a:Addr}(h:Wb w a)(k:Keep w w'):Wb w' a:=by
 have hl:=h.lt;obtain⟨cur,t,h,hn⟩:=h;exact⟨cur,t,(Below.block k _ hl).trans h,hn⟩
theorem Wrt.refl (S:Addr→Prop)(w:World):Wrt S w w:=⟨rfl,rfl,rfl,Nat.le_refl _,fun _ _ _=>rfl,fun _ cur _ h=>⟨cur,h,rfl⟩,fun _ _ _=>rfl⟩
theorem Wrt.trans {S:Addr→Prop}{a b c:World}(h:Wrt S a b)(k:Wrt S b c):Wrt S a c:=
  ⟨k.os.trans h.os,k.tape.trans h.tape,k.output.trans h.output,Nat.le_trans h.size k.size,
   fun x hx hn=>(k.cell x (Nat.lt_of_lt_of_le hx h.size) hn).trans (h.cell x hx hn),
   fun q cur t hq=>by
    obtain⟨c1,h1,e1⟩:=h.shape q cur t hq;obtain⟨c2,h2,e2⟩:=k.shape q c1 t h1
    exact⟨c2,h2,e2.trans e1⟩,
   fun q hq hn=>(k.block q (Nat.lt_of_lt_of_le hq h.size) hn).trans (h.block q hq hn)⟩
theorem Wrt.more {S T:Addr→Prop}{w w':World}(h:Wrt S w w')(hs:∀a,S a→T a):Wrt T w w':=
 ⟨h.os,h.tape,h.output,h.size,fun a ha hn=>h.cell a ha (fun hS=>hn (hs a hS)),h.shape,fun b hb hn=>h.block b hb (fun a ha=>hn a (hs a ha))⟩
theorem Keep.wrt {w w':World}(k:Keep w w')(S:Addr→Prop):Wrt S w w':=
 ⟨Below.os k,Below.tape k,Below.output k,Below.size k,fun a ha _=>World.cell?_of_block (Below.block k a.block ha),fun b cur _ h=>⟨cur,(Below.block k b (Array.getElem?_eq_some_iff.1 h).1).trans h,rfl⟩,fun b hb _=>Below.block k b hb⟩
theorem Wrt.set {S:Addr→Prop}{a w:World}(h:Wrt S a w){b o:Nat}(x:Value)(hb:Wb w ⟨b,o,none⟩)(hS:S ⟨b,o,none⟩):Wrt S a (w.setCell ⟨b,o,none⟩ x):=by
 refine h.trans ⟨rfl,rfl,rfl,by simp,fun q _ hn=>World.cell?_setCell_other _ _ _ _ (fun e=>hn (e ▸ hS)),fun q cur t hq=>?_,fun q _ hn=>heap_setCell_other w ⟨b,o,none⟩ q x (fun e=>hn _ hS e.symm)⟩;by_cases e:q=b
 ·
  subst e;exact⟨cur.setIfInBounds o x,heap_setCell_same w q o cur t x hq,by simp⟩
 · exact⟨cur,(heap_setCell_other w ⟨b,o,none⟩ q x e).trans hq,rfl⟩
theorem set_cell {w:World}{b o:Nat}(x:Value)(h:Wb w ⟨b,o,none⟩):(w.setCell ⟨b,o,none⟩ x).cell? ⟨b,o,none⟩=some x:=by
 obtain⟨u,hu⟩:=h.cell;exact World.cell?_setCell_same _ _ _ hu
theorem set_other {w:World}{b o q:Nat}(x:Value)(h:q≠o):(w.setCell ⟨b,o,none⟩ x).cell? ⟨b,q,none⟩=w.cell? ⟨b,q,none⟩:=
 World.cell?_setCell_other _ _ _ _ (by intro e;injection e with _ e2;first|exact h e2|exact h e2.symm)
theorem Mkd.kept {S:Addr→Prop}{w w':World}{v:Value}{n:Nat}{k:Int}(h:Mkd w v n k)(g:Wrt S w w')(hd:∀a,rowS v n a→¬S a)(hw:∀a,rowS v n a→a.block<w.heap.size):Mkd w' v n k:=
 fun b o l c i e hi=>(g.cell _ (hw _ ⟨b,o,l,c,i,e,hi,rfl⟩) (hd _ ⟨b,o,l,c,i,e,hi,rfl⟩)).trans (h b o l c i e hi)
theorem Mkd.keep {w w':World}{v:Value}{n:Nat}{k:Int}(h:Mkd w v n k)(g:Keep w w')(hw:∀a,rowS v n a→a.block<w.heap.size):Mkd w' v n k:=
 fun b o l c i e hi=>(g.cell (hw _ ⟨b,o,l,c,i,e,hi,rfl⟩)).trans (h b o l c i e hi)
def rowsS (rs:List (Value×Nat))(a:Addr):Prop:=∃r∈rs,rowS r.1 r.2 a
def totR:List (Value×Nat)→Nat
 | []=>0
 |r::rs=>r.2+totR rs
def mkR (w:World)(k:Int):List (Value×Nat)→Prop
 | []=>True
 |r::rs=>Mkd w r.1 r.2 k∧mkR w (k+r.2) rs
structure Loose (w:World)(rs:List (Value×Nat)):Prop where
 wb:∀a,rowsS rs a→Wb w a
 ap:rs.Pairwise (fun r s=>∀a,rowS r.1 r.2 a→¬rowS s.1 s.2 a)
theorem totR_append (a b:List (Value×Nat)):totR (a++b)=totR a+totR b:=by
 induction a with
 |nil=>simp[totR]
 |cons r rs ih=>simp[totR,ih];omega
theorem mkR_append (w:World)(a b:List (Value×Nat)):∀k:Int,mkR w k (a++b)↔mkR w k a∧mkR w (k+totR a) b:=by
 induction a with
 |nil=>intro k;simp[mkR,totR]
 |cons r rs ih=>
  intro k;simp only[List.cons_append,mkR,totR];rw[ih,and_assoc];have e:k+(r.2:Int)+(totR rs:Int)=k+((r.2+totR rs:Nat):Int):=by rw[Int.natCast_add];omega
  rw[e]
theorem mkR_kept {S:Addr→Prop}{w w':World}(g:Wrt S w w'):∀(rs:List (Value×Nat)) (k:Int),mkR w k rs→(∀a,rowsS rs a→¬S a)→(∀a,rowsS rs a→a.block<w.heap.size)→mkR w' k rs
 | [],_,_,_,_=>trivial
 |r::rs,k,h,hd,hw=>⟨h.1.kept g (fun a ha=>hd a ⟨r,List.mem_cons_self,ha⟩) (fun a ha=>hw a ⟨r,List.mem_cons_self,ha⟩),
   mkR_kept g rs (k+r.2) h.2 (fun a ⟨s,hs,ha⟩=>hd a ⟨s,List.mem_cons_of_mem _ hs,ha⟩) (fun a ⟨s,hs,ha⟩=>hw a ⟨s,List.mem_cons_of_mem _ hs,ha⟩)⟩
theorem Loose.keep {w w':World}{rs:List (Value×Nat)}(h:Loose w rs)(g:Keep w w'):Loose w' rs:=⟨fun a ha=>(h.wb a ha).keep g,h.ap⟩
theorem Loose.sub {w:World}{rs ts:List (Value×Nat)}(h:Loose w rs)(hs:ts.Sublist rs):Loose w ts:=
 ⟨fun a ⟨r,hr,ha⟩=>h.wb a ⟨r,hs.subset hr,ha⟩,h.ap.sublist hs⟩
theorem rowsS_append {a b:List (Value×Nat)}{x:Addr}:rowsS (a++b) x↔rowsS a x∨rowsS b x:=by
 unfold rowsS;constructor
 ·
  rintro⟨r,hr,h⟩;rcases List.mem_append.1 hr with h1|h1
  · exact .inl ⟨r,h1,h⟩
  · exact .inr ⟨r,h1,h⟩
 ·
  rintro (⟨r,hr,h⟩|⟨r,hr,h⟩)
  · exact⟨r,List.mem_append.2 (.inl hr),h⟩
  · exact⟨r,List.mem_append.2 (.inr hr),h⟩
theorem Loose.apart {w:World}{a b:List (Value×Nat)}(h:Loose w (a++b)):∀x,rowsS a x→¬rowsS b x:=by
 rintro x ⟨r,hr,h1⟩ ⟨s,hs,h2⟩;exact (List.pairwise_append.1 h.ap).2.2 r hr s hs x h1 h2
theorem mk_then {w0 w1 w2:World}{a b:List (Value×Nat)}{k:Int}(h:Loose w0 (a++b))(g1:Wrt (rowsS a) w0 w1)(m1:mkR w1 k a)(g2:Wrt (rowsS b) w1 w2)(m2:mkR w2 (k+totR a) b):
  Wrt (rowsS (a++b)) w0 w2∧mkR w2 k (a++b):=by
 refine⟨(g1.more (fun x hx=>rowsS_append.2 (.inl hx))).trans (g2.more (fun x hx=>rowsS_append.2 (.inr hx))),(mkR_append w2 a b k).2 ⟨?_,m2⟩⟩;exact mkR_kept g2 a k m1 (fun x hx=>h.apart x hx) (fun x hx=>((h.wb x (rowsS_append.2 (.inl hx))).kept g1).lt)
def allB (l:List Int)(lo hi:Int)(most:Nat):Bool:=l.all (fun x=>decide (lo≤x)&&decide (x≤hi))&&decide (l.length≤most)
def ntB (n:Int)(x:Nt):Bool:=(decide (0≤x.1)&&decide (x.1≤2))&&((decide (0≤x.2.1)&&decide (x.2.1≤9))&&(decide (0≤x.2.2)&&decide (x.2.2≤n-1)))
def ntsB (n:Int)(l:List Nt):Bool:=l.all (ntB n)
def ckB (dss:List (List Dd))(n:Int)(b:Bd)(i:Nat):Bool:=
 (decide (0≤b.nxt.getD i 0)&&decide (b.nxt.getD i 0≤((dss.getD i []).length:Int)))&&(decide ((b.nts.getD i []).length≤8)&&ntsB n (b.nts.getD i []))
def shapeB (dss:List (List Dd))(b:Bd):Bool:=
 workB dss&&(decide (b.plc.length=3)&&(decide (b.lst.length=3)&&(decide (b.rws.length=3)&&(decide (b.nts.length=dss.length)&&decide (b.nxt.length=dss.length)))))
def fillB (n:Int)(r:Nat)(b:Bd):Bool:=
 decide (b.sn.length=r)&&(decide (b.fr.length=r)&&(allB b.plc 0 9 3&&(allB b.lst 0 (n-1) 3&&(allB b.sn (-1) 9 12&&allB b.fr (-1) (n-1) 12))))
def rowsBd (n:Int)(b:Bd):Bool:=(List.range 3).all (fun i=>allB (b.rws.getD i []) 0 (n-1) 20)
def boardB (dss:List (List Dd))(b:Bd):Bool:=
 shapeB dss b&&(fillB ((eventsB dss).length:Int) (idxB rdE (eventsB dss)).length b&&(rowsBd ((eventsB dss).length:Int) b&&(List.range dss.length).all (fun i=>ckB dss ((eventsB dss).length:Int) b i)))
section
structure Rw where
 e:TypeId
 size:Nat
 v:Value
 n:Nat
 xs:List Value
def Rw.own (w:World)(m:Nat)(r:Rw):Prop:=w.ownsRow m r.e r.size r.v r.n r.xs
def upd {ι:Type}[DecidableEq ι](R:ι→Rw)(i:ι)(r:Rw):ι→Rw:=fun j=>if j=i then r else R j
theorem upd_same {ι:Type}[DecidableEq ι](R:ι→Rw)(i:ι)(r:Rw):upd R i r i=r:=if_pos rfl
theorem upd_other {ι:Type}[DecidableEq ι](R:ι→Rw){i j:ι}(r:Rw)(h:j≠i):upd R i r j=R j:=if_neg h
structure Fam {ι:Type}(w:World)(m:Nat)(live:ι→Prop)(R:ι→Rw):Prop where
 own:∀i,live i→(R i).own w m
 apart:∀i j,live i→live j→i≠j→(R i).v.ownBlock=none∨(R i).v.ownBlock≠(R j).v.ownBlock
section
variable {ι:Type} {w w':World} {m:Nat} {live:ι→Prop} {R:ι→Rw}
theorem Fam.lt (h:Fam w m live R){i:ι}(hi:live i):∀k,(R i).v.ownBlock=some k→m≤k∧k<w.heap.size:=World.ownsRow.lt (h.own i hi)
theorem Fam.keep (h:Fam w m live R)(k:Keep w w'):Fam w' m live R:=
 ⟨fun i hi=>World.ownsRow.kept (h.own i hi) k.grownBy (by cases (R i).v.ownBlock<;>simp),h.apart⟩
theorem Fam.congr (h:Fam w m live R){live':ι→Prop}{R':ι→Rw}(hl:∀i,live' i→live i)(hr:∀i,live' i→R' i=R i):Fam w m live' R':=
 ⟨fun i hi=>by rw[hr i hi];exact h.own i (hl i hi),fun i j hi hj hij=>by rw[hr i hi,hr j hj];exact h.apart i j (hl i hi) (hl j hj) hij⟩
variable [DecidableEq ι]
theorem Fam.set (h:Fam w m live R){i:ι}(hi:live i){r:Rw}(hg:w.grownBy w' (R i).v.ownBlock)(hb:r.v.ownBlock=(R i).v.ownBlock∨r.v.ownBlock=some w.heap.size∨r.v.ownBlock=none)(ho:r.own w' m):Fam w' m live (upd R i r):=by
 refine⟨fun j hj=>?_,fun j k hj hk hjk=>?_⟩
 ·
  by_cases e:j=i
  · subst e;rw[upd_same];exact ho
  ·
   rw[upd_other R r e];exact World.ownsRow.kept (h.own j hj) hg (h.apart j i hj hi e)
 ·
  have new:∀j,live j→j≠i→(R j).v.ownBlock=none∨(R j).v.ownBlock≠some w.heap.size:=fun j hj _=>by
   cases e:(R j).v.ownBlock with
   |none=>exact .inl rfl
   |some b=>exact .inr (fun e'=>by have:=(h.lt hj b e).2;have:=Option.some.inj e';omega)
  by_cases ej:j=i
  ·
   subst ej;have ek:k≠j:=fun e=>hjk e.symm
   rw[upd_same,upd_other R r ek];rcases hb with hb|hb|hb
   · rw[hb];exact h.apart j k hj hk hjk
   ·
    rw[hb];right;intro e;rcases new k hk ek with h1|h1
    · rw[h1] at e;cases e
    · exact h1 e.symm
   · exact .inl hb
  ·
   rw[upd_other R r ej];by_cases ek:k=i
   ·
    subst ek;rw[upd_same];rcases hb with hb|hb|hb
    · rw[hb];exact h.apart j k hj hk hjk
    · rw[hb];exact new j hj ej
    ·
     rw[hb]
     cases (R j).v.ownBlock with
     |none=>exact .inl rfl
     |some b=>exact .inr (by simp)
   ·
    rw[upd_other R r ek];exact h.apart j k hj hk hjk
theorem Fam.add (h:Fam w m live R){i:ι}(hi:¬live i){r:Rw}{s:Nat}(hs:s=w.heap.size)(k:Keep w w')(ho:r.own w' m)(hn:∀b,r.v.ownBlock=some b→s≤b):Fam w' m (fun j=>live j∨j=i) (upd R i r):=by
 have hk:=h.keep k
 have new:∀j,live j→(R j).v.ownBlock=none∨(R j).v.ownBlock≠r.v.ownBlock:=fun j hj=>by
  cases e:(R j).v.ownBlock with
  |none=>exact .inl rfl
  |some b=>exact .inr (fun e'=>by have:=(h.lt hj b e).2;have:=hn b e'.symm;omega)
 have ne:∀j,live j→j≠i:=fun j hj e=>hi (e ▸ hj)
 refine⟨fun j hj=>?_,fun j l hj hl hjl=>?_⟩
 ·
  rcases hj with hj|rfl
  · rw[upd_other R r (ne j hj)];exact hk.own j hj
  · rw[upd_same];exact ho
 ·
  rcases hj with hj|rfl
  ·
   rw[upd_other R r (ne j hj)];rcases hl with hl|rfl
   · rw[upd_other R r (ne l hl)];exact h.apart j l hj hl hjl
   · rw[upd_same];exact new j hj
  ·
   rw[upd_same];rcases hl with hl|rfl
   ·
    rw[upd_other R r (ne l hl)];rcases new l hl with h1|h1
    ·
     rw[h1]
     cases r.v.ownBlock with
     |none=>exact .inl rfl
     |some b=>exact .inr (by simp)
    · exact .inr (fun e=>h1 e.symm)
   · exact absurd rfl hjl
end
theorem Rw.put {w:World}{m:Nat}{r:Rw}(h:r.own w m){g cap k:Nat}(hv:r.v = .slice (some ⟨g,0,none⟩) r.n cap)(x:Value):Rw.own (w.setCell ⟨g,k,none⟩ x) m { r with xs:=r.xs.set k x }∧w.grownBy (w.setCell ⟨g,k,none⟩ x) r.v.ownBlock∧w.frozen? ⟨g,k,none⟩=false:=by
 unfold Rw.own at h ⊢;rcases h.2 with ⟨h1,_⟩|⟨g',cap',cur,h1,hb,hg,hn,hm,hs,ht⟩
 · rw[hv] at h1;simp at h1
 ·
  rw[hv] at h1;simp only[Value.slice.injEq,Option.some.injEq,Addr.mk.injEq,and_true,true_and] at h1;obtain⟨rfl,rfl⟩:=h1;refine⟨⟨by simpa using h.1,.inr ⟨g,cap,cur.setIfInBounds k x,hv,hb,heap_setCell_same w g k _ _ _ hg,hn,hm,by simpa using hs,?_⟩⟩,?_,frozen_of_row w g k _ _ hg⟩
  · rw[Array.toList_setIfInBounds,List.take_set,ht]
  ·
   rw[hv];exact grown_set w g k x
end
section
abbrev nilS:Value:= .slice none 0 0
abbrev ivR (zs:List Int)(v:Value):Rw:=⟨2,1,v,zs.length,zs.map (Value.int .i64)⟩
abbrev hdR (t:TypeId)(vs:List Value)(v:Value):Rw:=⟨t,1,v,vs.length,vs⟩
section
variable {w:World} {m:Nat}
theorem own_head {t:TypeId}{u:Value}{vs:List Value}(o:(hdR t vs u).own w m):∃a cap,u = .slice a vs.length cap∧(vs=[]∨∃g,a=some ⟨g,0,none⟩∧g<w.heap.size∧∀i,i<vs.length→w.cell? ⟨g,i,none⟩=some (vs.getD i nilS)):=by
 have hlt:=World.ownsRow.lt o;have o':=o;rcases o.2 with ⟨h1,h2⟩|⟨g,cap,cur,h1,_⟩
 ·
  have:vs=[]:=List.eq_nil_of_length_eq_zero h2;subst this;exact⟨none,0,h1,.inl rfl⟩
 ·
  refine⟨some ⟨g,0,none⟩,cap,h1,.inr ⟨g,rfl,(hlt g (by show u.ownBlock=_;rw[show u=_ from h1];rfl)).2,fun i hi=>?_⟩⟩;have o2:w.ownsRow m t 1 (.slice (some ⟨g,0,none⟩) vs.length cap) vs.length vs:=by rw[←show u=_ from h1];exact o'
  rw[World.ownsRow.cellAt o2 i (by omega),List.getD_eq_getElem?_getD,List.getElem?_eq_getElem hi];rfl
end
end
section
section
variable {α:Type} (t:TypeId) (rowOf:List α→Value→Rw)
def llR (v:Value)(hs:List Value)(xss:List (List α)):Option Nat→Rw
 |none=>hdR t hs v
 |some i=>rowOf (xss.getD i []) (hs.getD i nilS)
def llLive (j:Nat):Option Nat→Prop
 |none=>True
 |some i=>i<j
variable {t rowOf} {w w2:World} {m:Nat} {v u:Value} {hs:List Value} {xss:List (List α)} {j:Nat}
structure OwnLL (t:TypeId)(rowOf:List α→Value→Rw)(w:World)(m:Nat)(v:Value)(hs:List Value)(xss:List (List α)):Prop where
 fam:Fam w m (llLive hs.length) (llR t rowOf v hs xss)
 len:hs.length=xss.length
end
end
theorem Tryz.infoIl:(Tryz.prog.info? 50).map (fun i=>(i.zero,i.size,i.bytes))=some (some (.slice none 0 0),1,24):=by kernel_rfl
theorem own_base {w:World}{m m':Nat}{e:TypeId}{n:Nat}{v:Value}{k:Nat}{xs:List Value}(o:w.ownsRow m e n v k xs)(hm:m'≤m):w.ownsRow m' e n v k xs:=by
 refine⟨o.1,?_⟩;rcases o.2 with q|⟨g,cap,cur,e,hg,r⟩
 · exact .inl q
 · exact .inr ⟨g,cap,cur,e,Nat.le_trans hm hg,r⟩
theorem ev_vals {dss:List (List Dd)}(hb:workB dss=true){j:Nat}(hj:j<(eventsB dss).length):(0≤vlN dss j∧vlN dss j≤9)∧0≤plN dss j∧plN dss j≤2:=by
 by_cases h3:j<3
 ·
  have e:=(evs_good (dss:=dss) (by simp only[workB,Bool.and_eq_true,decide_eq_true_eq] at hb;intro i hi;have:=List.all_eq_true.1 hb.1.1.1.2 _ (List.getElem_mem hi);rw[List.getD_eq_getElem?_getD,List.getElem?_eq_getElem hi];exact this) dss.length (Nat.le_refl _)).1;obtain⟨t,ht⟩:=e;have e1:eventsB dss=evBeg++t:=by rw[eventsB,if_pos hb,ht]
  unfold vlN plN;rw[e1,List.getD_eq_getElem?_getD,List.getElem?_append_left (by simp[evBeg];omega)];have:j=0∨j=1∨j=2:=by omega
  rcases this with rfl|rfl|rfl<;>simp[evBeg]
 ·
  obtain⟨c,k,i,E⟩:=ev_dec hb (by omega) hj;have hd:=okC_of hb E.hc k E.hk;unfold vlN plN;rw[E.at hb];simp only;unfold vlI;have hd':=hd;unfold dAt at hd' ⊢;simp only[okD,deedB,decide_eq_true_eq] at hd';split<;>omega
theorem ev_nine (dss:List (List Dd)):(eventsB dss).length≤9:=by
 unfold eventsB;split
 ·
  rename_i h;simp only[workB,Bool.and_eq_true,decide_eq_true_eq] at h;obtain⟨⟨⟨⟨_,h2⟩,_⟩,h4⟩,_⟩:=h;have:=evsW_len (fun i hi=>all_get [] h2 i hi) dss.length (Nat.le_refl _);omega
 · simp
theorem nodup_len {lo n:Nat}:∀ {l:List Nat},l.Nodup→(∀x∈l,lo≤x∧x<n)→l.length≤n-lo:=fun {l} hn h=>by
 have hs:∀x∈l,x∈List.range' lo (n-lo):=fun x hx=>by
  have:=h x hx;rw[List.mem_range'_1];omega
 have:l.length≤(List.range' lo (n-lo)).length:=by
  clear h;generalize List.range' lo (n-lo)=r at hs
  induction l generalizing r with
  |nil=>simp
  |cons x t ih=>
   rw[List.nodup_cons] at hn;have hx:=hs x (by simp);have:=ih hn.2 (r.erase x) (fun y hy=>(List.mem_erase_of_ne (fun e=>hn.1 (by rw[←e];exact hy))).2 (hs y (by simp[hy])));rw[List.length_erase_of_mem hx] at this;have:0<r.length:=List.length_pos_of_mem hx;simp only[List.length_cons];omega
 simpa using this
theorem allB_map {α:Type}(l:List α)(f:α→Int){lo hi:Int}{most:Nat}(h:∀x∈l,lo≤f x∧f x≤hi)(hm:l.length≤most):allB (l.map f) lo hi most=true:=by
 unfold allB;rw[Bool.and_eq_true,List.all_eq_true,decide_eq_true_eq,List.length_map];refine⟨fun y hy=>?_,hm⟩;obtain⟨x,hx,rfl⟩:=List.mem_map.1 hy;have:=h x hx;simp[this]
theorem mi_board {dss:List (List Dd)}(hb:workB dss=true){b:Bd}{a:Ab}{τ:Nat→Nat}{T:Nat}{z:Int}(M:MI dss b a τ T z):boardB dss b=true:=by
 have h9:=ev_nine dss;have R:=M.rep;have I:=M.inv
 have hlen3:3≤(eventsB dss).length:=by
  have:=I.lt 2 (I.beg 2 (by omega)).1;exact this
 have rowlt:∀p x,x∈a.R p→x<(eventsB dss).length:=fun p x hx=>I.lt x ((I.rows p x).1 hx).1.1
 have notelt:∀c x,x∈a.N c→3≤x∧x<(eventsB dss).length:=fun c x hx=>by
  have hx':x∈(stA dss a τ).N (c:Int):=by rw[st_N];exact hx
  have:=I.note (c:Int) x hx';exact⟨this.2.1,I.lt x this.1⟩
 have hlast:∀p,p<3→lastA a p<(eventsB dss).length:=fun p hp=>by
  unfold lastA
  cases hl:(a.R p).getLast? with
  |none=>show p<_;omega
  |some x=>exact rowlt p x (List.mem_of_getLast? hl)
 have hF:∀r,r<(eventsB dss).length→((eventsB dss).getD r zE).2.2.1=true→exA dss a r=true→a.F r<(eventsB dss).length:=fun r h1 h2 h3=>I.lt _ (I.src r ⟨h1,h3⟩ h2).1
 have hx12:(eventsB dss).length≤12:=by omega
 have rl:(idxB rdE (eventsB dss)).length≤12:=by
  unfold idxB;rw[if_pos hx12];have:=idxK_len rdE (eventsB dss) (eventsB dss).length;omega
 have rdin:∀r∈idxB rdE (eventsB dss),(0≤r∧r<((eventsB dss).length:Int))∧((eventsB dss).getD r.toNat zE).2.2.1=true:=fun r hr=>by
  unfold idxB at hr;rw[if_pos hx12] at hr;exact⟨idxK_lt _ _ _ _ hr,idxK_mem _ _ _ _ hr⟩
 unfold boardB;rw[Bool.and_eq_true,Bool.and_eq_true,Bool.and_eq_true];refine⟨?_,?_,?_,?_⟩
 ·
  unfold shapeB;rw[hb,R.plc,R.lst,R.rws,R.nts,R.nxt];simp
 ·
  unfold fillB;rw[R.sn,R.fr,R.plc,R.lst,List.length_map,List.length_map];simp only[decide_true,Bool.true_and,Bool.and_eq_true];refine⟨allB_map _ _ (fun p hp=>(ev_vals hb (hlast p (List.mem_range.1 hp))).1) (by simp),allB_map _ _ (fun p hp=>by have:=hlast p (List.mem_range.1 hp);omega) (by simp),allB_map _ _ (fun r hr=>?_) rl,allB_map _ _ (fun r hr=>?_) rl⟩
  ·
   obtain⟨h1,h2⟩:=rdin r hr;by_cases hE:exA dss a r.toNat=true
   ·
    rw[if_pos hE];have:=(ev_vals hb (hF r.toNat (by omega) h2 hE)).1;omega
   · rw[if_neg hE];omega
  ·
   obtain⟨h1,h2⟩:=rdin r hr;by_cases hE:exA dss a r.toNat=true
   ·
    rw[if_pos hE];have:=hF r.toNat (by omega) h2 hE;omega
   · rw[if_neg hE];omega
 ·
  unfold rowsBd;rw[List.all_eq_true];intro p hp;rw[R.rws,map_at _ _ (List.mem_range.1 hp)];refine allB_map _ _ (fun x hx=>by have:=rowlt p x hx;exact⟨Int.natCast_nonneg _,by show (x:Int)≤_;omega⟩) ?_;have:=nodup_len (lo:=0) (I.rnod p) (fun x hx=>⟨Nat.zero_le _,rowlt p x hx⟩);have e:(stA dss a τ).R p=a.R p:=rfl;rw[e] at this;omega
 ·
  rw[List.all_eq_true];intro c hc;have hc:=List.mem_range.1 hc;unfold ckB;rw[(nx_at R hc).1,R.nts,map_at _ _ hc,List.length_map];have h1:=M.nxl c hc
  have hnd:(a.N c).Nodup:=by
   have:=I.nord (c:Int);rw[st_N] at this;exact this.imp (fun h=>Nat.ne_of_lt h)
  have h2:=nodup_len hnd (notelt c);simp only[Bool.and_eq_true,decide_eq_true_eq];refine⟨⟨by omega,by omega⟩,by omega,?_⟩;unfold ntsB;rw[List.all_eq_true];intro y hy;obtain⟨x,hx,rfl⟩:=List.mem_map.1 hy;have hn:=notelt c x hx;have:=ev_vals hb hn.2;unfold ntB ntE;simp only[Bool.and_eq_true,decide_eq_true_eq];omega
structure Shp (dss:List (List Dd))(b:Bd)(n:Nat):Prop where
 work:workB dss=true
 plc:b.plc.length=3
 lst:b.lst.length=3
 rws:b.rws.length=3
 nts:b.nts.length=dss.length
 nxt:b.nxt.length=dss.length
 sn:b.sn.length=(idxB rdE (eventsB dss)).length
 fr:b.fr.length=(idxB rdE (eventsB dss)).length
 rl:∀p,(b.rws.getD p []).length≤n
 nl:∀c,(b.nts.getD c []).length≤n
theorem Shp.of {dss:List (List Dd)}{b:Bd}(h:boardB dss b=true):Shp dss b 20:=by
 simp only[boardB,shapeB,fillB,rowsBd,Bool.and_eq_true,decide_eq_true_eq] at h;obtain⟨⟨hw,h1,h2,h3,h4,h5⟩,⟨h6,h7,-⟩,h8,h9⟩:=h;refine⟨hw,h1,h2,h3,h4,h5,h6,h7,fun p=>?_,fun c=>?_⟩
 ·
  by_cases hp:p<3
  ·
   have:=List.all_eq_true.1 h8 p (List.mem_range.2 hp);simp only[allB,Bool.and_eq_true,decide_eq_true_eq] at this;exact this.2
  · rw[List.getD_eq_getElem?_getD,List.getElem?_eq_none (by omega)];simp
 ·
  by_cases hc:c<dss.length
  ·
   have:=List.all_eq_true.1 h9 c (List.mem_range.2 hc);simp only[ckB,Bool.and_eq_true,decide_eq_true_eq] at this;omega
  · rw[List.getD_eq_getElem?_getD,List.getElem?_eq_none (by omega)];simp
theorem workB_useR {dss:List (List Dd)}(h:workB dss=true):dss.length≤3∧∀i,i<dss.length→okL (dss.getD i [])=true:=by
 simp only[workB,Bool.and_eq_true,decide_eq_true_eq] at h;obtain⟨⟨⟨⟨h1,h2⟩,_⟩,_⟩,_⟩:=h;exact⟨h1.2,fun i hi=>all_get [] h2 i hi⟩
theorem OwnLL.keep {α:Type}{t:TypeId}{rowOf:List α→Value→Rw}{w w':World}{m:Nat}{v:Value}{hs:List Value}{xss:List (List α)}(h:OwnLL t rowOf w m v hs xss)(k:Keep w w'):OwnLL t rowOf w' m v hs xss:=⟨h.fam.keep k,h.len⟩
theorem OwnLL.push {α:Type}{t:TypeId}{rowOf:List α→Value→Rw}{w w1 w2:World}{m:Nat}{v v' u:Value}{hs:List Value}{xss:List (List α)}{xs:List α}(h:OwnLL t rowOf w m v hs xss)(hv:∀xs u,(rowOf xs u).v=u)(k:Keep w w1)
  (ou:(rowOf xs u).own w1 m) (hn:∀b,u.ownBlock=some b→w.heap.size≤b) (hg:w1.grownBy w2 v.ownBlock) (hb:v'.ownBlock=v.ownBlock∨v'.ownBlock=some w1.heap.size) (ho:(hdR t (hs++[u]) v').own w2 m):OwnLL t rowOf w2 m v' (hs++[u]) (xss++[xs]):=by
 have F1:=h.fam.add (i:=some hs.length) (fun q=>Nat.lt_irrefl _ (show hs.length<hs.length from q)) (r:=rowOf xs u) rfl k ou (fun b hb=>hn b (by rw[hv] at hb;exact hb));have F2:=F1.set (i:=none) (.inl trivial) (r:=hdR t (hs++[u]) v') (by rw[upd_other _ _ (by simp)];exact hg) (by rw[upd_other _ _ (by simp)];rcases hb with e|e;exact .inl e;exact .inr (.inl e)) ho;refine⟨F2.congr (fun o ho'=>?_) (fun o ho'=>?_),by rw[List.length_append,List.length_append,h.len];rfl⟩
 ·
  cases o with
  |none=>exact .inl trivial
  |some i=>
   have hi:i<(hs++[u]).length:=ho';rw[List.length_append] at hi;by_cases e:i=hs.length
   · exact .inr (by rw[e])
   · exact .inl (show i<hs.length by simp at hi;omega)
 ·
  cases o with
  |none=>rw[upd_same];rfl
  |some i=>
   have hi:i<(hs++[u]).length:=ho';rw[List.length_append] at hi;rw[upd_other _ _ (by simp)];show rowOf ((xss++[xs]).getD i []) ((hs++[u]).getD i nilS)=_;by_cases e:i=hs.length
   ·
    subst e;rw[upd_same];have e1:(xss++[xs]).getD hs.length []=xs:=by rw[h.len,List.getD_eq_getElem?_getD,List.getElem?_append_right (Nat.le_refl _)];simp
    have e2:(hs++[u]).getD hs.length nilS=u:=by rw[List.getD_eq_getElem?_getD,List.getElem?_append_right (Nat.le_refl _)];simp
    rw[e1,e2]
   ·
    rw[upd_other _ _ (by simpa using e)];have hi2:i<hs.length:=by simp at hi;omega
    have e1:(xss++[xs]).getD i []=xss.getD i []:=by rw[List.getD_eq_getElem?_getD,List.getElem?_append_left (by rw[←h.len];exact hi2),←List.getD_eq_getElem?_getD]
    have e2:(hs++[u]).getD i nilS=hs.getD i nilS:=by rw[List.getD_eq_getElem?_getD,List.getElem?_append_left hi2,←List.getD_eq_getElem?_getD]
    rw[e1,e2];rfl
theorem ownLL_new (w:World):OwnLL 50 ivR (w.alloc (.cells #[] 50)) w.heap.size (.slice (some ⟨w.heap.size,0,none⟩) 0 0) [] []:=by
 refine⟨⟨fun o ho=>?_,fun o o' ho ho' hne=>?_⟩,rfl⟩
 ·
  cases o with
  |none=>exact World.ownsRow_lit w #[] 0 (Nat.le_refl _) (by decide) rfl
  |some i=>exact absurd (show i<0 from ho) (by omega)
 ·
  cases o with
  |none=>
   cases o' with
   |none=>exact absurd rfl hne
   |some i=>exact absurd (show i<0 from ho') (by omega)
  |some i=>exact absurd (show i<0 from ho) (by omega)
theorem tale_facts {dss:List (List Dd)}{f rows:List Int}(h:taleB dss f rows=true):(dss.length≤3∧∀i,i<dss.length→okL (dss.getD i [])=true)∧eventsB dss=evsW dss dss.length ∧
  (evsW dss dss.length).length≤12∧rows.length≤36∧(∀j,j<rows.length→0≤rows.getD j 0∧rows.getD j 0<((evsW dss dss.length).length:Int))∧(∀j,j<rows.length→0≤plE (evsW dss dss.length) (rows.getD j 0)∧plE (evsW dss dss.length) (rows.getD j 0)≤2) ∧
  (idxB rdE (evsW dss dss.length)).length=f.length∧f.length≤12∧(∀i,i<f.length→0≤f.getD i 0∧f.getD i 0<((evsW dss dss.length).length:Int)):=by
 obtain⟨hb,hs,hr⟩:=tale_use h;have e1:eventsB dss=evsW dss dss.length:=by rw[eventsB,if_pos hb]
 have h12:=(events_law hb).1;rw[e1] at hs hr;obtain⟨s1,s2⟩:=src_use h12 hs;obtain⟨_,r2,r3⟩:=rows_use h12 hr
 have rl:(idxB rdE (evsW dss dss.length)).length≤12:=by
  unfold idxB;rw[if_pos h12];have:=idxK_len rdE (evsW dss dss.length) (evsW dss dss.length).length;omega
 exact⟨workB_useR hb,e1,h12,r2,r3,fun j hj=>plW_in h12 hr hj,s1,by omega,fun i hi=>(s2 i (by omega)).1⟩
theorem four_len {n:Nat}{a b c d:List Int}(ha:Web n a)(hb:Web n b)(hc:Web n c)(hd:Web n d):a.length=b.length∧c.length=d.length∧(List.zipWith orI a b).length=(List.zipWith orI c d).length∧a.length≤12∧c.length≤12∧(List.zipWith orI a b).length≤12 ∧
  mixL orI (mixL orI a b) (mixL orI c d)=List.zipWith orI (List.zipWith orI a b) (List.zipWith orI c d):=by
 have h1:=(web_join ha hb).1;have h2:=(web_join hc hd).1;have e:=mixL_web orI h1 h2;rw[mixL_web orI ha hb] at h1 e ⊢;rw[mixL_web orI hc hd] at h2 e ⊢;refine⟨by rw[ha.2.1,hb.2.1],by rw[hc.2.1,hd.2.1],by rw[h1.2.1,h2.2.1],by rw[ha.2.1];exact ha.1,by rw[hc.2.1];exact hc.1,by rw[h1.2.1];exact h1.1,e⟩
theorem tale_webs {dss:List (List Dd)}{f rows:List Int}(h:taleB dss f rows=true):Webs (evsW dss dss.length) f rows∧webB (pwL (evsW dss dss.length) f rows)=true:=by
 obtain⟨hb,hs,hr⟩:=tale_use h;have e1:eventsB dss=evsW dss dss.length:=by rw[eventsB,if_pos hb]
 have h12:=(events_law hb).1;rw[e1] at hs hr;have W:=webs_of h12 hs hr;exact⟨W,(web_four (plc_line h12).1 W.fw W.rw' W.ag).1.b⟩
theorem new_one (w:World)(u:Value)(n:Nat)(hn:w.heap.size=n):∀j y,([u]:List Value)[j]? = some y→(w.alloc (.cells #[u] 50)).cell? ((⟨n,0,none⟩:Addr).add j)=some y:=by
 subst hn;intro j y hj
 match j,hj with
 | 0,hj=>simp at hj;subst hj;simp[Addr.add]
theorem Own.setAt {w:World}{base g n cap:Nat}{zs:List Int}(h:Own w base (.slice (some ⟨g,0,none⟩) n cap) zs)(j:Nat)(x:Int):Own (w.setCell ⟨g,j,none⟩ (.int .i64 x)) base (.slice (some ⟨g,0,none⟩) n cap) (zs.set j x):=by
 obtain⟨h1,h2⟩:=h;refine⟨by simp,?_⟩;rcases h2 with ⟨h,_⟩|⟨g',cap',cur,e,hg,hh,r1,r2,r3,r4⟩
 · cases h
 ·
  cases e;refine .inr ⟨g,cap,cur.setIfInBounds j (.int .i64 x),by simp,hg,heap_setCell_same w g j _ _ _ hh,by simpa using r1,r2,by simpa using r3,?_⟩;rw[Nat.mul_one] at r4 ⊢;rw[Array.toList_setIfInBounds];exact take_set_val _ zs j x r4
theorem Own.rowAt {w:World}{base g n cap:Nat}{zs:List Int}(h:Own w base (.slice (some ⟨g,0,none⟩) n cap) zs):RowAt w g zs:=by
 rcases h.2 with ⟨h,_⟩|⟨g',cap',cur,e,hg,hh,r1,r2,r3,r4⟩
 · cases h
 ·
  cases e;exact⟨cur,_,hh,by rw[Nat.mul_one] at r4;exact r4⟩
theorem step_append_at {P:Program}{w:World}{ops:Array Oper}{o:Oper}{a:Act}{K:Act→World→Prop}{Q:Exit→Act→World→Prop}{E:Prop}(hgd:o.guard=none)(s x:Operand)(t:TypeId)
  (ho:o.op = .call { callee:= .builtin .append,args:=#[s,x],argTypes:=#[t,t] })
  (base:Nat) (e:TypeId) (i:TypeInfo) (z:Value) (size bytes:Nat) (ht:P.underlying t=some (.slice e)) (hi:P.info? e=some i) (hz:i.zero=some z)
  (hsize:i.size=size) (hby:i.bytes=bytes) (hzs:z.cells.size=size) (hsz:0<size)
  (v:Value) (n:Nat) (xs:List Value) (hs:a.eval s=v) (hown:w.ownsRow base e size v n xs)
  (ad:Addr) (m c:Nat) (news:List Value) (hx:a.eval x = .slice (some ad) m c) (hl:news.length=m*size) (hnews:∀j u,news[j]? = some u→w.cell? (ad.add j)=some u) (h1:∀u∈news,u.oneCell'=true)
  (h63:n+m≤maxLen) (hbytes:(n+m)*bytes≤140737488355328) (hbase:base≤w.heap.size)
  (h:∀v' w',w'.ownsRow base e size v' (n+m) (xs++news)→w.grownBy w' v.ownBlock→(v'.ownBlock=v.ownBlock∨v'.ownBlock=some w.heap.size)→K (a.put o.dst v') w'):
  if Region.wanted o (yielded ops a.tmps)=true then Oper.wp P o a w K Q else E:=by
 have hw:Region.wanted o (yielded ops a.tmps)=true:=by simp[Region.wanted,hgd]
 rw[if_pos hw];obtain⟨v',w',hr,h2,h3,h4,h5⟩:=run_append_own_at (P:=P) w base t o.type e i z size bytes ht hi hz hsize hby hzs hsz v n xs hown ad m c news hl hnews h1 h63 hbytes hbase;unfold Oper.wp execOp;simp only[ho,resolve,invoke,builtin,Sem.run_bind,Sem.run_pure,Result.andThen_ok,List.map_toArray,List.map_cons,List.map_nil,hs,hx,hr];exact h v' w' h2 h3 h5
theorem work_small {dss:List (List Dd)}(h:workB dss=true):dss.length≤3∧∀i,i<dss.length→(dss.getD i []).length≤1048576:=by
 obtain⟨h1,h2⟩:=workB_useR h;refine⟨h1,fun i hi=>?_⟩;have hq:=h2 i hi;unfold okL at hq;rw[Bool.and_eq_true,decide_eq_true_eq] at hq;omega
end Go.Proofs.YtkmjmnljkidobaaGreat
