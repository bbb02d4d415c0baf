/- Gathered texts. -/
import Derived.Test.YtnmelakgmgenjaaGreatMC
import Derived.Maps.AppendAt
import Derived.Laws.OwnMore
import Derived.OwnWalk
set_option maxRecDepth 100000
set_option maxHeartbeats 8000000
namespace Go.Proofs.YtnmelakgmgenjaaGreat
open Go.ChangeShapes Go.WideShapes Go.ChangeAt Go.RowKit
open Go.RowKit
def GH (AG:List (List Nt)):List Int:=AG.flatMap (fun n=>-2::n.map (fun x=>x.2.2))
def Ck (b:Bd):List Int:=b.AK++b.AQ++b.sn++GH b.AG
def As (b:Bd):List Int:=b.sn++b.AM
def GD (b:Bd):Bd:={ b with fr:=[],rws:=[] }
theorem Wy (AA:List (List Dd))(es:List Ev)(b:Bd)(c k:Nat):GD (BH AA es (GD b) c k)=GD (BH AA es b c k):=by
 unfold BH;split
 . rfl
 ·
  split
  . rfl
  ·
   split
   . rfl
   . split<;>rfl
theorem Rx (AA:List (List Dd))(es:List Ev)(b:Bd)(c:Nat):GD (Ai AA es (GD b) c)=GD (Ai AA es b c):=by
 have h:=Wy AA es b c (Ap b c);have e:Ap (GD b) c=Ap b c:=rfl;unfold Ai;rw[e];simp only[GD] at h ⊢;injection h with h1 h2 h3 h4 h5;rw[h1,h2,h3,h5]
def Dh (b b':Bd):Prop:=GD b=GD b'
theorem Wu {AA:List (List Dd)}{es:List Ev}{b b':Bd}(h:Dh b b')(c:Nat):Dh (Ai AA es b c) (Ai AA es b' c):=by
 unfold Dh at h ⊢;rw[<-Rx,h,Rx]
theorem GC {b b':Bd}(h:Dh b b'):b.AK=b'.AK/\b.AG=b'.AG/\b.sn=b'.sn/\b.AM=b'.AM/\b.AQ=b'.AQ:=by
 unfold Dh GD at h;injection h with h1 h2 h3 h4 h5;exact⟨h4,h3,h5,h1,h2⟩
theorem Rs {AA:List (List Dd)}{es:List Ev}(g:Int)(c:Nat):∀(m:Nat) (b b':Bd),Dh b b'->Dh (Ea AA es g c m b) (Ea AA es g c m b')
 | 0,_,_,h=>h
 |m+1,b,b',h=>by
  have h1:=Wu (AA:=AA) (es:=es) h c;have e:Ap (Ai AA es b c) c=Ap (Ai AA es b' c) c:=by unfold Ap;rw[(GC h1).1]
  rw[Ea,Ea,e];split
  . exact h1
  . exact Rs g c m _ _ h1
theorem Rr {b b':Bd}(h:Dh b b')(c:Nat):Dh (BA b c) (BA b' c):=by
 obtain⟨h1,h2,h3,h4,h5⟩:=GC h;unfold BA;rw[h2];split
 . exact h
 ·
  unfold Dh GD Dq;simp only;rw[h1,h3,h4,h5]
theorem JT {AA:List (List Dd)}{es:List Ev}{b b':Bd}(h:Dh b b')(s:Int):Dh (Al AA es b s) (Al AA es b' s):=by
 unfold Al;have e:Ap b s.toNat=Ap b' s.toNat:=by unfold Ap;rw[(GC h).1]
 split
 . exact Rr h _
 . rw[e];exact Rs _ _ _ _ _ h
theorem Ru {AA:List (List Dd)}{es:List Ev}{b b':Bd}(h:Dh b b')(c:Nat):Dh (BE AA es b c) (BE AA es b' c):=by
 have h1:=JT (AA:=AA) (es:=es) h (c:Int);unfold BE;rw[(GC h1).2.1];split
 . exact h1
 . exact JT h1 _
theorem JS {AA:List (List Dd)}{b b':Bd}(h:Dh b b'):Ah AA b=Ah AA b'/\DN AA b=DN AA b'/\Ck b=Ck b'/\As b=As b':=by
 obtain⟨h1,h2,h3,h4,h5⟩:=GC h;have hn:∀c,Ap b c=Ap b' c:=fun c=>by unfold Ap;rw[h1]
 refine⟨?_,?_,?_,?_⟩
 ·
  unfold Ah;have:BU AA b=BU AA b':=by funext c;unfold BU;rw[hn,h2]
  rw[this,h2]
 ·
  unfold DN;rw[h2]
  congr 1
  funext c;rw[hn]
 . unfold Ck;rw[h1,h2,h3,h5]
 . unfold As;rw[h3,h4]
theorem Xg:∀L:List (List Int),(L.flatMap (fun l=>(-2:Int)::l)).takeWhile (fun x=>decide (0<=x))=[]
 | []=>rfl
 |l::L=>by rw[List.flatMap_cons,List.cons_append,List.takeWhile_cons];simp
theorem SR:∀(L L':List (List Int)),(∀l∈L,∀x∈l,0<=x)->(∀l∈L',∀x∈l,0<=x)->L.flatMap (fun l=>(-2:Int)::l)=L'.flatMap (fun l=>(-2:Int)::l)->L=L'
 | [],[],_,_,_=>rfl
 | [],_::_,_,_,h=>by simp at h
 |_::_,[],_,_,h=>by simp at h
 |l::L,l'::L',h1,h2,h=>by
  rw[List.flatMap_cons,List.flatMap_cons,List.cons_append,List.cons_append,List.cons.injEq] at h
  have t:∀(l:List Int) (L:List (List Int)),(∀x∈l,0<=x)->(l++L.flatMap (fun l=>(-2:Int)::l)).takeWhile (fun x=>decide (0<=x))=l:=by
   intro l L hl;rw[List.takeWhile_append_of_pos (fun x hx=>by simpa using hl x hx),Xg,List.append_nil]
  have e1:=t l L (h1 l (by simp));have e2:=t l' L' (h2 l' (by simp));rw[h.2] at e1;have e:l=l':=e1.symm.trans e2;subst e;rw[SR L L' (fun l hl=>h1 l (List.mem_cons_of_mem _ hl)) (fun l hl=>h2 l (List.mem_cons_of_mem _ hl)) (List.append_cancel_left h.2)]
theorem SU {AA:List (List Dd)}{b:Bd}{a:Ab}(R:Y8 AA b a):GH b.AG=((List.range AA.length).map (fun c=>(a.N c).map Int.ofNat)).flatMap (fun l=>(-2:Int)::l):=by
 unfold GH;rw[R.AG,List.flatMap_map,List.flatMap_map]
 congr 1
 funext c;rw[List.map_map];rfl
theorem Lf {AA:List (List Dd)}{b b':Bd}{a a':Ab}(R:Y8 AA b a)(R':Y8 AA b' a')(h:Ck b=Ck b'):Dh b b':=by
 unfold Ck at h;have l1:b.AK.length=b'.AK.length:=by rw[R.AK,R'.AK];simp
 have l2:b.AQ.length=b'.AQ.length:=by rw[R.AQ,R'.AQ];simp
 have l3:b.sn.length=b'.sn.length:=by rw[R.sn,R'.sn];simp
 obtain⟨h1,h4⟩:=List.append_inj h (by simp[l1,l2,l3]);obtain⟨h1,h3⟩:=List.append_inj h1 (by simp[l1,l2]);obtain⟨h1,h2⟩:=List.append_inj h1 l1;rw[SU R,SU R'] at h4
 have hp:∀(a:Ab),∀l∈(List.range AA.length).map (fun c=>(a.N c).map Int.ofNat),∀x∈l,0<=x:=by
  intro a l hl x hx;obtain⟨c,_,rfl⟩:=List.mem_map.1 hl;obtain⟨y,_,rfl⟩:=List.mem_map.1 hx;exact Int.natCast_nonneg y
 have h5:=SR _ _ (hp a) (hp a') h4
 have hN:∀c,c<AA.length->a.N c=a'.N c:=by
  intro c hc;have:=congrArg (fun l=>l.getD c []) h5;rw[Cq _ _ hc,Cq _ _ hc] at this;exact List.map_inj_right (fun x y e=>Int.ofNat.inj e) |>.1 this
 have hl:∀p,p<3->Be a p=Be a' p:=by
  intro p hp;have e1:=(Gh R hp).1;have e2:=(Gh R' hp).1;rw[h2] at e1;omega
 unfold Dh GD
 have aB:b.AG=b'.AG:=by
  rw[R.AG,R'.AG];refine List.map_congr_left (fun c hc=>?_);rw[hN c (List.mem_range.1 hc)]
 have hplc:b.AM=b'.AM:=by
  rw[R.AM,R'.AM];refine List.map_congr_left (fun p hp=>?_);rw[hl p (List.mem_range.1 hp)]
 rw[h1,h2,h3,aB,hplc]
theorem UU {AA:List (List Dd)}{b:Bd}(h:DN AA b=true):Ah AA b=[]:=by
 unfold DN at h;rw[List.all_eq_true] at h;unfold Ah;rw[List.append_eq_nil_iff,List.map_eq_nil_iff,List.map_eq_nil_iff,List.filter_eq_nil_iff,List.filter_eq_nil_iff];constructor
 ·
  intro c hc;have:=h c hc;simp only[Bool.and_eq_true,decide_eq_true_eq] at this;unfold BU;simp only[Bool.and_eq_true,decide_eq_true_eq,not_and];intro h2;omega
 ·
  intro c hc;have:=h c hc;simp only[Bool.and_eq_true] at this;rw[this.2];simp
def Ll (AA:List (List Dd))(es:List Ev):List Nat->Bd->Bd
 | [],b=>b
 |c::r,b=>Ll AA es r (BE AA es b c)
def Lk (AA:List (List Dd))(es:List Ev):List Nat->Bd->Bool
 | [],_=>true
 |c::r,b=>decide (c<AA.length)&&BU AA b c&&Lk AA es r (BE AA es b c)
theorem X4 {AA:List (List Dd)}(hb:AO AA=true):QI AA (CM AA) Jg (fun _=>0) 0 (-1):=by
 have hX:∀j,(Cm AA Jg (fun _=>0)).X j->j<3:=by
  intro j hj;have:=hj.2;unfold EL Jg at this;simp at this;omega
 refine⟨(Kk hb).1,(Kk hb).2,fun _=>rfl,fun i j hi _ h3=>?_⟩;have:=hX i hi.1;omega
def pE (AA:List (List Dd))(b:Bd):Prop:=∃l,Lk AA (AB AA) l (CM AA)=true/\Ll AA (AB AA) l (CM AA)=b
theorem OG {AA:List (List Dd)}{es:List Ev}:∀(l:List Nat) (b:Bd) (c:Nat),Lk AA es l b=true->c<AA.length->BU AA (Ll AA es l b) c=true->Lk AA es (l++[c]) b=true/\Ll AA es (l++[c]) b=BE AA es (Ll AA es l b) c
 | [],b,c,_,h1,h2=>by
  have h2':BU AA b c=true:=h2;refine⟨?_,rfl⟩;show (decide (c<AA.length)&&BU AA b c&&true)=true;rw[decide_eq_true h1,h2'];rfl
 |x::l,b,c,h,h1,h2=>by
  rw[Lk,Bool.and_eq_true] at h;obtain⟨e1,e2⟩:=OG l (BE AA es b x) c h.2 h1 h2;rw[List.cons_append,Lk,Ll,h.1,e1,e2];exact⟨rfl,rfl⟩
theorem pE.step {AA:List (List Dd)}{b:Bd}(h:pE AA b){c:Nat}(hc:c<AA.length)(hcan:BU AA b c=true):pE AA (BE AA (AB AA) b c):=by
 obtain⟨l,h1,h2⟩:=h;obtain⟨e1,e2⟩:=OG l (CM AA) c h1 hc (by rw[h2];exact hcan);exact⟨l++[c],e1,by rw[e2,h2]⟩
def Bi (AA:List (List Dd))(es:List Ev)(quick:Bool)(b:Bd):List Bd:=
 ((Ah AA b).filter (fun s=>!(quick&&decide (10<=s)))).map (fun s=>if quick=true then BE AA es b s.toNat else Al AA es b s)
inductive Bn (AA:List (List Dd)) (quick:Bool):Bd->Prop
 |new:Bn AA quick (CM AA)
 |step {b x:Bd}:Bn AA quick b->x∈Bi AA (AB AA) quick b->Bn AA quick x
structure SS where
 ends:List (List Int)
 seen:List (List Int)
 opn:List Bd
def Jm (AA:List (List Dd))(es:List Ev)(quick:Bool)(S:SS):SS:=
 match S.opn.getLast? with
 |none=>S
 |some b=>
  if Qp S.seen (Ck b)=true then { S with opn:=S.opn.dropLast }
  else if DN AA b=true then { ends:=EE S.ends (As b),seen:=EE S.seen (Ck b),opn:=S.opn.dropLast }
  else { ends:=S.ends,seen:=EE S.seen (Ck b),opn:=S.opn.dropLast++Bi AA es quick b }
theorem Lj {AA:List (List Dd)}{b:Bd}{s:Int}(h:s∈Ah AA b)(hl3:AA.length<=3):(∃c:Nat,s=(c:Int)/\c<AA.length/\BU AA b c=true/\s<10)\/(∃c:Nat,s=10+(c:Int)/\c<AA.length/\b.AG.getD c []≠[]/\10<=s):=by
 unfold Ah at h;rw[List.mem_append,List.mem_map,List.mem_map] at h;rcases h with ⟨c,hc,e⟩|⟨c,hc,e⟩
 ·
  rw[List.mem_filter,List.mem_range] at hc;exact .inl ⟨c,e.symm,hc.1,hc.2,by omega⟩
 ·
  rw[List.mem_filter,List.mem_range] at hc;refine .inr ⟨c,e.symm,hc.1,fun h=>?_,by omega⟩;rw[h] at hc;simp at hc
theorem IB {AA:List (List Dd)}{es:List Ev}(hb:AO AA=true){quick:Bool}{b x:Bd}(h:x∈Bi AA es quick b):
  (quick=true/\∃c,c<AA.length/\BU AA b c=true/\x=BE AA es b c)\/(quick=false/\∃s,Hf (Ah AA b) s=true/\x=Al AA es b s):=by
 unfold Bi at h;rw[List.mem_map] at h;obtain⟨s,hs,e⟩:=h;rw[List.mem_filter] at hs
 cases quick with
 |true=>
  rw[if_pos rfl] at e;rcases Lj hs.1 (Cz hb) with ⟨c,ec,h1,h2,_⟩|⟨c,ec,h1,h2,h3⟩
  ·
   refine .inl ⟨rfl,c,h1,h2,?_⟩;rw[<-e,ec,Int.toNat_natCast]
  ·
   have:=hs.2;rw[decide_eq_true h3] at this;simp at this
 |false=>
  rw[if_neg (by simp)] at e;exact .inr ⟨rfl,s,Gi hs.1,e.symm⟩
theorem Az {AA:List (List Dd)}(hb:AO AA=true){quick:Bool}{b:Bd}(h:Bn AA quick b):∃a τ T z,MI AA b a τ T z/\BD AA a/\(quick=true->QI AA b a τ T z):=by
 induction h with
 |new=>exact⟨_,_,_,_,(Kk hb).1,(Kk hb).2,fun _=>X4 hb⟩
 |step hr hx ih=>
  obtain⟨a,τ,T,z,M,B,Q⟩:=ih;rcases IB hb hx with ⟨hq,c,hc,hcan,rfl⟩|⟨hq,s,hs,rfl⟩
  ·
   obtain⟨a',τ',T',z',Q'⟩:=YL hb (Q hq) hc hcan;exact⟨a',τ',T',z',Q'.mi,Q'.bd,fun _=>Q'⟩
  ·
   obtain⟨a',τ',z',M',B'⟩:=Tf hb M B hs;exact⟨a',τ',T+1,z',M',B',fun h=>by rw[hq] at h;cases h⟩
theorem Rt {AA:List (List Dd)}{es:List Ev}{quick:Bool}{b b':Bd}(h:Dh b b'){x:Bd}(hx:x∈Bi AA es quick b):∃x',x'∈Bi AA es quick b'/\Dh x x':=by
 unfold Bi at hx ⊢;rw[List.mem_map] at hx;obtain⟨s,hs,e⟩:=hx;rw[(JS (AA:=AA) h).1] at hs;refine⟨_,List.mem_map.2 ⟨s,hs,rfl⟩,?_⟩;rw[<-e];split
 . exact Ru h _
 . exact JT h _
structure SI (AA:List (List Dd))(quick:Bool)(S:SS):Prop where
 oe:PH S.ends
 os:PH S.seen
 opn:∀b,b∈S.opn->Bn AA quick b
 ends:∀e,e∈S.ends->∃b,Bn AA quick b/\DN AA b=true/\e=As b
 seen:∀k,k∈S.seen->∃b,Bn AA quick b/\Ck b=k/\(DN AA b=true->As b∈S.ends)/\(DN AA b=false->∀x,x∈Bi AA (AB AA) quick b->Ck x∈S.seen\/x∈S.opn)
 EZ:Ck (CM AA)∈S.seen\/CM AA∈S.opn
theorem qy (AA:List (List Dd))(quick:Bool):SI AA quick { ends:=[],seen:=[],opn:=[CM AA] }:=
 ⟨List.Pairwise.nil,List.Pairwise.nil,fun b hb=>by rw[List.mem_singleton] at hb;rw[hb];exact .new,fun e he=>(by cases he),fun k hk=>(by cases hk),.inr (List.mem_singleton.2 rfl)⟩
theorem Uk {α:Type}{l:List α}{b:α}(h:l.getLast? = some b)(x:α):x∈l↔x∈l.dropLast\/x=b:=by
 obtain⟨l',rfl⟩:=List.getLast?_eq_some_iff.1 h;rw[List.dropLast_concat,List.mem_append,List.mem_singleton]
theorem VB {AA:List (List Dd)}{quick:Bool}{S:SS}(h:SI AA quick S):SI AA quick (Jm AA (AB AA) quick S):=by
 unfold Jm
 cases hl:S.opn.getLast? with
 |none=>exact h
 |some b=>
  have hm:=Uk hl;have hbr:Bn AA quick b:=h.opn b ((hm b).2 (.inr rfl));show SI AA quick (if Qp S.seen (Ck b)=true then _ else _);by_cases hs:Qp S.seen (Ck b)=true
  ·
   rw[if_pos hs];have hk:=(Qq h.os _).1 hs;refine⟨h.oe,h.os,fun x hx=>h.opn x ((hm x).2 (.inl hx)),h.ends,fun k hk'=>?_,?_⟩
   ·
    obtain⟨y,y1,y2,y3,y4⟩:=h.seen k hk';refine⟨y,y1,y2,y3,fun he x hx=>?_⟩;rcases y4 he x hx with g|g
    . exact .inl g
    ·
     rcases (hm x).1 g with g|g
     . exact .inr g
     . exact .inl (by rw[g];exact hk)
   ·
    rcases h.EZ with g|g
    . exact .inl g
    ·
     rcases (hm _).1 g with g|g
     . exact .inr g
     . exact .inl (by rw[g];exact hk)
  ·
   rw[if_neg hs];have hp:=WL S.seen h.os (Ck b);by_cases he:DN AA b=true
   ·
    rw[if_pos he];have hpe:=WL S.ends h.oe (As b);refine⟨Q9 h.oe _,Q9 h.os _,fun x hx=>h.opn x ((hm x).2 (.inl hx)),fun e hx=>?_,fun k hk'=>?_,?_⟩
    ·
     rcases (hpe e).1 hx with g|g
     . exact h.ends e g
     . exact⟨b,hbr,he,g⟩
    ·
     rcases (hp k).1 hk' with g|g
     ·
      obtain⟨y,y1,y2,y3,y4⟩:=h.seen k g;refine⟨y,y1,y2,fun he=>(hpe _).2 (.inl (y3 he)),fun he x hx=>?_⟩;rcases y4 he x hx with g|g
      . exact .inl ((hp _).2 (.inl g))
      ·
       rcases (hm x).1 g with g|g
       . exact .inr g
       . exact .inl ((hp _).2 (.inr (by rw[g])))
     . exact⟨b,hbr,g.symm,fun _=>(hpe _).2 (.inr rfl),fun h'=>by rw[he] at h';cases h'⟩
    ·
     rcases h.EZ with g|g
     . exact .inl ((hp _).2 (.inl g))
     ·
      rcases (hm _).1 g with g|g
      . exact .inr g
      . exact .inl ((hp _).2 (.inr (by rw[g])))
   ·
    rw[if_neg he];refine⟨h.oe,Q9 h.os _,fun x hx=>?_,h.ends,fun k hk'=>?_,?_⟩
    ·
     rcases List.mem_append.1 hx with g|g
     . exact h.opn x ((hm x).2 (.inl g))
     . exact .step hbr g
    ·
     rcases (hp k).1 hk' with g|g
     ·
      obtain⟨y,y1,y2,y3,y4⟩:=h.seen k g;refine⟨y,y1,y2,y3,fun he x hx=>?_⟩;rcases y4 he x hx with g|g
      . exact .inl ((hp _).2 (.inl g))
      ·
       rcases (hm x).1 g with g|g
       . exact .inr (List.mem_append_left _ g)
       . exact .inl ((hp _).2 (.inr (by rw[g])))
     . exact⟨b,hbr,g.symm,fun h'=>absurd h' he,fun _ x hx => .inr (List.mem_append_right _ hx)⟩
    ·
     rcases h.EZ with g|g
     . exact .inl ((hp _).2 (.inl g))
     ·
      rcases (hm _).1 g with g|g
      . exact .inr (List.mem_append_left _ g)
      . exact .inl ((hp _).2 (.inr (by rw[g])))
def Hh (AA:List (List Dd))(quick:Bool)(l:List (List Int)):Prop:=PH l/\∀x,x∈l↔∃b,Bn AA quick b/\DN AA b=true/\x=As b
theorem Zm {AA:List (List Dd)}{quick:Bool}{l l':List (List Int)}(h:Hh AA quick l)(h':Hh AA quick l'):l=l':=kM h.1 h'.1 (fun x=>by rw[h.2,h'.2])
theorem UT {AA:List (List Dd)}{es:List Ev}{quick:Bool}{b x:Bd}(hx:x∈Bi AA es quick b):DN AA b=false:=by
 cases he:DN AA b with
 |false=>rfl
 |true=>
  unfold Bi at hx;rw[UU he] at hx;cases hx
theorem TV {AA:List (List Dd)}(hb:AO AA=true){quick:Bool}{S:SS}(h:SI AA quick S)(h0:S.opn=[]):Hh AA quick S.ends:=by
 have all:∀b,Bn AA quick b->Ck b∈S.seen:=by
  intro b hr
  induction hr with
  |new=>
   rcases h.EZ with g|g
   . exact g
   . rw[h0] at g;cases g
  | @step b x hr hx ih=>
   obtain⟨y,y1,y2,y3,y4⟩:=h.seen _ ih;obtain⟨a,_,_,_,M,_⟩:=Az hb hr;obtain⟨a',_,_,_,M',_⟩:=Az hb y1;have al:=Lf M.Bt M'.Bt y2.symm;obtain⟨x',hx',ax⟩:=Rt al hx;have:=y4 (UT hx') x' hx';rw[h0] at this;rw[(JS (AA:=AA) ax).2.2.1];exact this.resolve_right (by simp)
 refine⟨h.oe,fun x=>⟨h.ends x,?_⟩⟩;rintro⟨b,hr,he,rfl⟩;obtain⟨y,y1,y2,y3,y4⟩:=h.seen _ (all b hr);obtain⟨a,_,_,_,M,_⟩:=Az hb hr;obtain⟨a',_,_,_,M',_⟩:=Az hb y1;have al:=JS (AA:=AA) (Lf M.Bt M'.Bt y2.symm);rw[al.2.2.2];exact y3 (by rw[<-al.2.1];exact he)
theorem dm {AA:List (List Dd)}{b:Bd}{a:Ab}(R:Y8 AA b a):LN AA b/\∀c,0<=b.AK.getD c 0:=by
 refine⟨⟨by rw[R.AK];simp,by rw[R.AG];simp⟩,fun c=>?_⟩;by_cases hc:c<AA.length
 . rw[(D3 R hc).1];exact Int.natCast_nonneg _
 ·
  rw[List.getD_eq_getElem?_getD,List.getElem?_eq_none (by rw[R.AK];simp;omega)];exact Int.le_refl _
theorem X0 {AA:List (List Dd)}(hb:AO AA=true){es:List Ev}{b:Bd}(hL:LN AA b)(h0:∀c,0<=b.AK.getD c 0){c:Nat}(hc:c<AA.length)(hcan:BU AA b c=true):Df AA (BE AA es b c)+1<=Df AA b:=by
 obtain⟨m1,m2,m3⟩:=Hz hb (es:=es) hL h0 (TC hc hcan);unfold BE;split
 . exact m1
 ·
  rename_i hne;have:=Hz hb (es:=es) m2 m3 (Uy hc (fun h=>hne (by rw[h];rfl)));omega
theorem Ik {AA:List (List Dd)}(hb:AO AA=true){quick:Bool}{b x:Bd}(hr:Bn AA quick b)(hx:x∈Bi AA (AB AA) quick b):Df AA x+1<=Df AA b:=by
 obtain⟨a,_,_,_,M,_⟩:=Az hb hr;obtain⟨hL,h0⟩:=dm M.Bt;rcases IB hb hx with ⟨_,c,hc,hcan,rfl⟩|⟨_,s,hs,rfl⟩
 . exact X0 hb hL h0 hc hcan
 . exact (Hz hb hL h0 hs).1
theorem Ij {AA:List (List Dd)}(hb:AO AA=true){es:List Ev}{quick:Bool}{b:Bd}:(Bi AA es quick b).length<=6:=by
 have hl3:=Cz hb;unfold Bi;rw[List.length_map];refine Nat.le_trans (List.length_filter_le _ _) ?_;unfold Ah;rw[List.length_append,List.length_map,List.length_map];have h1:=List.length_filter_le (BU AA b) (List.range AA.length);have h2:=List.length_filter_le (fun c=>!(b.AG.getD c []).isEmpty) (List.range AA.length);rw[List.length_range] at h1 h2;omega
def Jv (AA:List (List Dd))(l:List Bd):Nat:=(l.map (fun b=>7 ^ Df AA b)).sum
theorem QP (AA:List (List Dd))(a b:List Bd):Jv AA (a++b)=Jv AA a+Jv AA b:=by
 unfold Jv;rw[List.map_append,List.sum_append]
theorem Ts {AA:List (List Dd)}{w:Nat}:∀l:List Bd,(∀x,x∈l->7 ^ Df AA x<=w)->Jv AA l<=l.length*w
 | [],_=>by unfold Jv;simp
 |x::l,h=>by
  have h1:=Ts l (fun y hy=>h y (List.mem_cons_of_mem _ hy));have h2:=h x (by simp);have:Jv AA (x::l)=7 ^ Df AA x+Jv AA l:=by unfold Jv;rw[List.map_cons,List.sum_cons]
  rw[this,List.length_cons,Nat.add_mul];omega
theorem bO {AA:List (List Dd)}(hb:AO AA=true){quick:Bool}{b:Bd}(hr:Bn AA quick b):Jv AA (Bi AA (AB AA) quick b)<7 ^ Df AA b:=by
 by_cases hn:Bi AA (AB AA) quick b=[]
 ·
  rw[hn];exact Nat.pow_pos (by omega)
 ·
  obtain⟨x,hx⟩:=List.exists_mem_of_ne_nil _ hn;have h1:=Ik hb hr hx
  have h2:=Ts (AA:=AA) (w:=7 ^ (Df AA b-1)) (Bi AA (AB AA) quick b) (fun y hy=>by
   have:=Ik hb hr hy
   exact Nat.pow_le_pow_right (by omega) (by omega))
  have h3:=Ij hb (es:=AB AA) (quick:=quick) (b:=b)
  have h4:7 ^ Df AA b=7*7 ^ (Df AA b-1):=by
   rw[<-Nat.pow_succ',show (Df AA b-1).succ=Df AA b by omega]
  have h5:0<7 ^ (Df AA b-1):=Nat.pow_pos (by omega);have h6:=Nat.mul_le_mul_right (7 ^ (Df AA b-1)) h3;omega
theorem VN {AA:List (List Dd)}(hb:AO AA=true){quick:Bool}{S:SS}(h:SI AA quick S)(hne:S.opn≠[]):Jv AA (Jm AA (AB AA) quick S).opn<Jv AA S.opn:=by
 unfold Jm
 cases hl:S.opn.getLast? with
 |none=>exact absurd (List.getLast?_eq_none_iff.1 hl) hne
 |some b=>
  obtain⟨l',e⟩:=List.getLast?_eq_some_iff.1 hl;have hbr:Bn AA quick b:=h.opn b (by rw[e];simp);have e1:Jv AA S.opn=Jv AA l'+7 ^ Df AA b:=by rw[e,QP];unfold Jv;simp
  have e2:S.opn.dropLast=l':=by rw[e,List.dropLast_concat]
  have hp:0<7 ^ Df AA b:=Nat.pow_pos (by omega);show Jv AA (if Qp S.seen (Ck b)=true then _ else _:SS).opn<_;split
  ·
   show Jv AA S.opn.dropLast<_;rw[e2,e1];omega
  ·
   split
   ·
    show Jv AA S.opn.dropLast<_;rw[e2,e1];omega
   ·
    show Jv AA (S.opn.dropLast++_)<_;rw[QP,e2,e1];have:=bO hb hbr;omega
def FC (b:Bd):Bd:={ b with AQ:=[],fr:=[],rws:=[] }
def Bm (b b':Bd):Prop:=FC b=FC b'
theorem dh (b:Bd)(c p:Nat):(Ct (FC b) c p).1=(Ct b c p).1:=by
 unfold Ct;show (match (b.AG.getD c []).reverse.find? (fun x:Nt=>x.1==(p:Int)) with|some x=>x.2|none=>(b.AM.getD p 0,(([]:List Int).getD p 0:Int))).1=_;cases (b.AG.getD c []).reverse.find? (fun x:Nt=>x.1==(p:Int))<;>rfl
theorem UK (AA:List (List Dd))(es:List Ev)(b:Bd)(c k:Nat):FC (BH AA es (FC b) c k)=FC (BH AA es b c k):=by
 unfold BH;split
 ·
  have h:=dh b c (Ak AA c k).2.1.toNat;unfold FY;show ({ AM:=b.AM,AQ:=[],AG:=b.AG,AK:=b.AK,sn:=Gr _ _ (Ct (FC b) c _).1 b.sn,fr:=[],rws:=[] }:Bd)=_;rw[h];rfl
 ·
  split
  . rfl
  ·
   split
   . rfl
   . split<;>rfl
theorem PM (AA:List (List Dd))(es:List Ev)(b:Bd)(c:Nat):FC (Ai AA es (FC b) c)=FC (Ai AA es b c):=by
 have h:=UK AA es b c (Ap b c);have e:Ap (FC b) c=Ap b c:=rfl;unfold Ai;rw[e];simp only[FC] at h ⊢;injection h with h1 h2 h3 h4 h5;rw[h1,h3,h5]
theorem UI {AA:List (List Dd)}{es:List Ev}{b b':Bd}(h:Bm b b')(c:Nat):Bm (Ai AA es b c) (Ai AA es b' c):=by
 unfold Bm at h ⊢;rw[<-PM,h,PM]
theorem D4 {b b':Bd}(h:Bm b b'):b.AK=b'.AK/\b.AG=b'.AG/\b.sn=b'.sn/\b.AM=b'.AM:=by
 unfold Bm FC at h;injection h with h1 h2 h3 h4 h5;exact⟨h4,h3,h5,h1⟩
theorem Wt {b b':Bd}(h1:b.AK=b'.AK)(h2:b.AG=b'.AG)(h3:b.sn=b'.sn)(h4:b.AM=b'.AM):Bm b b':=by
 unfold Bm FC;rw[h1,h2,h3,h4]
theorem Bm.symm {b b':Bd}(h:Bm b b'):Bm b' b:=Eq.symm h
theorem Bm.trans {b b' c:Bd}(h:Bm b b')(k:Bm b' c):Bm b c:=Eq.trans h k
theorem PL {AA:List (List Dd)}{es:List Ev}(g:Int)(c:Nat):∀(m:Nat) (b b':Bd),Bm b b'->Bm (Ea AA es g c m b) (Ea AA es g c m b')
 | 0,_,_,h=>h
 |m+1,b,b',h=>by
  have h1:=UI (AA:=AA) (es:=es) h c;have e:Ap (Ai AA es b c) c=Ap (Ai AA es b' c) c:=by unfold Ap;rw[(D4 h1).1]
  rw[Ea,Ea,e];split
  . exact h1
  . exact PL g c m _ _ h1
theorem QT {b b':Bd}(h:Bm b b')(c:Nat):Bm (BA b c) (BA b' c):=by
 obtain⟨h1,h2,h3,h4⟩:=D4 h;unfold BA;rw[h2];split
 . exact h
 ·
  unfold Bm FC Dq;simp only;rw[h1,h3,h4]
theorem Hl {AA:List (List Dd)}{es:List Ev}{b b':Bd}(h:Bm b b')(s:Int):Bm (Al AA es b s) (Al AA es b' s):=by
 unfold Al;have e:Ap b s.toNat=Ap b' s.toNat:=by unfold Ap;rw[(D4 h).1]
 split
 . exact QT h _
 . rw[e];exact PL _ _ _ _ _ h
theorem QU {AA:List (List Dd)}{es:List Ev}{b b':Bd}(h:Bm b b')(c:Nat):Bm (BE AA es b c) (BE AA es b' c):=by
 have h1:=Hl (AA:=AA) (es:=es) h (c:Int);unfold BE;rw[(D4 h1).2.1];split
 . exact h1
 . exact Hl h1 _
theorem Hk {AA:List (List Dd)}{b b':Bd}(h:Bm b b'):Ah AA b=Ah AA b'/\BU AA b=BU AA b'/\DN AA b=DN AA b'/\As b=As b':=by
 obtain⟨h1,h2,h3,h4⟩:=D4 h;have hn:∀c,Ap b c=Ap b' c:=fun c=>by unfold Ap;rw[h1]
 have hc:BU AA b=BU AA b':=by funext c;unfold BU;rw[hn,h2]
 refine⟨?_,hc,?_,?_⟩
 ·
  unfold Ah;rw[hc,h2]
 ·
  unfold DN;rw[h2]
  congr 1
  funext c;rw[hn]
 . unfold As;rw[h3,h4]
theorem Gu:∀ {l' l:List Nat},l'.Pairwise (·<·)->l.Pairwise (·<·)->(∀x∈l',x∈l)->l'.Sublist l
 | [],_,_,_,_=>List.nil_sublist _
 |y::r',[],_,_,h=>by cases h y (by simp)
 |y::r',x::r,h',h,hs=>by
  obtain⟨a1,a2⟩:=List.pairwise_cons.1 h';obtain⟨b1,b2⟩:=List.pairwise_cons.1 h;by_cases e:y=x
  ·
   subst e;refine (Gu a2 b2 (fun z hz=>?_)).cons_cons y;rcases List.mem_cons.1 (hs z (List.mem_cons_of_mem _ hz)) with q|q
   . have:=a1 z hz;omega
   . exact q
  ·
   have hy:y∈r:=by
    rcases List.mem_cons.1 (hs y (by simp)) with q|q
    . exact absurd q e
    . exact q
   have hxy:=b1 y hy;refine (Gu h' b2 (fun z hz=>?_)).cons x;rcases List.mem_cons.1 (hs z hz) with q|q
   ·
    rcases List.mem_cons.1 hz with q2|q2
    . exact q2 ▸ hy
    . have:=a1 z q2;omega
   . exact q
theorem S7 {AA:List (List Dd)}{b b':Bd}{a a':Ab}{τ τ':Nat->Nat}{T T':Nat}{z z':Int}(M:MI AA b a τ T z)(M':MI AA b' a' τ' T' z'){c:Nat}(hn:a.nx c=a'.nx c){x y:Nat}(hx:x∈a.N c)(hy:y∈a'.N c)(hxy:x<=y):y∈a.N c:=by
 rcases Nat.lt_or_ge x y with h|h
 ·
  have hy':=M'.inv.note (c:Int) y (by rw[Hc];exact hy);obtain⟨⟨q1,q2⟩,q3,q4,q5⟩:=hy';have hck:((AB AA).getD y zE).1=(c:Int):=q4
  have hX:(Cm AA a τ).X y:=by
   refine⟨q1,?_⟩;unfold EL at q2 ⊢;rw[hck,Int.toNat_natCast] at q2 ⊢;rw[hn];exact q2
  have hx':x∈(Cm AA a τ).N (c:Int):=by rw[Hc];exact hx
  rcases M.inv.pend (c:Int) x y hx' hX h q4 with q|q
  . rw[q5] at q;cases q.1
  . rwa [Hc] at q
 ·
  have:x=y:=by omega
  exact this ▸ hx
theorem X7 {AA:List (List Dd)}{b b':Bd}{a a':Ab}{τ τ':Nat->Nat}{T T':Nat}{z z':Int}(M:MI AA b a τ T z)(M':MI AA b' a' τ' T' z'){c:Nat}(hn:a.nx c=a'.nx c)(hl:(a.N c).length=(a'.N c).length):a.N c=a'.N c:=by
 have s:=M.inv.Lh (c:Int);have s':=M'.inv.Lh (c:Int);rw[Hc] at s s';have up:=fun {x y}=>@S7 AA b b' a a' τ τ' T T' z z' M M' c hn x y
 have up':=fun {x y}=>@S7 AA b' b a' a τ' τ T' T z' z M' M c hn.symm x y
 generalize a.N c=l at *;generalize a'.N c=l' at *
 cases l with
 |nil=>exact (List.eq_nil_of_length_eq_zero hl.symm).symm
 |cons x r=>
  cases l' with
  |nil=>cases hl
  |cons y r'=>
   obtain⟨a1,a2⟩:=List.pairwise_cons.1 s;obtain⟨b1,b2⟩:=List.pairwise_cons.1 s';rcases Nat.le_total x y with h|h
   ·
    refine ((Gu s' s (fun v hv=>up (List.mem_cons_self) hv ?_)).eq_of_length hl.symm).symm;rcases List.mem_cons.1 hv with q|q
    . omega
    . have:=b1 v q;omega
   ·
    refine (Gu s s' (fun v hv=>up' (List.mem_cons_self) hv ?_)).eq_of_length hl;rcases List.mem_cons.1 hv with q|q
    . omega
    . have:=a1 v q;omega
def Bl (b b':Bd):Prop:=b.AM=b'.AM/\b.AK=b'.AK/\b.AG.map List.length=b'.AG.map List.length/\b.sn=b'.sn
theorem Bm.stand {b b':Bd}(h:Bm b b'):Bl b b':=by
 obtain⟨h1,h2,h3,h4⟩:=D4 h;exact⟨h4,h1,by rw[h2],h3⟩
theorem Td {AA:List (List Dd)}(hb:AO AA=true){quick quick':Bool}{b b':Bd}(h:Bn AA quick b)(h':Bn AA quick' b')(hs:Bl b b'):Bm b b':=by
 obtain⟨a,τ,T,z,M,-⟩:=Az hb h;obtain⟨a',τ',T',z',M',-⟩:=Az hb h';obtain⟨s1,s2,s3,s4⟩:=hs;refine Wt s2 ?_ s4 s1
 have hn:∀c,c<AA.length->a.nx c=a'.nx c:=fun c hc=>by
  have e:b.AK.getD c 0=b'.AK.getD c 0:=by rw[s2]
  rw[(D3 M.Bt hc).1,(D3 M'.Bt hc).1] at e;omega
 rw[M.Bt.AG,M'.Bt.AG] at s3 ⊢;refine List.map_congr_left (fun c hc=>?_);have hc':=List.mem_range.1 hc;rw[List.map_map,List.map_map] at s3;have e:=congrArg (fun l:List Nat=>l.getD c 0) s3;have e1:=Cq (List.length ∘ fun c=>(a.N c).map (X8 AA)) 0 hc';have e2:=Cq (List.length ∘ fun c=>(a'.N c).map (X8 AA)) 0 hc';have e:=e1.symm.trans (e.trans e2);simp only[Function.comp_apply,List.length_map] at e;rw[X7 M M' (hn c hc') e]
def Wz (AA:List (List Dd))(c:Nat):Nat->Bool
 | 0=>true
 |k+1=>decide (BS AA c (k+1)=0) || !decide (BS AA c k=BS AA c (k+1))
theorem PP (AA:List (List Dd))(c k:Nat):Wz AA c (k+1)=(decide (BS AA c (k+1)=0) || !decide (BS AA c k=BS AA c (k+1))):=rfl
def R6 (AA:List (List Dd))(c:Nat):Nat->Nat
 | 0=>0
 |k+1=>R6 AA c k+if Wz AA c k=true then 1 else 0
def mD (AA:List (List Dd))(c:Nat):Nat->Nat
 | 0=>0
 |k+1=>mD AA c k+if (Ak AA c k).1=2/\¬ 0<BS AA c k then 1 else 0
def G8 (b:Bd)(c:Nat):Nat:=(b.AG.getD c []).length
def fZ (AA:List (List Dd))(quick:Bool)(b:Bd)(c:Nat):Int:=(R6 AA c (Ap b c):Int)+if quick=true then 0 else (mD AA c (Ap b c):Int)-(G8 b c:Int)
def LC (f:Nat->Int):Nat->Int
 | 0=>0
 |m+1=>LC f m+f m
theorem I3 {f g:Nat->Int}:∀m:Nat,(∀c,c<m->f c=g c)->LC f m=LC g m
 | 0,_=>rfl
 |m+1,h=>by rw[LC,LC,I3 m (fun c hc=>h c (by omega)),h m (by omega)]
theorem Lr {f g:Nat->Int}{c:Nat}(h1:f c=g c+1)(h2:∀c',c'≠c->f c'=g c'):∀m:Nat,c<m->LC f m=LC g m+1
 | 0,h=>by omega
 |m+1,h=>by
  rw[LC,LC];by_cases e:c=m
  ·
   subst e;rw[I3 c (fun c' hc=>h2 c' (by omega)),h1];omega
  ·
   have:=Lr h1 h2 m (by omega);rw[h2 m (fun h=>e h.symm),this];omega
def iG (AA:List (List Dd))(quick:Bool)(b:Bd):Int:=LC (fZ AA quick b) AA.length
def Rk (AA:List (List Dd))(b:Bd):Prop:=∀c,c<AA.length->Ap b c<(AA.getD c []).length->Wz AA c (Ap b c)=true
theorem bV {AA:List (List Dd)}{es:List Ev}{b:Bd}(hL:LN AA b){c:Nat}(hc:c<AA.length):(∀c',c'≠c->(Ai AA es b c).AG.getD c' []=b.AG.getD c' [])/\G8 (Ai AA es b c) c=G8 b c+if (Ak AA c (Ap b c)).1=2/\¬ 0<BS AA c (Ap b c) then 1 else 0:=by
 have e:(Ai AA es b c).AG=(BH AA es b c (Ap b c)).AG:=rfl;unfold G8;rw[e];unfold BH;by_cases h1:(Ak AA c (Ap b c)).1=1
 . rw[if_pos h1,if_neg (by omega)];exact⟨fun _ _=>rfl,rfl⟩
 ·
  rw[if_neg h1];by_cases h3:(Ak AA c (Ap b c)).1=3
  . rw[if_pos h3,if_neg (by omega)];exact⟨fun _ _=>rfl,rfl⟩
  ·
   rw[if_neg h3];by_cases h2:(Ak AA c (Ap b c)).1=2/\0<BS AA c (Ap b c)
   . rw[if_pos h2,if_neg (fun h=>h.2 h2.2)];exact⟨fun _ _=>rfl,rfl⟩
   ·
    rw[if_neg h2];by_cases h4:(Ak AA c (Ap b c)).1=2
    ·
     rw[if_pos h4,if_pos ⟨h4,fun h=>h2 ⟨h4,h⟩⟩];refine⟨fun c' h=>?_,?_⟩
     . rw[show ({ b with AG:=b.AG.set c _ }:Bd).AG=b.AG.set c _ from rfl,C1 _ _ _ _ _ (by rw[hL.2];exact hc),if_neg (fun h2=>h h2.symm)]
     . rw[show ({ b with AG:=b.AG.set c _ }:Bd).AG=b.AG.set c _ from rfl,C1 _ _ _ _ _ (by rw[hL.2];exact hc),if_pos rfl,List.length_append];rfl
    . rw[if_neg h4,if_neg (fun h=>h4 h.1)];exact⟨fun _ _=>rfl,rfl⟩
structure Wk (AA:List (List Dd))(c:Nat)(b b':Bd):Prop where
 Yo:∀c',c'≠c->Ap b' c'=Ap b c'/\b'.AG.getD c' []=b.AG.getD c' []
 wr:(mD AA c (Ap b' c):Int)-(G8 b' c:Int)=(mD AA c (Ap b c):Int)-(G8 b c:Int)
 bl:R6 AA c (Ap b' c)=R6 AA c (Ap b c+1)
 lt:Ap b c<Ap b' c
 EZ:Ap b' c<(AA.getD c []).length->Wz AA c (Ap b' c)=true
theorem WT {AA:List (List Dd)}{es:List Ev}(g:Int){c:Nat}(hc:c<AA.length):∀(m:Nat) (b:Bd),LN AA b->(∀c,0<=b.AK.getD c 0)->1<=m->Ap b c<(AA.getD c []).length->(AA.getD c []).length<=Ap b c+m->BS AA c (Ap b c)=g ->
  Wk AA c b (Ea AA es g c m b)
 | 0,_,_,_,h,_,_,_=>by omega
 |m+1,b,hL,h0,_,hk,hm,hg=>by
  obtain⟨-,q1,q2⟩:=Vx (es:=es) hL h0 hc hk;have hn:=(Us (es:=es) hL h0 hc).1;have hnc:=hn c;rw[if_pos rfl] at hnc;obtain⟨n1,n2⟩:=bV (es:=es) hL hc
  have wr1:(mD AA c (Ap (Ai AA es b c) c):Int)-(G8 (Ai AA es b c) c:Int)=(mD AA c (Ap b c):Int)-(G8 b c:Int):=by
   rw[hnc,mD,n2];split<;>omega
  have qh:∀c',c'≠c->Ap (Ai AA es b c) c'=Ap b c'/\(Ai AA es b c).AG.getD c' []=b.AG.getD c' []:=fun c' h=>⟨by rw[hn,if_neg (fun e=>h e.symm)],n1 c' h⟩
  rw[Ea];split
  ·
   rename_i hs;refine⟨qh,wr1,by rw[hnc],by omega,fun hlt=>?_⟩;rw[hnc] at hlt hs ⊢;rw[PP];rcases hs with hs|hs|hs
   ·
    by_cases e:BS AA c (Ap b c+1)=0
    . simp[e]
    ·
     rw[hg,hs];have:¬(0:Int)=BS AA c (Ap b c+1):=fun h=>e h.symm
     simp[this]
   . omega
   ·
    rw[hg];have:¬g=BS AA c (Ap b c+1):=fun h=>hs h.symm
    simp[this]
  ·
   rename_i hs;have hs0:¬g=0:=fun h=>hs (.inl h)
   have hs1:¬Ap (Ai AA es b c) c=(AA.getD c []).length:=fun h=>hs (.inr (.inl h))
   have hs2:BS AA c (Ap (Ai AA es b c) c)=g:=by
    by_cases e:BS AA c (Ap (Ai AA es b c) c)=g
    . exact e
    . exact absurd (.inr (.inr e)) hs
   have S:=WT (es:=es) g hc m (Ai AA es b c) q1 q2 (by omega) (by omega) (by omega) hs2;refine⟨fun c' h=>⟨(S.Yo c' h).1.trans (qh c' h).1,(S.Yo c' h).2.trans (qh c' h).2⟩,S.wr.trans wr1,?_,by have:=S.lt;omega,S.EZ⟩;rw[S.bl,hnc,R6]
   have hnb:Wz AA c (Ap b c+1)=false:=by
    rw[PP];rw[hnc] at hs2;rw[hg,hs2];simp[hs0]
   rw[hnb];simp
theorem Tg {AA:List (List Dd)}{es:List Ev}{b:Bd}(hL:LN AA b)(h0:∀c,0<=b.AK.getD c 0){c:Nat}(hl3:AA.length<=3)(hc:c<AA.length)(hk:Ap b c<(AA.getD c []).length):Wk AA c b (Al AA es b (c:Int)):=by
 unfold Al;rw[if_neg (by omega),show (c:Int).toNat=c from Int.toNat_natCast c];exact WT _ hc _ b hL h0 (by omega) hk (by omega) rfl
theorem PY {AA:List (List Dd)}{b:Bd}(hL:LN AA b){c:Nat}(hc:c<AA.length):(BA b c).AK=b.AK/\(∀c',c'≠c->(BA b c).AG.getD c' []=b.AG.getD c' [])/\(b.AG.getD c []≠[]->G8 b c=G8 (BA b c) c+1):=by
 unfold BA G8
 cases hq:b.AG.getD c [] with
 |nil=>exact⟨rfl,fun _ _=>rfl,fun h=>absurd rfl h⟩
 |cons x r=>
  have e:∀c',(b.AG.set c r).getD c' []=if c=c' then r else b.AG.getD c' []:=fun c'=>C1 _ _ _ _ _ (by rw[hL.2];exact hc)
  refine⟨rfl,fun c' h=>?_,fun _=>?_⟩
  ·
   show (b.AG.set c r).getD c' []=_;rw[e,if_neg (fun h2=>h h2.symm)]
  ·
   show (x::r).length=((b.AG.set c r).getD c []).length+1;rw[e,if_pos rfl];rfl
theorem S8 {b b':Bd}(h:b'.AK=b.AK)(c:Nat):Ap b' c=Ap b c:=by unfold Ap;rw[h]
theorem Wk.tm {AA:List (List Dd)}{quick:Bool}{c:Nat}{b b':Bd}(S:Wk AA c b b')(hc:c<AA.length)(hb:Wz AA c (Ap b c)=true):iG AA quick b'=iG AA quick b+1:=by
 refine Lr (c:=c) ?_ (fun c' h=>?_) _ hc
 ·
  unfold fZ;rw[S.bl,R6,hb,if_pos rfl];have:=S.wr;cases quick
  . simp only[Bool.false_eq_true,if_false];omega
  . simp only[if_true];omega
 ·
  unfold fZ G8;rw[(S.Yo c' h).1,(S.Yo c' h).2]
theorem Wk.atb {AA:List (List Dd)}{c:Nat}{b b':Bd}(S:Wk AA c b b')(h:Rk AA b):Rk AA b':=by
 intro c' hc' hk;by_cases e:c'=c
 . subst e;exact S.EZ hk
 . rw[(S.Yo c' e).1] at hk ⊢;exact h c' hc' hk
theorem V7 {AA:List (List Dd)}(hb:AO AA=true){quick:Bool}{b x:Bd}(hr:Bn AA quick b)(ha:Rk AA b)(hx:x∈Bi AA (AB AA) quick b):iG AA quick x=iG AA quick b+1/\Rk AA x:=by
 obtain⟨a,_,_,_,M,_⟩:=Az hb hr;obtain⟨hL,h0⟩:=dm M.Bt;have hl3:=Cz hb
 have can:∀c,c<AA.length->BU AA b c=true->Ap b c<(AA.getD c []).length:=fun c _ h=>by
  unfold BU at h;simp only[Bool.and_eq_true,decide_eq_true_eq] at h;exact h.1
 rcases IB hb hx with ⟨hq,c,hc,hcan,rfl⟩|⟨hq,s,hs,rfl⟩
 ·
  have hk:=can c hc hcan;have S:=Tg (es:=AB AA) hL h0 hl3 hc hk;obtain⟨-,m2,-⟩:=Hz hb (es:=AB AA) hL h0 (TC hc hcan);subst hq;have t1:=S.tm (quick:=true) hc (ha c hc hk);have t2:=S.atb ha;unfold BE;split
  . exact⟨t1,t2⟩
  ·
   have e10:Al AA (AB AA) (Al AA (AB AA) b (c:Int)) (10+(c:Int))=BA (Al AA (AB AA) b (c:Int)) c:=by
    rw[Al,if_pos (by omega),show (10+(c:Int)-10).toNat=c by omega]
   rw[e10];generalize Al AA (AB AA) b (c:Int)=y at *;obtain⟨f1,-,-⟩:=PY m2 hc;refine⟨?_,fun c' hc' hk'=>?_⟩
   ·
    rw[<-t1];refine I3 _ (fun c' _=>?_);unfold fZ;rw[S8 f1];rfl
   . rw[S8 f1] at hk' ⊢;exact t2 c' hc' hk'
 ·
  subst hq;rcases Lj (Ie hs) hl3 with ⟨c,rfl,hc,hcan,_⟩|⟨c,rfl,hc,hne,_⟩
  ·
   have hk:=can c hc hcan;have S:=Tg (es:=AB AA) hL h0 hl3 hc hk;exact⟨S.tm hc (ha c hc hk),S.atb ha⟩
  ·
   have e10:Al AA (AB AA) b (10+(c:Int))=BA b c:=by
    rw[Al,if_pos (by omega),show (10+(c:Int)-10).toNat=c by omega]
   rw[e10];obtain⟨f1,f2,f3⟩:=PY hL hc;refine⟨Lr (c:=c) ?_ (fun c' h=>?_) _ hc,fun c' hc' hk'=>?_⟩
   ·
    unfold fZ;rw[S8 f1];have:=f3 hne;simp only[Bool.false_eq_true,if_false];omega
   ·
    unfold fZ G8;rw[S8 f1,f2 c' h]
   . rw[S8 f1] at hk' ⊢;exact ha c' hc' hk'
theorem TM {AA:List (List Dd)}(hb:AO AA=true){quick:Bool}{b:Bd}(h:Bn AA quick b):Rk AA b/\∃n:Nat,iG AA quick b=(n:Int)/\n+Df AA b<=24:=by
 induction h with
 |new=>
  have h0:∀c',Ap (CM AA) c'=0:=fun c'=>by
   have:(CM AA).AK.getD c' 0=0:=by
    show (List.replicate AA.length (0:Int)).getD c' 0=0;rw[List.getD_eq_getElem?_getD,List.getElem?_replicate];split<;>rfl
   unfold Ap;rw[this];rfl
  have h1:∀c',G8 (CM AA) c'=0:=fun c'=>by
   unfold G8;show ((List.replicate AA.length ([]:List Nt)).getD c' []).length=0;rw[List.getD_eq_getElem?_getD,List.getElem?_replicate];split<;>rfl
  refine⟨fun c _ _=>by rw[h0];rfl,0,?_,by have:=(Ke hb).1;omega⟩
  have:∀m,LC (fZ AA quick (CM AA)) m=0:=by
   intro m
   induction m with
   |zero=>rfl
   |succ m ih=>
    rw[LC,ih];unfold fZ;rw[h0,h1,R6,mD];simp
  exact this _
 |step hr hx ih=>
  obtain⟨ha,n,hn,hm⟩:=ih;obtain⟨q1,q2⟩:=V7 hb hr ha hx;have:=Ik hb hr hx;exact⟨q2,n+1,by rw[q1,hn];omega,by omega⟩
theorem fJ {AA:List (List Dd)}{quick:Bool}{b b':Bd}(h:Bm b b'):iG AA quick b=iG AA quick b':=by
 obtain⟨h1,h2,_,_⟩:=D4 h;refine I3 _ (fun c _=>?_);unfold fZ G8 Ap;rw[h1,h2]
def G4 (l:List Int)(lo hi:Int)(most:Nat):Bool:=l.all (fun x=>decide (lo<=x)&&decide (x<=hi))&&decide (l.length<=most)
def qZ (n:Int)(x:Nt):Bool:=(decide (0<=x.1)&&decide (x.1<=2))&&((decide (0<=x.2.1)&&decide (x.2.1<=9))&&(decide (0<=x.2.2)&&decide (x.2.2<=n-1)))
def YB (n:Int)(l:List Nt):Bool:=l.all (qZ n)
def UP (AA:List (List Dd))(n:Int)(b:Bd)(i:Nat):Bool:=
 (decide (0<=b.AK.getD i 0)&&decide (b.AK.getD i 0<=((AA.getD i []).length:Int)))&&(decide ((b.AG.getD i []).length<=8)&&YB n (b.AG.getD i []))
def Gs (AA:List (List Dd))(b:Bd):Bool:=
 AO AA&&(decide (b.AM.length=3)&&(decide (b.AQ.length=3)&&(decide (b.rws.length=3)&&(decide (b.AG.length=AA.length)&&decide (b.AK.length=AA.length)))))
def MD (n:Int)(r:Nat)(b:Bd):Bool:=
 decide (b.sn.length=r)&&(decide (b.fr.length=r)&&(G4 b.AM 0 9 3&&(G4 b.AQ 0 (n-1) 3&&(G4 b.sn (-1) 9 12&&G4 b.fr (-1) (n-1) 12))))
def IM (n:Int)(b:Bd):Bool:=(List.range 3).all (fun i=>G4 (b.rws.getD i []) 0 (n-1) 20)
def Ac (AA:List (List Dd))(b:Bd):Bool:=
 Gs AA b&&(MD ((AB AA).length:Int) (AV Ad (AB AA)).length b&&(IM ((AB AA).length:Int) b&&(List.range AA.length).all (fun i=>UP AA ((AB AA).length:Int) b i)))
theorem EX {n k:Nat}{f:Nat->Bool}(hk:k<n)(h:f k=false):(List.range n).all f=false:=by
 rw[List.all_eq_false];exact⟨k,List.mem_range.2 hk,by rw[h];simp⟩
theorem FB {n:Nat}{f:Nat->Bool}(h:∀k,k<n->f k=true):(List.range n).all f=true:=by
 rw[List.all_eq_true];exact fun k hk=>h k (List.mem_range.1 hk)
theorem UN {AA:List (List Dd)}{b:Bd}(h:Ac AA b=true):b.AG.length=AA.length/\b.AK.length=AA.length:=by
 unfold Ac Gs at h;simp only[Bool.and_eq_true,decide_eq_true_eq] at h;exact⟨h.1.2.2.2.2.1,h.1.2.2.2.2.2⟩
theorem KI {AA:List (List Dd)}(hb:AO AA=true){j:Nat}(hj:j<(AB AA).length):(0<=JH AA j/\JH AA j<=9)/\0<=iE AA j/\iE AA j<=2:=by
 by_cases h3:j<3
 ·
  have e:=(KM (AA:=AA) (by simp only[AO,Bool.and_eq_true,decide_eq_true_eq] at hb;intro i hi;have:=List.all_eq_true.1 hb.1.1.1.2 _ (List.getElem_mem hi);rw[List.getD_eq_getElem?_getD,List.getElem?_eq_getElem hi];exact this) AA.length (Nat.le_refl _)).1;obtain⟨t,ht⟩:=e;have e1:AB AA=CU++t:=by rw[AB,if_pos hb,ht]
  unfold JH iE;rw[e1,List.getD_eq_getElem?_getD,List.getElem?_append_left (by simp[CU];omega)];have:j=0\/j=1\/j=2:=by omega
  rcases this with rfl|rfl|rfl<;>simp[CU]
 ·
  obtain⟨c,k,i,E⟩:=GV hb (by omega) hj;have hd:=B8 hb E.hc k E.hk;unfold JH iE;rw[E.at hb];simp only;unfold Ye;have hd':=hd;unfold Ak at hd' ⊢;simp only[FW,D2,decide_eq_true_eq] at hd';split<;>omega
theorem Mh (AA:List (List Dd)):(AB AA).length<=9:=by
 unfold AB;split
 ·
  rename_i h;simp only[AO,Bool.and_eq_true,decide_eq_true_eq] at h;obtain⟨⟨⟨⟨_,h2⟩,_⟩,h4⟩,_⟩:=h;have:=KL (fun i hi=>Bo [] h2 i hi) AA.length (Nat.le_refl _);omega
 . simp
theorem Il {lo n:Nat}:∀ {l:List Nat},l.Nodup->(∀x∈l,lo<=x/\x<n)->l.length<=n-lo:=fun {l} hn h=>by
 have hs:∀x∈l,x∈List.range' lo (n-lo):=fun x hx=>by
  have:=h x hx;rw[List.mem_range'_1];omega
 have:l.length<=(List.range' lo (n-lo)).length:=by
  clear h;generalize List.range' lo (n-lo)=r at hs
  induction l generalizing r with
  |nil=>simp
  |cons x t ih=>
   rw[List.nodup_cons] at hn;have hx:=hs x (by simp);have:=ih hn.2 (r.erase x) (fun y hy=>(List.mem_erase_of_ne (fun e=>hn.1 (by rw[<-e];exact hy))).2 (hs y (by simp[hy])));rw[List.length_erase_of_mem hx] at this;have:0<r.length:=List.length_pos_of_mem hx;simp only[List.length_cons];omega
 simpa using this
theorem Hm {α:Type}(l:List α)(f:α->Int){lo hi:Int}{most:Nat}(h:∀x∈l,lo<=f x/\f x<=hi)(hm:l.length<=most):G4 (l.map f) lo hi most=true:=by
 unfold G4;rw[Bool.and_eq_true,List.all_eq_true,decide_eq_true_eq,List.length_map];refine⟨fun y hy=>?_,hm⟩;obtain⟨x,hx,rfl⟩:=List.mem_map.1 hy;have:=h x hx;simp[this]
theorem H0 {AA:List (List Dd)}(hb:AO AA=true){b:Bd}{a:Ab}{τ:Nat->Nat}{T:Nat}{z:Int}(M:MI AA b a τ T z):Ac AA b=true:=by
 have h9:=Mh AA;have R:=M.Bt;have I:=M.inv
 have hlen3:3<=(AB AA).length:=by
  have:=I.lt 2 (I.EZ 2 (by omega)).1;exact this
 have TS:∀p x,x∈a.R p->x<(AB AA).length:=fun p x hx=>I.lt x ((I.rows p x).1 hx).1.1
 have bQ:∀c x,x∈a.N c->3<=x/\x<(AB AA).length:=fun c x hx=>by
  have hx':x∈(Cm AA a τ).N (c:Int):=by rw[Hc];exact hx
  have:=I.note (c:Int) x hx';exact⟨this.2.1,I.lt x this.1⟩
 have hlast:∀p,p<3->Be a p<(AB AA).length:=fun p hp=>by
  unfold Be
  cases hl:(a.R p).getLast? with
  |none=>show p<_;omega
  |some x=>exact TS p x (List.mem_of_getLast? hl)
 have hF:∀r,r<(AB AA).length->((AB AA).getD r zE).2.2.1=true->EL AA a r=true->a.F r<(AB AA).length:=fun r h1 h2 h3=>I.lt _ (I.src r ⟨h1,h3⟩ h2).1
 have hx12:(AB AA).length<=12:=by omega
 have rl:(AV Ad (AB AA)).length<=12:=by
  unfold AV;rw[if_pos hx12];have:=C9 Ad (AB AA) (AB AA).length;omega
 have xB:∀r∈AV Ad (AB AA),(0<=r/\r<((AB AA).length:Int))/\((AB AA).getD r.toNat zE).2.2.1=true:=fun r hr=>by
  unfold AV at hr;rw[if_pos hx12] at hr;exact⟨EG _ _ _ _ hr,FJ _ _ _ _ hr⟩
 unfold Ac;rw[Bool.and_eq_true,Bool.and_eq_true,Bool.and_eq_true];refine⟨?_,?_,?_,?_⟩
 ·
  unfold Gs;rw[hb,R.AM,R.AQ,R.rws,R.AG,R.AK];simp
 ·
  unfold MD;rw[R.sn,R.fr,R.AM,R.AQ,List.length_map,List.length_map];simp only[decide_true,Bool.true_and,Bool.and_eq_true];refine⟨Hm _ _ (fun p hp=>(KI hb (hlast p (List.mem_range.1 hp))).1) (by simp),Hm _ _ (fun p hp=>by have:=hlast p (List.mem_range.1 hp);omega) (by simp),Hm _ _ (fun r hr=>?_) rl,Hm _ _ (fun r hr=>?_) rl⟩
  ·
   obtain⟨h1,h2⟩:=xB r hr;by_cases hE:EL AA a r.toNat=true
   ·
    rw[if_pos hE];have:=(KI hb (hF r.toNat (by omega) h2 hE)).1;omega
   . rw[if_neg hE];omega
  ·
   obtain⟨h1,h2⟩:=xB r hr;by_cases hE:EL AA a r.toNat=true
   ·
    rw[if_pos hE];have:=hF r.toNat (by omega) h2 hE;omega
   . rw[if_neg hE];omega
 ·
  unfold IM;rw[List.all_eq_true];intro p hp;rw[R.rws,Cq _ _ (List.mem_range.1 hp)];refine Hm _ _ (fun x hx=>by have:=TS p x hx;exact⟨Int.natCast_nonneg _,by show (x:Int)<=_;omega⟩) ?_;have:=Il (lo:=0) (I.Ln p) (fun x hx=>⟨Nat.zero_le _,TS p x hx⟩);have e:(Cm AA a τ).R p=a.R p:=rfl;rw[e] at this;omega
 ·
  rw[List.all_eq_true];intro c hc;have hc:=List.mem_range.1 hc;unfold UP;rw[(D3 R hc).1,R.AG,Cq _ _ hc,List.length_map];have h1:=M.WB c hc
  have hnd:(a.N c).Nodup:=by
   have:=I.Lh (c:Int);rw[Hc] at this;exact this.imp (fun h=>Nat.ne_of_lt h)
  have h2:=Il hnd (bQ c);simp only[Bool.and_eq_true,decide_eq_true_eq];refine⟨⟨by omega,by omega⟩,by omega,?_⟩;unfold YB;rw[List.all_eq_true];intro y hy;obtain⟨x,hx,rfl⟩:=List.mem_map.1 hy;have hn:=bQ c x hx;have:=KI hb hn.2;unfold qZ X8;simp only[Bool.and_eq_true,decide_eq_true_eq];omega
def Yj (es:List Ev)(c k i:Nat):Bool:=((es.getD i zE).1==(c:Int))&&((es.getD i zE).2.1==(k:Int))
theorem jP {es:List Ev}{c k i:Nat}(h3:3<=i)(hi:i<es.length)(hn:∀j,3<=j->j<i->Yj es c k j=false)(h:Yj es c k i=true):LH es c k=(i:Int):=by
 unfold LH
 have e:(List.range es.length).find? (fun i=>decide (3<=i)&&((es.getD i zE).1==(c:Int))&&((es.getD i zE).2.1==(k:Int)))=some i:=by
  rw[List.find?_eq_some_iff_getElem];refine⟨?_,i,by simpa using hi,by simp,fun j hj=>?_⟩
  ·
   unfold Yj at h;rw[Bool.and_assoc,h];simp[h3]
  ·
   simp only[List.getElem_range];by_cases h3:3<=j
   ·
    have:=hn j h3 hj;unfold Yj at this;rw[Bool.and_assoc,this];simp
   . simp[h3]
 rw[e]
theorem Zr {es:List Ev}{c k:Nat}(hn:∀j,3<=j->j<es.length->Yj es c k j=false):LH es c k=-1:=by
 unfold LH
 have e:(List.range es.length).find? (fun i=>decide (3<=i)&&((es.getD i zE).1==(c:Int))&&((es.getD i zE).2.1==(k:Int)))=none:=by
  rw[List.find?_eq_none];intro j hj;by_cases h3:3<=j
  ·
   have:=hn j h3 (List.mem_range.1 hj);unfold Yj at this;rw[Bool.and_assoc,this];simp
  . simp[h3]
 rw[e]
theorem p8 (es:List Ev)(c k:Nat)(h:es.length<=12):-1<=LH es c k/\LH es c k<=12:=by
 unfold LH;split
 ·
  rename_i i e;have:=List.mem_range.1 (List.mem_of_find?_eq_some e);omega
 . omega
def Dg (rs:List Int)(ev v:Int)(l:List Int):Nat->List Int
 | 0=>l
 |k+1=>if decide (rs.getD k 0=ev)=true then (Dg rs ev v l k).set k v else Dg rs ev v l k
theorem IP (rs:List Int)(ev v:Int)(l:List Int):∀k:Nat,(Dg rs ev v l k).length=l.length
 | 0=>rfl
 |k+1=>by rw[Dg];split<;>simp[IP rs ev v l k]
theorem TW {rs:List Int}{ev v:Int}{l:List Int}:∀(k j:Nat),j<l.length->(Dg rs ev v l k)[j]? = if j<k/\rs.getD j 0=ev then some v else l[j]?
 | 0,j,h=>by simp[Dg]
 |k+1,j,h=>by
  have ih:=TW (rs:=rs) (ev:=ev) (v:=v) k j h;rw[Dg];by_cases e:rs.getD k 0=ev
  ·
   rw[if_pos (decide_eq_true e),List.getElem?_set,IP];by_cases ej:k=j
   ·
    subst ej;rw[if_pos rfl,if_pos h,if_pos ⟨by omega,e⟩]
   ·
    rw[if_neg ej,ih];by_cases h1:j<k/\rs.getD j 0=ev
    . rw[if_pos h1,if_pos ⟨by omega,h1.2⟩]
    . rw[if_neg h1,if_neg (fun h2=>h1 ⟨by omega,h2.2⟩)]
  ·
   rw[if_neg (by simpa using e),ih];by_cases h1:j<k/\rs.getD j 0=ev
   . rw[if_pos h1,if_pos ⟨by omega,h1.2⟩]
   ·
    rw[if_neg h1,if_neg (fun h2=>?_)];by_cases ej:j=k
    . subst ej;exact e h2.2
    . exact h1 ⟨by omega,h2.2⟩
theorem QC {rs:List Int}{ev v:Int}{l:List Int}(h:l.length=rs.length):Dg rs ev v l rs.length=Gr rs ev v l:=by
 apply List.ext_getElem?;intro j;unfold Gr;by_cases hj:j<l.length
 ·
  rw[TW _ _ hj,List.getElem?_zipWith];rw[List.getElem?_eq_getElem hj,List.getElem?_eq_getElem (show j<rs.length by omega)];have e:rs.getD j 0=rs[j]'(by omega):=by rw[List.getD_eq_getElem?_getD,List.getElem?_eq_getElem (show j<rs.length by omega)];rfl
  simp only[e];by_cases h1:rs[j]'(by omega)=ev
  . rw[if_pos ⟨by omega,h1⟩];simp[h1]
  . rw[if_neg (fun h2=>h1 h2.2)];simp[h1]
 . rw[List.getElem?_eq_none (by rw[IP];omega),List.getElem?_eq_none (by rw[List.length_zipWith];omega)]
def G7 (AA:List (List Dd))(b:Bd)(k:Nat):List Int:=((List.range k).filter (BU AA b)).map (fun c:Nat=>(c:Int))
theorem Za {AA:List (List Dd)}{b:Bd}{k:Nat}(h:BU AA b k=true):G7 AA b (k+1)=G7 AA b k++[(k:Int)]:=by
 unfold G7;rw[List.range_succ,List.filter_append,List.map_append];simp[h]
theorem W7 {AA:List (List Dd)}{b:Bd}{k:Nat}(h:BU AA b k=false):G7 AA b (k+1)=G7 AA b k:=by
 unfold G7;rw[List.range_succ,List.filter_append,List.map_append];simp[h]
def PD (b:Bd)(k:Nat):List Int:=((List.range k).filter (fun c=>!(b.AG.getD c []).isEmpty)).map (fun c:Nat=>10+(c:Int))
theorem jv {b:Bd}{k:Nat}(h:0<(b.AG.getD k []).length):PD b (k+1)=PD b k++[10+(k:Int)]:=by
 have:(b.AG.getD k []).isEmpty=false:=by
  cases e:b.AG.getD k [] with
  |nil=>rw[e] at h;simp at h
  |cons x l=>rfl
 unfold PD;rw[List.range_succ,List.filter_append,List.map_append];simp only[List.filter_cons,this,Bool.not_false,if_true,List.filter_nil,List.map_cons,List.map_nil]
theorem bT {b:Bd}{k:Nat}(h:¬ 0<(b.AG.getD k []).length):PD b (k+1)=PD b k:=by
 have:(b.AG.getD k []).isEmpty=true:=by
  cases e:b.AG.getD k [] with
  |nil=>rfl
  |cons x l=>rw[e] at h;simp at h
 unfold PD;rw[List.range_succ,List.filter_append,List.map_append];simp only[List.filter_cons,this,Bool.not_true,Bool.false_eq_true,if_false,List.filter_nil,List.map_nil,List.append_nil]
theorem YK (AA:List (List Dd))(b:Bd):G7 AA b AA.length++PD b AA.length=Ah AA b:=rfl
theorem R9 (AA:List (List Dd))(b:Bd)(k:Nat):(G7 AA b k).length<=k:=by
 unfold G7;rw[List.length_map];exact Nat.le_trans (List.length_filter_le _ _) (by simp)
theorem jy (b:Bd)(k:Nat):(PD b k).length<=k:=by
 unfold PD;rw[List.length_map];exact Nat.le_trans (List.length_filter_le _ _) (by simp)
structure Dc (AA:List (List Dd))(b:Bd)(n:Nat):Prop where
 work:AO AA=true
 AM:b.AM.length=3
 AQ:b.AQ.length=3
 rws:b.rws.length=3
 AG:b.AG.length=AA.length
 AK:b.AK.length=AA.length
 sn:b.sn.length=(AV Ad (AB AA)).length
 fr:b.fr.length=(AV Ad (AB AA)).length
 rl:∀p,(b.rws.getD p []).length<=n
 nl:∀c,(b.AG.getD c []).length<=n
theorem Dc.mono {AA:List (List Dd)}{b:Bd}{n m:Nat}(h:Dc AA b n)(hm:n<=m):Dc AA b m:=
 ⟨h.work,h.AM,h.AQ,h.rws,h.AG,h.AK,h.sn,h.fr,fun p=>Nat.le_trans (h.rl p) hm,fun c=>Nat.le_trans (h.nl c) hm⟩
theorem Jn {α:Type}{l:List (List α)}{n:Nat}(h:∀i,(l.getD i []).length<=n)(k:Nat)(z:List α)(hz:z.length<=n):∀i,((l.set k z).getD i []).length<=n:=fun i=>by
 rw[List.getD_eq_getElem?_getD,List.getElem?_set];by_cases e:k=i
 ·
  rw[if_pos e];by_cases hk:k<l.length
  . rw[if_pos hk];exact hz
  . rw[if_neg hk];simp
 . rw[if_neg e,<-List.getD_eq_getElem?_getD];exact h i
theorem Kx {rs:List Int}{ev v:Int}{l:List Int}(h:l.length=rs.length):(Gr rs ev v l).length=rs.length:=by unfold Gr;rw[List.length_zipWith];omega
theorem Dc.see {AA:List (List Dd)}{b:Bd}{n:Nat}(h:Dc AA b n)(ev v f:Int):Dc AA (FY (AV Ad (AB AA)) b ev v f) n:=
 ⟨h.work,h.AM,h.AQ,h.rws,h.AG,h.AK,Kx h.sn,Kx h.fr,h.rl,h.nl⟩
theorem Dc.Xr {AA:List (List Dd)}{b:Bd}{n:Nat}(h:Dc AA b n)(p:Nat)(v ev:Int):Dc AA (Dq b p v ev) (n+1):=
 ⟨h.work,by simp[Dq,h.AM],by simp[Dq,h.AQ],by simp[Dq,h.rws],h.AG,h.AK,h.sn,h.fr,
  Jn (fun i=>Nat.le_succ_of_le (h.rl i)) p _ (by have:=h.rl p;rw[List.length_append,List.length_singleton];omega),fun c=>Nat.le_succ_of_le (h.nl c)⟩
theorem Dc.note {AA:List (List Dd)}{b:Bd}{n:Nat}(h:Dc AA b n)(c:Nat)(x:Nt):Dc AA { b with AG:=b.AG.set c (b.AG.getD c []++[x]) } (n+1):=
 ⟨h.work,h.AM,h.AQ,h.rws,by simp[h.AG],h.AK,h.sn,h.fr,fun p=>Nat.le_succ_of_le (h.rl p),
  Jn (fun i=>Nat.le_succ_of_le (h.nl i)) c _ (by have:=h.nl c;rw[List.length_append,List.length_singleton];omega)⟩
theorem Dc.less {AA:List (List Dd)}{b:Bd}{n:Nat}(h:Dc AA b n)(c:Nat)(l:List Nt)(hl:l.length<=n):Dc AA { b with AG:=b.AG.set c l } n:=
 ⟨h.work,h.AM,h.AQ,h.rws,by simp[h.AG],h.AK,h.sn,h.fr,h.rl,Jn h.nl c _ hl⟩
theorem Dc.deed {AA:List (List Dd)}{b:Bd}{n:Nat}(h:Dc AA b n)(c k:Nat):Dc AA (BH AA (AB AA) b c k) (n+1):=by
 unfold BH;split
 . exact (h.see _ _ _).mono (Nat.le_succ n)
 ·
  split
  . exact (h.see _ _ _).Xr _ _ _
  ·
   split
   . exact h.Xr _ _ _
   ·
    split
    . exact h.note c _
    . exact h.mono (Nat.le_succ n)
theorem Dc.next {AA:List (List Dd)}{b:Bd}{n:Nat}(h:Dc AA b n)(c:Nat)(x:Int):Dc AA { b with AK:=b.AK.set c x } n:=
 ⟨h.work,h.AM,h.AQ,h.rws,h.AG,by simp[h.AK],h.sn,h.fr,h.rl,h.nl⟩
theorem NJ (AA:List (List Dd))(es:List Ev)(b:Bd)(c k:Nat):(BH AA es b c k).AK=b.AK:=by
 unfold BH;split
 . rfl
 ·
  split
  . rfl
  ·
   split
   . rfl
   . split<;>rfl
theorem Dc.one {AA:List (List Dd)}{b:Bd}{n:Nat}(h:Dc AA b n)(c:Nat):Dc AA (Ai AA (AB AA) b c) (n+1):=by
 have:=(h.deed c (Ap b c)).next c (b.AK.getD c 0+1);rw[NJ] at this;exact this
theorem Dc.flush {AA:List (List Dd)}{b:Bd}{n:Nat}(h:Dc AA b n)(c:Nat):Dc AA (BA b c) (n+1):=by
 unfold BA;split
 . exact h.mono (Nat.le_succ n)
 ·
  rename_i x r e;exact (h.less c r (by have:=h.nl c;rw[e] at this;simp at this;omega)).Xr _ _ _
theorem Dc.of {AA:List (List Dd)}{b:Bd}(h:Ac AA b=true):Dc AA b 20:=by
 simp only[Ac,Gs,MD,IM,Bool.and_eq_true,decide_eq_true_eq] at h;obtain⟨⟨hw,h1,h2,h3,h4,h5⟩,⟨h6,h7,-⟩,h8,h9⟩:=h;refine⟨hw,h1,h2,h3,h4,h5,h6,h7,fun p=>?_,fun c=>?_⟩
 ·
  by_cases hp:p<3
  ·
   have:=List.all_eq_true.1 h8 p (List.mem_range.2 hp);simp only[G4,Bool.and_eq_true,decide_eq_true_eq] at this;exact this.2
  . rw[List.getD_eq_getElem?_getD,List.getElem?_eq_none (by omega)];simp
 ·
  by_cases hc:c<AA.length
  ·
   have:=List.all_eq_true.1 h9 c (List.mem_range.2 hc);simp only[UP,Bool.and_eq_true,decide_eq_true_eq] at this;omega
  . rw[List.getD_eq_getElem?_getD,List.getElem?_eq_none (by omega)];simp
theorem Fd {AA:List (List Dd)}{b:Bd}(h:Ac AA b=true){c:Nat}(hc:c<AA.length):0<=b.AK.getD c 0/\b.AK.getD c 0<=((AA.getD c []).length:Int):=by
 simp only[Ac,Bool.and_eq_true] at h;have:=List.all_eq_true.1 h.2.2.2 c (List.mem_range.2 hc);simp only[UP,Bool.and_eq_true,decide_eq_true_eq] at this;exact this.1
structure RB (AA:List (List Dd))(b:Bd)(N:Nat->Nat)(m:Nat):Prop where
 work:AO AA=true
 AM:b.AM.length=3
 AQ:b.AQ.length=3
 rws:b.rws.length=3
 AG:b.AG.length=AA.length
 AK:b.AK.length=AA.length
 sn:b.sn.length=(AV Ad (AB AA)).length
 fr:b.fr.length=(AV Ad (AB AA)).length
 vp:∀x∈b.AM,0<=x/\x<=9
 vl:∀x∈b.AQ,0<=x/\x<=((AB AA).length:Int)-1
 vs:∀x∈b.sn,-1<=x/\x<=9
 vf:∀x∈b.fr,-1<=x/\x<=((AB AA).length:Int)-1
 rl:∀p,(b.rws.getD p []).length<=m/\∀x∈b.rws.getD p [],0<=x/\x<=((AB AA).length:Int)-1
 nl:∀c,(b.AG.getD c []).length<=N c/\∀x∈b.AG.getD c [],(0<=x.1/\x.1<=2)/\(0<=x.2.1/\x.2.1<=9)/\0<=x.2.2/\x.2.2<=((AB AA).length:Int)-1
 nx:∀c,c<AA.length->0<=b.AK.getD c 0/\b.AK.getD c 0<=((AA.getD c []).length:Int)
theorem PZ {α:Type}{l:List α}{z:α}{i:Nat}(h:¬i<l.length):l.getD i z=z:=by rw[List.getD_eq_getElem?_getD,List.getElem?_eq_none (by omega)];rfl
theorem KO {α:Type}{l:List α}{z:α}{i:Nat}(h:i<l.length):l.getD i z∈l:=by rw[List.getD_eq_getElem?_getD,List.getElem?_eq_getElem h];exact List.getElem_mem h
theorem Ho {l:List Int}{lo hi:Int}{most:Nat}(h:G4 l lo hi most=true):(∀x∈l,lo<=x/\x<=hi)/\l.length<=most:=by
 simp only[G4,Bool.and_eq_true,decide_eq_true_eq,List.all_eq_true] at h;exact h
theorem J1 {l:List Int}{lo hi:Int}{most:Nat}(h:∀x∈l,lo<=x/\x<=hi)(hl:l.length<=most):G4 l lo hi most=true:=by
 simp only[G4,Bool.and_eq_true,decide_eq_true_eq,List.all_eq_true];exact⟨h,hl⟩
theorem RB.of {AA:List (List Dd)}{b:Bd}(h:Ac AA b=true){N:Nat->Nat}{m:Nat}(hN:∀c,(b.AG.getD c []).length<=N c)(hm:∀p,(b.rws.getD p []).length<=m):RB AA b N m:=by
 simp only[Ac,Gs,MD,IM,Bool.and_eq_true,decide_eq_true_eq] at h;obtain⟨⟨hw,h1,h2,h3,h4,h5⟩,⟨h6,h7,p1,p2,p3,p4⟩,h8,h9⟩:=h;refine⟨hw,h1,h2,h3,h4,h5,h6,h7,(Ho p1).1,(Ho p2).1,(Ho p3).1,(Ho p4).1,fun p=>⟨hm p,?_⟩,fun c=>⟨hN c,?_⟩,fun c hc=>?_⟩
 ·
  by_cases hp:p<3
  . exact (Ho (List.all_eq_true.1 h8 p (List.mem_range.2 hp))).1
  . rw[PZ (by omega)];simp
 ·
  by_cases hc:c<AA.length
  ·
   have:=List.all_eq_true.1 h9 c (List.mem_range.2 hc);simp only[UP,YB,qZ,Bool.and_eq_true,decide_eq_true_eq,List.all_eq_true] at this;exact this.2.2
  . rw[PZ (by omega)];simp
 ·
  have:=List.all_eq_true.1 h9 c (List.mem_range.2 hc);simp only[UP,Bool.and_eq_true,decide_eq_true_eq] at this;exact this.1
theorem RB.board {AA:List (List Dd)}{b:Bd}{N:Nat->Nat}{m:Nat}(h:RB AA b N m)(hN:∀c,N c<=8)(hm:m<=20):Ac AA b=true:=by
 have h9:=Mh AA
 have hr:(AV Ad (AB AA)).length<=12:=by
  unfold AV;split
  . have:=C9 Ad (AB AA) (AB AA).length;omega
  . simp
 simp only[Ac,Gs,MD,IM,Bool.and_eq_true,decide_eq_true_eq];refine⟨⟨h.work,h.AM,h.AQ,h.rws,h.AG,h.AK⟩,⟨h.sn,h.fr,J1 h.vp (by rw[h.AM];omega),J1 h.vl (by rw[h.AQ];omega),J1 h.vs (by rw[h.sn];omega),J1 h.vf (by rw[h.fr];omega)⟩,?_,?_⟩
 ·
  rw[List.all_eq_true];exact fun p _=>J1 (h.rl p).2 (by have:=(h.rl p).1;omega)
 ·
  rw[List.all_eq_true];intro c hc;simp only[UP,YB,qZ,Bool.and_eq_true,decide_eq_true_eq,List.all_eq_true];exact⟨h.nx c (List.mem_range.1 hc),by have:=(h.nl c).1;have:=hN c;omega,(h.nl c).2⟩
theorem Ns {α:Type}{l:List α}{i:Nat}{v x:α}(h:x∈l.set i v):x∈l\/x=v:=by
 rcases List.mem_or_eq_of_mem_set h with h|h
 . exact .inl h
 . exact .inr h
theorem Vv {rs:List Int}{ev v:Int}:∀ {l:List Int} {x:Int},x∈Gr rs ev v l->x∈l\/x=v:=by
 induction rs with
 |nil=>intro l x h;simp[Gr] at h
 |cons r t ih=>
  intro l x h
  cases l with
  |nil=>simp[Gr] at h
  |cons y z=>
   simp only[Gr,List.zipWith_cons_cons,List.mem_cons] at h;rcases h with h|h
   ·
    split at h
    . exact .inr h
    . exact .inl (by rw[h];simp)
   ·
    rcases ih (l:=z) (x:=x) h with h|h
    . exact .inl (List.mem_cons_of_mem _ h)
    . exact .inr h
theorem RB.see {AA:List (List Dd)}{b:Bd}{N:Nat->Nat}{m:Nat}(h:RB AA b N m)(ev v f:Int)(hv:-1<=v/\v<=9)(hf:-1<=f/\f<=((AB AA).length:Int)-1):RB AA (FY (AV Ad (AB AA)) b ev v f) N m:=
 ⟨h.work,h.AM,h.AQ,h.rws,h.AG,h.AK,Kx h.sn,Kx h.fr,h.vp,h.vl,fun x hx=>(Vv hx).elim (h.vs x) (fun e=>e ▸ hv),fun x hx=>(Vv hx).elim (h.vf x) (fun e=>e ▸ hf),h.rl,h.nl,h.nx⟩
theorem RB.Xr {AA:List (List Dd)}{b:Bd}{N:Nat->Nat}{m:Nat}(h:RB AA b N m)(p:Nat)(v ev:Int)(hv:0<=v/\v<=9)(he:0<=ev/\ev<=((AB AA).length:Int)-1):RB AA (Dq b p v ev) N (m+1):=by
 refine⟨h.work,by rw[<-h.AM];exact List.length_set,by rw[<-h.AQ];exact List.length_set,by rw[<-h.rws];exact List.length_set,h.AG,h.AK,h.sn,h.fr,fun x hx=>(Ns hx).elim (h.vp x) (fun e=>e ▸ hv),fun x hx=>(Ns hx).elim (h.vl x) (fun e=>e ▸ he),h.vs,h.vf,fun q=>?_,h.nl,h.nx⟩;show ((b.rws.set p (b.rws.getD p []++[ev])).getD q []).length<=m+1/\∀x∈(b.rws.set p (b.rws.getD p []++[ev])).getD q [],_;by_cases hp:p<b.rws.length
 ·
  rw[C1 _ _ _ _ _ hp];by_cases e:p=q
  ·
   rw[if_pos e];refine⟨by have:=(h.rl p).1;rw[List.length_append,List.length_singleton];omega,fun x hx=>?_⟩;rcases List.mem_append.1 hx with hx|hx
   . exact (h.rl p).2 x hx
   . rw[List.mem_singleton.1 hx];exact he
  ·
   rw[if_neg e];exact⟨by have:=(h.rl q).1;omega,(h.rl q).2⟩
 ·
  rw[List.set_eq_of_length_le (by omega)];exact⟨by have:=(h.rl q).1;omega,(h.rl q).2⟩
theorem RB.note {AA:List (List Dd)}{b:Bd}{N N':Nat->Nat}{m:Nat}(h:RB AA b N m)(c:Nat)(l:List Nt)(hl:∀x∈l,(0<=x.1/\x.1<=2)/\(0<=x.2.1/\x.2.1<=9)/\0<=x.2.2/\x.2.2<=((AB AA).length:Int)-1)(hn:l.length<=N' c)(hN:∀i,i≠c->N i<=N' i)(hc:c<AA.length):RB AA { b with AG:=b.AG.set c l } N' m:=by
 refine⟨h.work,h.AM,h.AQ,h.rws,by rw[<-h.AG];exact List.length_set,h.AK,h.sn,h.fr,h.vp,h.vl,h.vs,h.vf,h.rl,fun i=>?_,h.nx⟩;show ((b.AG.set c l).getD i []).length<=N' i/\∀x∈(b.AG.set c l).getD i [],_;rw[C1 _ _ _ _ _ (by rw[h.AG];exact hc)];by_cases e:c=i
 ·
  rw[if_pos e,<-e];exact⟨hn,hl⟩
 ·
  rw[if_neg e];exact⟨Nat.le_trans (h.nl i).1 (hN i (Ne.symm e)),(h.nl i).2⟩
theorem RB.next {AA:List (List Dd)}{b:Bd}{N:Nat->Nat}{m:Nat}(h:RB AA b N m)(c:Nat)(x:Int)(hx:0<=x/\x<=((AA.getD c []).length:Int)):RB AA { b with AK:=b.AK.set c x } N m:=by
 refine⟨h.work,h.AM,h.AQ,h.rws,h.AG,by rw[<-h.AK];exact List.length_set,h.sn,h.fr,h.vp,h.vl,h.vs,h.vf,h.rl,h.nl,fun i hi=>?_⟩;show 0<=(b.AK.set c x).getD i 0/\(b.AK.set c x).getD i 0<=_;by_cases hc:c<b.AK.length
 ·
  rw[C1 _ _ _ _ _ hc];by_cases e:c=i
  . rw[if_pos e,<-e];exact hx
  . rw[if_neg e];exact h.nx i hi
 . rw[List.set_eq_of_length_le (by omega)];exact h.nx i hi
theorem RB.more {AA:List (List Dd)}{b:Bd}{N N':Nat->Nat}{m m':Nat}(h:RB AA b N m)(hN:∀c,N c<=N' c)(hm:m<=m'):RB AA b N' m':=
 ⟨h.work,h.AM,h.AQ,h.rws,h.AG,h.AK,h.sn,h.fr,h.vp,h.vl,h.vs,h.vf,fun p=>⟨Nat.le_trans (h.rl p).1 hm,(h.rl p).2⟩,fun c=>⟨Nat.le_trans (h.nl c).1 (hN c),(h.nl c).2⟩,h.nx⟩
theorem RB.rdg {AA:List (List Dd)}{b:Bd}{N:Nat->Nat}{m:Nat}(h:RB AA b N m)(c:Nat){p:Nat}(hp:p<3):(0<=(Ct b c p).1/\(Ct b c p).1<=9)/\0<=(Ct b c p).2/\(Ct b c p).2<=((AB AA).length:Int)-1:=by
 unfold Ct
 cases e:(b.AG.getD c []).reverse.find? (fun x=>x.1==(p:Int)) with
 |some x=>
  have hx:=List.mem_reverse.1 (List.mem_of_find?_eq_some e);exact ((h.nl c).2 x hx).2
 |none=>exact⟨h.vp _ (KO (by rw[h.AM];exact hp)),h.vl _ (KO (by rw[h.AQ];exact hp))⟩
theorem S9 {d:Dd}(h:FW d=true):(0<=d.2.2.1/\d.2.2.1<=9)/\0<=d.2.2.2:=by
 obtain⟨k,p,v,g⟩:=d;simp only[FW,D2,decide_eq_true_eq] at h;show (0<=v/\v<=9)/\0<=g;by_cases e:k=2\/k=3
 . have:=h.2.2.2.2.2.1 e;omega
 . have:=h.2.2.2.2.2.2 e;omega
theorem Vc {AA:List (List Dd)}(hb:AO AA=true){c k:Nat}(hc:c<AA.length)(hk:k<(AA.getD c []).length):
  (∃p:Nat,p<3/\(Ak AA c k).2.1=(p:Int))/\(0<=(Ak AA c k).2.2.1/\(Ak AA c k).2.2.1<=9)/\((Ak AA c k).1=1\/(Ak AA c k).1=2\/(Ak AA c k).1=3\/(Ak AA c k).1=4)/\0<=BS AA c k /\
  ((Ak AA c k).1≠4->0<=LH (AB AA) c k/\LH (AB AA) c k<=((AB AA).length:Int)-1)/\((Ak AA c k).1=3->LH (AB AA) c k+1<=((AB AA).length:Int)-1):=by
 have ho:=B8 hb hc k hk;have hd:=CQ ho;have hev:(Ak AA c k).1≠4->∀i,i<FM (Ak AA c k)->3<=AY AA c k+i/\AY AA c k+i<(AB AA).length:=fun h4 i hi=>Dz.lt hb ⟨hc,hk,hi,rfl⟩
 refine⟨It hb hc hk,?_,hd,?_,fun h4=>?_,fun h3=>?_⟩
 . exact (S9 ho).1
 . exact (S9 ho).2
 ·
  rw[JY hb hc hk h4];have:=hev h4 0 (by unfold FM;rw[if_neg h4];split<;>omega);omega
 ·
  have h4:(Ak AA c k).1≠4:=by omega
  rw[JY hb hc hk h4];have:=hev h4 1 (by unfold FM;rw[if_neg h4,if_pos h3];omega);omega
theorem Ay {AA:List (List Dd)}(h:AO AA=true):AA.length<=3/\∀i,i<AA.length->Fu (AA.getD i [])=true:=by
 simp only[AO,Bool.and_eq_true,decide_eq_true_eq] at h;obtain⟨⟨⟨⟨h1,h2⟩,_⟩,_⟩,_⟩:=h;exact⟨h1.2,fun i hi=>Bo [] h2 i hi⟩
theorem RB.deed {AA:List (List Dd)}{b:Bd}{N:Nat->Nat}{m:Nat}(h:RB AA b N m){c k:Nat}(hc:c<AA.length)(hk:k<(AA.getD c []).length):
  RB AA (BH AA (AB AA) b c k) (fun i=>if i=c/\BS AA c k=0 then N i+1 else N i) (m+1):=by
 obtain⟨⟨p,hp,ep⟩,hv,hd,hg,he,he3⟩:=Vc h.work hc hk
 have hN:∀i,N i<=(fun i=>if i=c/\BS AA c k=0 then N i+1 else N i) i:=fun i=>by
  show N i<=if _ then _ else _
  split
  . exact Nat.le_succ _
  . exact Nat.le_refl _
 have hP:(Ak AA c k).2.1.toNat=p:=by omega
 have hr:=h.rdg c hp;unfold BH;rw[hP];split
 . exact (h.see _ _ _ ⟨by omega,by omega⟩ ⟨by omega,by omega⟩).more hN (Nat.le_succ m)
 ·
  rename_i h1;split
  ·
   rename_i h3;have e1:=he (by omega);have e2:=he3 h3;have q1:=h.vp _ (KO (z:=0) (show p<b.AM.length by rw[h.AM];exact hp));have q2:=h.vl _ (KO (z:=0) (show p<b.AQ.length by rw[h.AQ];exact hp));exact ((h.see _ _ _ ⟨by omega,by omega⟩ ⟨by omega,by omega⟩).Xr p _ _ hv ⟨by omega,by omega⟩).more hN (Nat.le_refl _)
  ·
   rename_i h3;split
   ·
    rename_i h2;exact (h.Xr p _ _ hv (he (by omega))).more hN (Nat.le_refl _)
   ·
    rename_i h2;split
    ·
     rename_i h2'
     have g0:BS AA c k=0:=by
      by_cases e:BS AA c k=0
      . exact e
      . exact absurd ⟨h2',by omega⟩ h2
     have e1:=he (by omega);refine (h.note (N':=fun i=>if i=c/\BS AA c k=0 then N i+1 else N i) c _ (fun x hx=>?_) ?_ (fun i _=>hN i) hc).more (fun _=>Nat.le_refl _) (Nat.le_succ m)
     ·
      rcases List.mem_append.1 hx with hx|hx
      . exact (h.nl c).2 x hx
      ·
       rw[List.mem_singleton.1 hx];exact⟨⟨by show 0<=(Ak AA c k).2.1;omega,by show (Ak AA c k).2.1<=2;omega⟩,hv,e1⟩
     ·
      show _<=if c=c/\BS AA c k=0 then N c+1 else N c
      rw[if_pos ⟨rfl,g0⟩,List.length_append,List.length_singleton];have:=(h.nl c).1;omega
    . exact h.more hN (Nat.le_succ m)
theorem RB.one {AA:List (List Dd)}{b:Bd}{N:Nat->Nat}{m:Nat}(h:RB AA b N m){c:Nat}(hc:c<AA.length)(hk:Ap b c<(AA.getD c []).length):
  RB AA (Ai AA (AB AA) b c) (fun i=>if i=c/\BS AA c (Ap b c)=0 then N i+1 else N i) (m+1):=by
 have h0:=h.nx c hc;have hn:(Ap b c:Int)=b.AK.getD c 0:=by unfold Ap;omega
 have:=(h.deed hc hk).next c (b.AK.getD c 0+1) ⟨by omega,by omega⟩;rw[NJ] at this;exact this
theorem RB.go {AA:List (List Dd)}{c:Nat}(hc:c<AA.length){g:Int}(hg:g≠0){N:Nat->Nat}:∀(k m:Nat) (b:Bd),RB AA b N m->Ap b c<(AA.getD c []).length->BS AA c (Ap b c)=g->RB AA (Ea AA (AB AA) g c k b) N (m+k)
 | 0,m,b,h,_,_=>by rw[Ea];exact h
 |k+1,m,b,h,hk,e=>by
  have h1:=h.one hc hk
  have hs:(fun i=>if i=c/\BS AA c (Ap b c)=0 then N i+1 else N i)=N:=by
   funext i;rw[if_neg (fun hh=>hg (by rw[<-e];exact hh.2))]
  rw[hs] at h1;rw[Ea];split
  . exact h1.more (fun _=>Nat.le_refl _) (by omega)
  ·
   rename_i hn;have hx:=h1.nx c hc;have hz:((Ap (Ai AA (AB AA) b c) c:Nat):Int)=(Ai AA (AB AA) b c).AK.getD c 0:=by unfold Ap;omega
   have:=RB.go hc hg k (m+1) _ h1 (by omega) (by
    by_cases e':BS AA c (Ap (Ai AA (AB AA) b c) c)=g
    . exact e'
    . exact absurd (.inr (.inr e')) hn)
   exact this.more (fun _=>Nat.le_refl _) (by omega)
theorem Xm {AA:List (List Dd)}{es:List Ev}{c k:Nat}(hk:0<k)(b:Bd):Ea AA es 0 c k b=Ai AA es b c:=by
 cases k with
 |zero=>omega
 |succ k=>rw[Ea,if_pos (.inl rfl)]
theorem VT {AA:List (List Dd)}{b:Bd}{c:Nat}(h:BU AA b c=true):Ap b c<(AA.getD c []).length/\(((Ak AA c (Ap b c)).1<=2/\BS AA c (Ap b c)=0)\/b.AG.getD c []=[]):=by
 simp only[BU,Bool.and_eq_true,Bool.or_eq_true,decide_eq_true_eq,List.isEmpty_iff] at h;exact h
theorem Db {AA:List (List Dd)}(h:AO AA=true){c:Nat}(hc:c<AA.length):(AA.getD c []).length<=5:=by
 simp only[AO,Bool.and_eq_true,List.all_eq_true] at h;have:=h.1.1.1.2 _ (KO (z:=[]) hc);simp only[Fu,Bool.and_eq_true,decide_eq_true_eq] at this;exact this.2
theorem RB.stepped {AA:List (List Dd)}{b:Bd}{n m:Nat}(h:RB AA b (fun _=>n) m){c:Nat}(hc:c<AA.length)(hcan:BU AA b c=true)(c10:c<10):RB AA (Al AA (AB AA) b (c:Int)) (fun _=>n+1) (m+5):=by
 obtain⟨hk,-⟩:=VT hcan;have h5:=Db h.work hc;unfold Al;rw[if_neg (by omega),Int.toNat_natCast];by_cases g0:BS AA c (Ap b c)=0
 ·
  rw[g0,Xm (by omega)];refine (h.one hc hk).more (fun i=>?_) (by omega);show (if _ then n+1 else n)<=n+1;split
  . exact Nat.le_refl _
  . exact Nat.le_succ _
 . exact (RB.go hc g0 _ _ _ h hk rfl).more (fun _=>Nat.le_succ _) (by omega)
theorem VE {AA:List (List Dd)}{b:Bd}(hb:Ac AA b=true)(hn:∀c,(b.AG.getD c []).length<=7)(hm:∀p,(b.rws.getD p []).length<=15){c:Nat}(hc:c<AA.length)(hcan:BU AA b c=true):Ac AA (Al AA (AB AA) b (c:Int))=true:=by
 have h3:AA.length<=3:=(Ay (RB.of hb hn hm).work).1;exact ((RB.of hb hn hm).stepped hc hcan (by omega)).board (fun _=>Nat.le_refl _) (Nat.le_refl _)
section
section
variable {α:Type} {cf:α->List Value} {n:Nat}
def gP (cf:α->List Value)(w:World)(b o:Nat)(x:α):Prop:=∀m u,(cf x)[m]? = some u->w.cell? ⟨b,o+m,none⟩=some u
def rU (cf:α->List Value)(n:Nat)(w:World)(v:Value)(xs:List α):Prop:=
 ∃(a:Option Addr) (cap:Nat),v = .slice a xs.length (xs.length+cap) /\
  (xs=[]\/∃b off,a=some ⟨b,off,none⟩/\b<w.heap.size/\∀i x,xs[i]? = some x->gP cf w b (off+i*n) x)
theorem gP.same {w w':World}{b o:Nat}{x:α}(h:gP cf w b o x)(hh:w'.heap[b]? = w.heap[b]?):gP cf w' b o x:=
 fun m u hm=>by
  have:=h m u hm;simp only[World.cell?,hh] at this ⊢;exact this
theorem gP.keep {w w':World}{b o:Nat}{x:α}(h:gP cf w b o x)(hb:b<w.heap.size)(k:AC w w'):gP cf w' b o x:=h.same (Below.block k b hb)
theorem rU.keep {w w':World}{v:Value}{xs:List α}(h:rU cf n w v xs)(k:AC w w'):rU cf n w' v xs:=by
 obtain⟨a,cap,hv,h⟩:=h;refine⟨a,cap,hv,?_⟩;rcases h with h|⟨b,off,ha,hb,hc⟩
 . exact .inl h
 . exact .inr ⟨b,off,ha,Nat.lt_of_lt_of_le hb k.size,fun i x hx=>(hc i x hx).keep hb k⟩
def Bz (cf:α->List Value)(e:TypeId)(n:Nat)(w:World)(base:Nat)(v:Value)(xs:List α):Prop:=w.ownsRow base e n v xs.length (xs.flatMap cf)
variable {e:TypeId}
theorem Bz.keep {w w':World}{base:Nat}{v:Value}{xs:List α}(h:Bz cf e n w base v xs)(k:AC w w'):Bz cf e n w' base v xs:=
 World.ownsRow.kept h k.grownBy (by cases v.ownBlock<;>simp)
theorem Bz.kept {w w':World}{base:Nat}{v:Value}{xs:List α}{row:Option Nat}(h:Bz cf e n w base v xs)(hg:w.grownBy w' row)(hne:v.ownBlock=none\/v.ownBlock≠row):Bz cf e n w' base v xs:=
 World.ownsRow.kept h hg hne
theorem Bz.lt {w:World}{base:Nat}{v:Value}{xs:List α}(h:Bz cf e n w base v xs):∀k,v.ownBlock=some k->base<=k/\k<w.heap.size:=World.ownsRow.lt h
theorem Bz.ge {w:World}{base:Nat}{v:Value}{xs:List α}(h:Bz cf e n w base v xs):∀k,v.ownBlock=some k->base<=k:=fun k hk=>(h.lt k hk).1
theorem J3 {w:World}{base:Nat}{v:Value}{xs:List α}{x:α}(h:w.ownsRow base e n v (xs.length+1) (xs.flatMap cf++cf x)):Bz cf e n w base v (xs++[x]):=by
 unfold Bz;rw[List.flatMap_append];simpa using h
theorem My (w:World):Bz cf e n (w.alloc (.cells #[] e)) w.heap.size (.slice (some ⟨w.heap.size,0,none⟩) 0 0) []:=
 World.ownsRow_lit w #[] 0 (Nat.le_refl _) (by decide) (by simp)
theorem Vi (hn:∀x,(cf x).length=n):∀(xs:List α) (i:Nat) (x:α) (m:Nat),xs[i]? = some x->m<n->(xs.flatMap cf)[i*n+m]? = (cf x)[m]?
 | [],i,x,m,h,_=>by simp at h
 |y::r,0,x,m,h,hm=>by
  simp at h;subst h;rw[List.flatMap_cons,List.getElem?_append_left (by rw[hn];omega)];simp
 |y::r,i+1,x,m,h,hm=>by
  have ih:=Vi hn r i x m (by simpa using h) hm;have e1:(i+1)*n+m=n+(i*n+m):=by rw[Nat.add_mul];omega
  rw[List.flatMap_cons,List.getElem?_append_right (by rw[hn];omega),hn,e1,Nat.add_sub_cancel_left,ih]
theorem Bz.shape {w:World}{base:Nat}{v:Value}{xs:List α}(h:Bz cf e n w base v xs):∃a c,v = .slice a xs.length c:=by
 rcases h.2 with ⟨rfl,hz⟩|⟨g,cap,cur,rfl,_⟩
 . exact⟨none,0,by rw[hz]⟩
 . exact⟨_,_,rfl⟩
theorem Bz.rd (hn:∀x,(cf x).length=n){w:World}{base:Nat}{v:Value}{xs:List α}(h:Bz cf e n w base v xs):rU cf n w v xs:=by
 have h2:=h;have hlt:=h.lt;rcases h.2 with ⟨rfl,hz⟩|⟨g,cap,cur,rfl,hb,hg,hcap,_,hs,_⟩
 ·
  have:xs=[]:=List.eq_nil_of_length_eq_zero hz;subst this;exact⟨none,0,rfl,.inl rfl⟩
 ·
  obtain⟨x,rfl⟩:∃x,cap=xs.length+x:=⟨cap-xs.length,by omega⟩;refine⟨_,x,rfl,.inr ⟨g,0,rfl,(hlt g rfl).2,fun i y hy m u hm=>?_⟩⟩;have hi:i<xs.length:=(List.getElem?_eq_some_iff.1 hy).1;have hmn:m<n:=by have:=(List.getElem?_eq_some_iff.1 hm).1;rw[hn] at this;exact this
  have hb2:i*n+m<xs.length*n:=by
   have h3:(i+1)*n<=xs.length*n:=Nat.mul_le_mul_right n hi;rw[Nat.add_mul] at h3;omega
  rw[Nat.zero_add,World.ownsRow.cellAt h2 (i*n+m) hb2,Vi hn xs i y m hy hmn];exact hm
end
end
def cE (e:Ev):List Value:=[.int .i64 e.1,.int .i64 e.2.1,.bool e.2.2.1,.int .i64 e.2.2.2.1,.int .i64 e.2.2.2.2.1,.int .i64 e.2.2.2.2.2]
theorem pV (e:Ev):(cE e).length=6:=rfl
theorem Tryz.aI:(Tryz.prog.info? 128).map (fun i=>(i.zero,i.size,i.bytes))=some (some (.agg #[.int .i64 0,.int .i64 0,.bool false,.int .i64 0,.int .i64 0,.int .i64 0]),6,48):=by kernel_rfl
abbrev gV (w:World)(v:Value)(es:List Ev):Prop:=rU cE 6 w v es
abbrev JB (w:World)(base:Nat)(v:Value)(es:List Ev):Prop:=Bz cE 128 6 w base v es
theorem rZ {w:World}{b o:Nat}{x0 x1:Int}{r:Bool}{x3 x4 x5:Int}(h:gP cE w b o (x0,x1,r,x3,x4,x5)):
  w.cell? ⟨b,o,none⟩=some (.int .i64 x0)/\w.cell? ⟨b,o+1,none⟩=some (.int .i64 x1)/\w.cell? ⟨b,o+2,none⟩=some (.bool r)/\w.cell? ⟨b,o+3,none⟩=some (.int .i64 x3)/\w.cell? ⟨b,o+4,none⟩=some (.int .i64 x4)/\w.cell? ⟨b,o+5,none⟩=some (.int .i64 x5):=
 ⟨h 0 _ rfl,h 1 _ rfl,h 2 _ rfl,h 3 _ rfl,h 4 _ rfl,h 5 _ rfl⟩
theorem JB.rd {w:World}{base:Nat}{v:Value}{es:List Ev}(h:JB w base v es):gV w v es:=Bz.rd pV h
theorem Mj {es:List Ev}{i:Nat}(h:i<es.length):es[i]? = some (es.getD i zE):=by
 rw[List.getD_eq_getElem?_getD,List.getElem?_eq_getElem h];rfl
def Ch (w:World)(g:Nat)(zs:List Int):Prop:=
 ∃(cur:Array Value) (e:TypeId),w.heap[g]? = some (.cells cur e (0,0))/\cur.toList.take zs.length=zs.map (Value.int .i64)
theorem Ch.lt {w:World}{g:Nat}{zs:List Int}(h:Ch w g zs):g<w.heap.size:=by
 obtain⟨cur,e,hh,_⟩:=h;exact (Array.getElem?_eq_some_iff.1 hh).1
theorem Ch.cell {w:World}{g:Nat}{zs:List Int}(h:Ch w g zs){j:Nat}(hj:j<zs.length):w.cell? ⟨g,j,none⟩=some (.int .i64 (zs.getD j 0)):=by
 obtain⟨cur,e,hh,ht⟩:=h;rw[cell_of_row w g j cur e (0,0) hh];have h1:(cur.toList.take zs.length)[j]? = (zs.map (Value.int .i64))[j]?:=by rw[ht]
 rw[List.getElem?_take,if_pos hj,List.getElem?_map,List.getElem?_eq_getElem hj] at h1;rw[List.getD_eq_getElem?_getD,List.getElem?_eq_getElem hj]
 simpa using h1
theorem Ch.free {w:World}{g:Nat}{zs:List Int}(h:Ch w g zs)(j:Nat):w.frozen? ⟨g,j,none⟩=false:=by
 obtain⟨cur,e,hh,_⟩:=h;exact frozen_of_row w g j _ _ hh
theorem Ch.kept {w w':World}{g:Nat}{zs:List Int}{row:Option Nat}(h:Ch w g zs)(hg:w.grownBy w' row)(hne:row≠some g):Ch w' g zs:=by
 have hlt:=h.lt;obtain⟨cur,e,hh,ht⟩:=h;exact⟨cur,e,by rw[hg.block g hlt (fun e=>hne e.symm)];exact hh,ht⟩
theorem Ch.keep {w w':World}{g:Nat}{zs:List Int}(h:Ch w g zs)(k:AC w w'):Ch w' g zs:=h.kept k.grownBy (by simp)
theorem Ae (w:World)(g j:Nat)(v:Value):w.grownBy (w.setCell ⟨g,j,none⟩ v) (some g):=
 ⟨rfl,rfl,rfl,by simp,fun k _ hk=>heap_setCell_other w ⟨g,j,none⟩ k v (fun e=>hk (by simp[e]))⟩
theorem UZ (w:World)(n:Nat)(row:Option Nat):w.grownBy (w.drewN n) row:=⟨rfl,rfl,rfl,Nat.le_refl _,fun _ _ _=>rfl⟩
theorem Ua (w:World)(row:Option Nat):w.grownBy w.drew row:=⟨rfl,rfl,rfl,Nat.le_refl _,fun _ _ _=>rfl⟩
theorem Ch.drewN {w:World}{g:Nat}{zs:List Int}(h:Ch w g zs)(n:Nat):Ch (w.drewN n) g zs:=h.kept (row:=none) (UZ w n none) (by simp)
theorem Ch.drew {w:World}{g:Nat}{zs:List Int}(h:Ch w g zs):Ch w.drew g zs:=h.kept (row:=none) (Ua w none) (by simp)
theorem Re (l:List Value)(zs:List Int)(j:Nat)(x:Int)(h:l.take zs.length=zs.map (Value.int .i64)):
  (l.set j (.int .i64 x)).take (zs.set j x).length=(zs.set j x).map (Value.int .i64):=by
 rw[List.length_set,List.take_set,h,List.map_set]
theorem Ch.set {w:World}{g:Nat}{zs:List Int}(h:Ch w g zs)(j:Nat)(x:Int):Ch (w.setCell ⟨g,j,none⟩ (.int .i64 x)) g (zs.set j x):=by
 obtain⟨cur,e,hh,ht⟩:=h;refine⟨cur.setIfInBounds j (.int .i64 x),e,?_,?_⟩
 . rw[heap_setCell_same w g j _ _ _ hh]
 ·
  rw[Array.toList_setIfInBounds];exact Re _ zs j x ht
def Om (w:World)(base:Nat)(v:Value)(zs:List Int):Prop:=
 (v = .slice none 0 0/\zs=[])\/∃g cap,v = .slice (some ⟨g,0,none⟩) zs.length cap/\base<=g/\Ch w g zs
theorem BO.row {w:World}{base:Nat}{v:Value}{zs:List Int}(h:BO w base v zs):Om w base v zs:=by
 rcases h.2 with ⟨rfl,hn⟩|⟨g,cap,cur,rfl,hb,hg,_,_,_,ht⟩
 . exact .inl ⟨rfl,List.eq_nil_of_length_eq_zero hn⟩
 . exact .inr ⟨g,cap,rfl,hb,cur,_,hg,by rw[Nat.mul_one] at ht;exact ht⟩
theorem Om.lt {w:World}{base:Nat}{v:Value}{zs:List Int}(h:Om w base v zs):∀k,v.ownBlock=some k->base<=k/\k<w.heap.size:=by
 intro k hk;rcases h with ⟨rfl,_⟩|⟨g,cap,rfl,hb,hr⟩
 . simp[Value.ownBlock] at hk
 . simp[Value.ownBlock] at hk;subst hk;exact⟨hb,hr.lt⟩
theorem Om.ge {w:World}{base:Nat}{v:Value}{zs:List Int}(h:Om w base v zs):∀k,v.ownBlock=some k->base<=k:=fun k hk=>(h.lt k hk).1
theorem Om.kept {w w':World}{base:Nat}{v:Value}{zs:List Int}{row:Option Nat}(h:Om w base v zs)(hg:w.grownBy w' row)(hne:v.ownBlock=none\/v.ownBlock≠row):Om w' base v zs:=by
 rcases h with h|⟨g,cap,rfl,hb,hr⟩
 . exact .inl h
 ·
  refine .inr ⟨g,cap,rfl,hb,hr.kept hg ?_⟩;simp[Value.ownBlock] at hne;exact fun e=>hne e.symm
theorem Om.keep {w w':World}{base:Nat}{v:Value}{zs:List Int}(h:Om w base v zs)(k:AC w w'):Om w' base v zs:=
 h.kept k.grownBy (by cases v.ownBlock<;>simp)
theorem Om.rd {w:World}{base:Nat}{v:Value}{zs:List Int}(h:Om w base v zs):Rd w v zs:=by
 rcases h with ⟨rfl,rfl⟩|⟨g,cap,rfl,hb,hr⟩
 . exact⟨none,0,rfl,.inl rfl⟩
 . exact⟨some ⟨g,0,none⟩,cap,rfl,.inr ⟨g,0,rfl,hr.lt,fun i hi=>by rw[Nat.zero_add];exact hr.cell hi⟩⟩
theorem Om.BM {w:World}{base base':Nat}{v:Value}{zs:List Int}(h:Om w base v zs)(hb:base'<=base):Om w base' v zs:=by
 rcases h with h|⟨g,cap,hv,hg,hr⟩
 . exact .inl h
 . exact .inr ⟨g,cap,hv,Nat.le_trans hb hg,hr⟩
theorem Om.apart {w w':World}{base:Nat}{v v':Value}{zs zs':List Int}(h:Om w base v zs)(h':Om w' w.heap.size v' zs'):v.ownBlock=none\/v.ownBlock≠v'.ownBlock:=by
 cases hv:v.ownBlock with
 |none=>exact .inl rfl
 |some k=>
  refine .inr fun e=>?_
  have h1:=(h.lt k hv).2;have h2:=h'.ge k e.symm;omega
end Go.Proofs.YtnmelakgmgenjaaGreat
