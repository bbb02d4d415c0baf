/- Gathered texts. -/
import Derived.Test.YtgakfkjjkobpiaaMH
import Derived.Maps.AppendAt
import Derived.Laws.AppendOwn
import Derived.Deep.Cut
set_option maxRecDepth 100000
set_option maxHeartbeats 8000000
namespace Go.Proofs.Ytgakfkjjkobpiaa
open Go.ChangeShapes Go.WideShapes Go.ChangeAt Go.RowKit
section
abbrev ddR (ds:List Dd)(v:Value):Rw:=⟨98,4,v,ds.length,ds.flatMap cD⟩
section
variable {α:Type} (t:TypeId) (rowOf:List α→Value→Rw)
def llR (v:Value)(hs:List Value)(xss:List (List α)):Option Nat→Rw
 |none=>hdR t hs v
 |some i=>rowOf (xss.getD i []) (hs.getD i nilS)
def llLive (j:Nat):Option Nat→Prop
 |none=>True
 |some i=>i<j
structure LLP (w:World)(m:Nat)(v:Value)(hs:List Value)(xss:List (List α))(j:Nat):Prop where
 fam:Fam w m (llLive j) (llR t rowOf v hs xss)
 len:hs.length=xss.length
 hv:∀xs u,(rowOf xs u).v=u
variable {t rowOf} {w w2:World} {m:Nat} {v u:Value} {hs:List Value} {xss:List (List α)} {j:Nat}
theorem LLP.keep (h:LLP t rowOf w m v hs xss j)(k:Keep w w2):LLP t rowOf w2 m v hs xss j:=⟨h.fam.keep k,h.len,h.hv⟩
theorem LLP.step (h:LLP t rowOf w m v hs xss j)(hj:j<xss.length)(k:Keep w w2)(ho:(rowOf (xss.getD j []) u).own w2 m)(hn:∀b,u.ownBlock=some b→w.heap.size≤b){g cap:Nat}(hv:v = .slice (some ⟨g,0,none⟩) hs.length cap):
  LLP t rowOf (w2.setCell ⟨g,j,none⟩ u) m v (hs.set j u) xss (j+1)∧w2.cell? ⟨g,j,none⟩=some (hs.getD j nilS)∧w2.frozen? ⟨g,j,none⟩=false∧w2.grownBy (w2.setCell ⟨g,j,none⟩ u) (some g)∧m≤g:=by
 have hjl:j<hs.length:=by rw[h.len];exact hj
 have F1:=h.fam.add (i:=some j) (fun q=>Nat.lt_irrefl _ (show j<j from q)) (r:=rowOf (xss.getD j []) u) rfl k ho (fun b hb=>hn b (by rw[h.hv] at hb;exact hb));have o1:(hdR t hs v).own w2 m:=by have:=F1.own none (.inl trivial);rw[upd_other _ _ (by simp)] at this;exact this
 obtain⟨q1,q2,q3⟩:=Rw.put o1 (g:=g) (cap:=cap) (k:=j) hv u;have F2:=F1.set (i:=none) (.inl trivial) (r:={ hdR t hs v with xs:=hs.set j u }) (by rw[upd_other _ _ (by simp)];exact q2) (.inl (by rw[upd_other _ _ (by simp)];rfl)) q1;have hb:v.ownBlock=some g:=by rw[hv];rfl
 refine⟨⟨F2.congr (fun o ho'=>?_) (fun o ho'=>?_),by rw[List.length_set];exact h.len,h.hv⟩,?_,q3,by rw[←hb];exact q2,(h.fam.lt (i:=none) trivial g hb).1⟩
 ·
  cases o with
  |none=>exact .inl trivial
  |some i=>
   have hi:i<j+1:=ho';by_cases e:i=j
   · exact .inr (by rw[e])
   · exact .inl (show i<j by omega)
 ·
  cases o with
  |none=>
   rw[upd_same];show hdR t (hs.set j u) v=_;simp[hdR]
  |some i=>
   rw[upd_other _ _ (by simp)];show rowOf (xss.getD i []) ((hs.set j u).getD i nilS)=_;rw[getD_setV _ _ _ _ hjl];by_cases e:i=j
   · subst e;rw[if_pos rfl,upd_same]
   · rw[if_neg e,upd_other _ _ (by simpa using e)];rfl
 ·
  have:=Rw.cell o1 (g:=g) (cap:=cap) (k:=j) hv (by show j<hs.length*1;omega);rw[this,List.getD_eq_getElem?_getD];show hs[j]? = _;rw[List.getElem?_eq_getElem hjl];rfl
structure OwnLL (t:TypeId)(rowOf:List α→Value→Rw)(w:World)(m:Nat)(v:Value)(hs:List Value)(xss:List (List α)):Prop where
 fam:Fam w m (llLive hs.length) (llR t rowOf v hs xss)
 len:hs.length=xss.length
theorem LLP.all (h:LLP t rowOf w m v hs xss xss.length):OwnLL t rowOf w m v hs xss:=⟨by rw[h.len];exact h.fam,h.len⟩
theorem LLP.new (ho:(hdR t (List.replicate xss.length nilS) v).own w m)(hv:∀xs u,(rowOf xs u).v=u):LLP t rowOf w m v (List.replicate xss.length nilS) xss 0:=by
 refine⟨⟨fun o h=>?_,fun o o' h h' hne=>?_⟩,by simp,hv⟩
 ·
  cases o with
  |none=>exact ho
  |some i=>exact absurd (show i<0 from h) (by omega)
 ·
  cases o with
  |none=>
   cases o' with
   |none=>exact absurd rfl hne
   |some i=>exact absurd (show i<0 from h') (by omega)
  |some i=>exact absurd (show i<0 from h) (by omega)
end
end
section
inductive BJ where
 |b (i:BI)
 |wk
 |wd (c:Nat) deriving DecidableEq
def famA (v:BV)(nv rv wv:List Value)(dss:List (List Dd))(b:Bd):BJ→Rw
 | .b i=>famR 0 v nv rv b i
 | .wk=>hdR 72 wv v.W
 | .wd c=>ddR (dss.getD c []) (wv.getD c nilS)
def liveA (nv rv wv:List Value):BJ→Prop
 | .b i=>liveB nv rv i∧i≠.bd
 | .wk=>True
 | .wd c=>c<wv.length
structure OwnA (w:World)(m:Nat)(v:BV)(nv rv wv:List Value)(dss:List (List Dd))(b:Bd):Prop where
 fam:Fam w m (liveA nv rv wv) (famA v nv rv wv dss b)
 ln:nv.length=b.nts.length
 lr:rv.length=b.rws.length
 lw:wv.length=dss.length
section
variable {w w':World} {m:Nat} {v:BV} {nv rv wv:List Value} {dss:List (List Dd)} {b:Bd}
theorem OwnA.keep (h:OwnA w m v nv rv wv dss b)(k:Keep w w'):OwnA w' m v nv rv wv dss b:=⟨h.fam.keep k,h.ln,h.lr,h.lw⟩
theorem OwnA.far (h:OwnA w m v nv rv wv dss b){g:Nat}(hg:w.grownBy w' (some g))(hl:g<m):OwnA w' m v nv rv wv dss b:=
 ⟨h.fam.far hg (fun i hi=>by
  cases e:(famA v nv rv wv dss b i).v.ownBlock with
  |none=>exact .inl rfl
  |some k=>exact .inr (fun e'=>by have:=(h.fam.lt hi k e).1;have:=Option.some.inj e';omega)),h.ln,h.lr,h.lw⟩
theorem OwnA.rd (h:OwnA w m v nv rv wv dss b):RdBd w v dss b:=by
 have oN:∀ {c:Nat},c<b.nts.length→AppT cN 66 3 w m (nv.getD c nilS) (b.nts.getD c []):=fun {c} hc=>h.fam.own (.b (.nt c)) ⟨by show c<nv.length;rw[h.ln];exact hc,by simp⟩
 have oR:∀ {p:Nat},p<b.rws.length→Own w m (rv.getD p nilS) (b.rws.getD p []):=fun {p} hp=>h.fam.own (.b (.rw p)) ⟨by show p<rv.length;rw[h.lr];exact hp,by simp⟩
 have oW:∀ {c:Nat},c<dss.length→AppD w m (wv.getD c nilS) (dss.getD c []):=fun {c} hc=>h.fam.own (.wd c) (by show c<wv.length;rw[h.lw];exact hc)
 have o1:Own w m v.P b.plc:=h.fam.own (.b .plc) ⟨trivial,by simp⟩;have o2:Own w m v.L b.lst:=h.fam.own (.b .lst) ⟨trivial,by simp⟩;have o3:Own w m v.X b.nxt:=h.fam.own (.b .nxt) ⟨trivial,by simp⟩;have o4:Own w m v.S b.sn:=h.fam.own (.b .sn) ⟨trivial,by simp⟩;have o5:Own w m v.F b.fr:=h.fam.own (.b .fr) ⟨trivial,by simp⟩;refine⟨?_,o1.rd,o2.rd,?_,o3.rd,o4.rd,o5.rd,?_⟩
 ·
  obtain⟨a,cap,e,h1⟩:=own_head (h.fam.own .wk trivial);rw[h.lw] at e;refine⟨a,cap,e,?_⟩;rcases h1 with h1|⟨g,e1,e2,e3⟩
  ·
   left;have:=h.lw;rw[h1] at this;exact List.eq_nil_of_length_eq_zero this.symm
  · exact .inr ⟨g,0,e1,e2,fun i hi=>⟨_,by rw[Nat.zero_add];exact e3 i (by rw[h.lw];exact hi),(oW hi).ownD.rd⟩⟩
 ·
  obtain⟨a,cap,e,h1⟩:=own_head (h.fam.own (.b .nts) ⟨trivial,by simp⟩);rw[h.ln] at e;refine⟨a,cap,e,?_⟩;rcases h1 with h1|⟨g,e1,e2,e3⟩
  ·
   left;have:=h.ln;rw[h1] at this;exact List.eq_nil_of_length_eq_zero this.symm
  · exact .inr ⟨g,0,e1,e2,fun i hi=>⟨_,by rw[Nat.zero_add];exact e3 i (by rw[h.ln];exact hi),AppT.rd cN_len (oN hi)⟩⟩
 ·
  obtain⟨a,cap,e,h1⟩:=own_head (h.fam.own (.b .rws) ⟨trivial,by simp⟩);rw[h.lr] at e;refine⟨a,cap,e,?_⟩;rcases h1 with h1|⟨g,e1,e2,e3⟩
  ·
   left;have:=h.lr;rw[h1] at this;exact List.eq_nil_of_length_eq_zero this.symm
  · exact .inr ⟨g,0,e1,e2,fun i hi=>⟨_,by rw[Nat.zero_add];exact e3 i (by rw[h.lr];exact hi),(oR hi).rd⟩⟩
end
end
section
def HdM (v:Value)(n m:Nat):Prop:=∀b o l c,v = .slice (some ⟨b,o,none⟩) l c→0<n→m≤b
structure FreeBd (w:World)(m M:Nat)(v:BV)(dss:List (List Dd))(b:Bd):Prop where
 rd:RdBd w v dss b
 ex:∃Vw Vn Vr:Nat→Value,HdBd w v Vw Vn Vr dss b∧Loose w (bdR7 v Vw Vn Vr dss b)∧∀x,rowsS (bdR7 v Vw Vn Vr dss b) x→m≤x.block∧x.block<M
 hd:HdM v.W dss.length m∧HdM v.N b.nts.length m∧HdM v.R b.rws.length m
theorem FreeBd.keep {w w':World}{m M:Nat}{v:BV}{dss:List (List Dd)}{b:Bd}(h:FreeBd w m M v dss b)(k:Keep w w'):FreeBd w' m M v dss b:=by
 obtain⟨Vw,Vn,Vr,h1,h2,h3⟩:=h.ex;exact⟨h.rd.keep k,⟨Vw,Vn,Vr,h1.keep k,h2.keep k,h3⟩,h.hd⟩
theorem rowsV_map (s:Nat)(V:Nat→Value)(ln:Nat→Nat):∀n,rowsV s V ln n=(List.range n).map (fun i=>(V i,s*ln i))
 | 0=>rfl
 |n+1=>by rw[rowsV,rowsV_map s V ln n,List.range_succ,List.map_append];rfl
def bdJ (nw nn nr:Nat):List BJ:=(((((((List.range nw).map BJ.wd++[.b .plc])++[.b .lst])++(List.range nn).map (fun c=>BJ.b (.nt c)))++[.b .nxt])++[.b .sn])++[.b .fr])++(List.range nr).map (fun p=>BJ.b (.rw p))
def rowJ (v:BV)(Vw Vn Vr:Nat→Value)(dss:List (List Dd))(b:Bd):BJ→Value×Nat
 | .wd c=>(Vw c,4*(dss.getD c []).length)
 | .b .plc=>(v.P,b.plc.length)
 | .b .lst=>(v.L,b.lst.length)
 | .b (.nt c)=>(Vn c,3*(b.nts.getD c []).length)
 | .b .nxt=>(v.X,b.nxt.length)
 | .b .sn=>(v.S,b.sn.length)
 | .b .fr=>(v.F,b.fr.length)
 | .b (.rw p)=>(Vr p,1*(b.rws.getD p []).length)
 |_=>(v.W,0)
theorem bdR7_map (v:BV)(Vw Vn Vr:Nat→Value)(dss:List (List Dd))(b:Bd):bdR7 v Vw Vn Vr dss b=(bdJ dss.length b.nts.length b.rws.length).map (rowJ v Vw Vn Vr dss b):=by
 unfold bdR7 bdR6 bdR5 bdR4 bdR3 bdR2 bdR1 bdR0 bdJ;simp only[rowsV_map,List.map_append,List.map_map,List.map_cons,List.map_nil];rfl
theorem bdJ_mem {nw nn nr:Nat}{j:BJ}(h:j∈bdJ nw nn nr):(∃c,c<nw∧j = .wd c)∨j = .b .plc∨j = .b .lst∨(∃c,c<nn∧j = .b (.nt c))∨j = .b .nxt∨j = .b .sn∨j = .b .fr∨∃p,p<nr∧j = .b (.rw p):=by
 unfold bdJ at h;simp only[List.mem_append,List.mem_map,List.mem_range,List.mem_singleton] at h;rcases h with ((((((⟨c,hc,rfl⟩|h)|h)|⟨c,hc,rfl⟩)|h)|h)|h)|⟨c,hc,rfl⟩
 · exact .inl ⟨c,hc,rfl⟩
 · exact .inr (.inl h)
 · exact .inr (.inr (.inl h))
 · exact .inr (.inr (.inr (.inl ⟨c,hc,rfl⟩)))
 · exact .inr (.inr (.inr (.inr (.inl h))))
 · exact .inr (.inr (.inr (.inr (.inr (.inl h)))))
 · exact .inr (.inr (.inr (.inr (.inr (.inr (.inl h))))))
 · exact .inr (.inr (.inr (.inr (.inr (.inr (.inr ⟨c,hc,rfl⟩))))))
theorem nodup_map_inj {α β:Type}{f:α→β}{l:List α}(h:l.Nodup)(hf:∀a b,f a=f b→a=b):(l.map f).Nodup:=by
 unfold List.Nodup;rw[List.pairwise_map];exact h.imp (fun {a b} hne e=>hne (hf a b e))
theorem bdJ_nodup (nw nn nr:Nat):(bdJ nw nn nr).Nodup:=by
 have h1:=nodup_map_inj (f:=BJ.wd) (List.nodup_range (n:=nw)) (fun a b e=>by injection e);have h2:=nodup_map_inj (f:=fun c=>BJ.b (.nt c)) (List.nodup_range (n:=nn)) (fun a b e=>by injection e with e;injection e);have h3:=nodup_map_inj (f:=fun c=>BJ.b (.rw c)) (List.nodup_range (n:=nr)) (fun a b e=>by injection e with e;injection e);unfold bdJ;have one:∀j:BJ,[j].Nodup:=fun j=>by simp
 refine List.nodup_append.2 ⟨List.nodup_append.2 ⟨List.nodup_append.2 ⟨List.nodup_append.2 ⟨List.nodup_append.2 ⟨List.nodup_append.2 ⟨List.nodup_append.2 ⟨h1,one _,?_⟩,one _,?_⟩,h2,?_⟩,one _,?_⟩,one _,?_⟩,one _,?_⟩,h3,?_⟩
 all_goals
  intro x hx y hy e;subst e;simp only[List.mem_append,List.mem_map,List.mem_range,List.mem_singleton] at hx hy
  first
   | (subst hy;simp at hx;done)
   | (obtain⟨q,_,rfl⟩:=hy;simp at hx;done)
theorem Rw.wb {w:World}{m:Nat}{r:Rw}(h:r.own w m){n:Nat}(hn:n≤r.n*r.size){x:Addr}(hx:rowS r.v n x):Wb w x∧m≤x.block∧r.v.ownBlock=some x.block:=by
 obtain⟨b,o,l,c,i,e,hi,rfl⟩:=hx;unfold Rw.own at h;rcases h.2 with ⟨h1,_⟩|⟨g,cap,cur,h1,hb,hg,hc,_,hs,_⟩
 · rw[h1] at e;simp at e
 ·
  rw[h1] at e;simp only[Value.slice.injEq,Option.some.injEq,Addr.mk.injEq,and_true] at e;obtain⟨⟨rfl,rfl⟩,rfl,rfl⟩:=e;refine⟨⟨cur,r.e,hg,?_⟩,hb,by rw[h1];rfl⟩;rw[hs];have:r.n*r.size≤cap*r.size:=Nat.mul_le_mul_right _ hc;show 0+i<cap*r.size;omega
theorem Rw.slv {w:World}{m:Nat}{r:Rw}(h:r.own w m):SlV r.v r.n:=by
 unfold Rw.own at h;rcases h.2 with ⟨h1,h2⟩|⟨g,cap,cur,h1,_⟩
 · exact⟨none,0,by rw[h1,h2],.inl h2⟩
 · exact⟨_,cap,h1,.inr ⟨g,0,rfl⟩⟩
section
variable {w:World} {m:Nat} {v:BV} {nv rv wv:List Value} {dss:List (List Dd)} {b:Bd}
theorem OwnA.row (h:OwnA w m v nv rv wv dss b){j:BJ}(hj:j∈bdJ dss.length b.nts.length b.rws.length):
  liveA nv rv wv j∧(rowJ v (fun i=>wv.getD i nilS) (fun i=>nv.getD i nilS) (fun i=>rv.getD i nilS) dss b j).1=(famA v nv rv wv dss b j).v ∧
  (rowJ v (fun i=>wv.getD i nilS) (fun i=>nv.getD i nilS) (fun i=>rv.getD i nilS) dss b j).2≤(famA v nv rv wv dss b j).n*(famA v nv rv wv dss b j).size:=by
 rcases bdJ_mem hj with ⟨c,hc,rfl⟩|rfl|rfl|⟨c,hc,rfl⟩|rfl|rfl|rfl|⟨c,hc,rfl⟩
 · exact⟨by show c<wv.length;rw[h.lw];exact hc,rfl,by show 4*(dss.getD c []).length≤(dss.getD c []).length*4;omega⟩
 · exact⟨⟨trivial,by simp⟩,rfl,by show b.plc.length≤b.plc.length*1;omega⟩
 · exact⟨⟨trivial,by simp⟩,rfl,by show b.lst.length≤b.lst.length*1;omega⟩
 · exact⟨⟨by show c<nv.length;rw[h.ln];exact hc,by simp⟩,rfl,by show 3*(b.nts.getD c []).length≤(b.nts.getD c []).length*3;omega⟩
 · exact⟨⟨trivial,by simp⟩,rfl,by show b.nxt.length≤b.nxt.length*1;omega⟩
 · exact⟨⟨trivial,by simp⟩,rfl,by show b.sn.length≤b.sn.length*1;omega⟩
 · exact⟨⟨trivial,by simp⟩,rfl,by show b.fr.length≤b.fr.length*1;omega⟩
 · exact⟨⟨by show c<rv.length;rw[h.lr];exact hc,by simp⟩,rfl,by show 1*(b.rws.getD c []).length≤(b.rws.getD c []).length*1;omega⟩
theorem OwnA.heads (h:OwnA w m v nv rv wv dss b){j:BJ}{t:TypeId}{vs:List Value}{u:Value}(hl:liveA nv rv wv j)(e:famA v nv rv wv dss b j=hdR t vs u)(hj:j∉bdJ dss.length b.nts.length b.rws.length):
  HdL w u (fun i=>vs.getD i nilS) vs.length (rowsS (bdR7 v (fun i=>wv.getD i nilS) (fun i=>nv.getD i nilS) (fun i=>rv.getD i nilS) dss b)):=by
 have ho:=h.fam.own j hl;rw[e] at ho;obtain⟨a,c,ea,h1⟩:=own_head ho;refine⟨a,c,ea,?_⟩;rcases h1 with h1|⟨g,e1,e2,e3⟩
 · exact .inl (by rw[h1];rfl)
 ·
  refine .inr ⟨g,0,e1,e2,fun i hi=>⟨by rw[Nat.zero_add];exact e3 i hi,?_⟩⟩;rintro⟨r,hr,hx⟩;rw[bdR7_map,List.mem_map] at hr;obtain⟨q,hq,rfl⟩:=hr;obtain⟨l1,l2,l3⟩:=h.row hq;rw[l2] at hx;obtain⟨-,-,hb⟩:=Rw.wb (h.fam.own q l1) l3 hx;have ap:=h.fam.apart q j l1 hl (fun e=>hj (e ▸ hq));rw[hb,e] at ap;rcases ap with ap|ap
  · cases ap
  ·
   apply ap;show _=u.ownBlock;rw[ea,e1];rfl
theorem OwnA.head_ge (h:OwnA w m v nv rv wv dss b){j:BJ}(hl:liveA nv rv wv j)(n:Nat):HdM (famA v nv rv wv dss b j).v n m:=by
 intro q o l c e _;exact (h.fam.lt hl q (by rw[e];rfl)).1
theorem OwnA.free (h:OwnA w m v nv rv wv dss b):FreeBd w m w.heap.size v dss b:=by
 refine⟨h.rd,⟨fun i=>wv.getD i nilS,fun i=>nv.getD i nilS,fun i=>rv.getD i nilS,?_,⟨?_,?_⟩,?_⟩,h.head_ge (j:= .wk) trivial _,h.head_ge (j:= .b .nts) ⟨trivial,by simp⟩ _,h.head_ge (j:= .b .rws) ⟨trivial,by simp⟩ _⟩
 ·
  have hw:=h.heads (j:= .wk) (t:=72) (vs:=wv) (u:=v.W) trivial rfl (fun hq=>by have:=bdJ_mem hq;simp at this);have hn:=h.heads (j:= .b .nts) (t:=36) (vs:=nv) (u:=v.N) ⟨trivial,by simp⟩ rfl (fun hq=>by have:=bdJ_mem hq;simp at this);have hr:=h.heads (j:= .b .rws) (t:=25) (vs:=rv) (u:=v.R) ⟨trivial,by simp⟩ rfl (fun hq=>by have:=bdJ_mem hq;simp at this);rw[h.lw] at hw;rw[h.ln] at hn;rw[h.lr] at hr
  exact⟨hw,fun i hi=>Rw.slv (h.fam.own (.wd i) (by show i<wv.length;rw[h.lw];exact hi)),Rw.slv (h.fam.own (.b .plc) ⟨trivial,by simp⟩),Rw.slv (h.fam.own (.b .lst) ⟨trivial,by simp⟩),hn,
   fun i hi=>Rw.slv (h.fam.own (.b (.nt i)) ⟨by show i<nv.length;rw[h.ln];exact hi,by simp⟩),Rw.slv (h.fam.own (.b .nxt) ⟨trivial,by simp⟩),Rw.slv (h.fam.own (.b .sn) ⟨trivial,by simp⟩),Rw.slv (h.fam.own (.b .fr) ⟨trivial,by simp⟩),hr,
   fun i hi=>Rw.slv (h.fam.own (.b (.rw i)) ⟨by show i<rv.length;rw[h.lr];exact hi,by simp⟩)⟩
 ·
  rintro x ⟨r,hr,hx⟩;rw[bdR7_map,List.mem_map] at hr;obtain⟨q,hq,rfl⟩:=hr;obtain⟨l1,l2,l3⟩:=h.row hq;rw[l2] at hx;exact (Rw.wb (h.fam.own q l1) l3 hx).1
 ·
  rw[bdR7_map,List.pairwise_map];refine List.Pairwise.imp_of_mem (R:=fun a b=>a≠b) (fun {p q} hp hq hne x hx hy=>?_) (bdJ_nodup _ _ _);obtain⟨l1,l2,l3⟩:=h.row hp;obtain⟨k1,k2,k3⟩:=h.row hq;rw[l2] at hx;rw[k2] at hy;have a1:=(Rw.wb (h.fam.own p l1) l3 hx).2.2;have a2:=(Rw.wb (h.fam.own q k1) k3 hy).2.2;rcases h.fam.apart p q l1 k1 hne with ap|ap
  · rw[a1] at ap;cases ap
  · rw[a1,a2] at ap;exact ap rfl
 ·
  rintro x ⟨r,hr,hx⟩;rw[bdR7_map,List.mem_map] at hr;obtain⟨q,hq,rfl⟩:=hr;obtain⟨l1,l2,l3⟩:=h.row hq;rw[l2] at hx;have:=Rw.wb (h.fam.own q l1) l3 hx;exact⟨this.2.1,this.1.lt⟩
end
theorem rd_above {w w':World}{m:Nat}(hh:∀q,m≤q→q<w.heap.size→w'.heap[q]? = w.heap[q]?)(hs:w.heap.size≤w'.heap.size){v:Value}{zs:List Int}(h:Rd w v zs)(hr:∀x,rowS v zs.length x→m≤x.block):Rd w' v zs:=by
 obtain⟨a,c,rfl,h⟩:=h;refine⟨a,c,rfl,?_⟩;rcases h with h|⟨b,o,rfl,hb,hc⟩
 · exact .inl h
 ·
  by_cases hz:zs.length=0
  · exact .inl (List.eq_nil_of_length_eq_zero hz)
  have hm:=hr ⟨b,o+0,none⟩ ⟨b,o,_,c,0,rfl,by omega,rfl⟩;exact .inr ⟨b,o,rfl,Nat.lt_of_lt_of_le hb hs,fun i hi=>(World.cell?_of_block (a:=⟨b,o+i,none⟩) (hh b hm hb)).trans (hc i hi)⟩
theorem rdN_above {w w':World}{m:Nat}(hh:∀q,m≤q→q<w.heap.size→w'.heap[q]? = w.heap[q]?)(hs:w.heap.size≤w'.heap.size){v:Value}{zs:List Nt}(h:RdN w v zs)(hr:∀x,rowS v (3*zs.length) x→m≤x.block):RdN w' v zs:=by
 obtain⟨a,c,rfl,h⟩:=h;refine⟨a,c,rfl,?_⟩;rcases h with h|⟨b,o,rfl,hb,hc⟩
 · exact .inl h
 ·
  by_cases hz:zs.length=0
  · exact .inl (List.eq_nil_of_length_eq_zero hz)
  have hm:=hr ⟨b,o+0,none⟩ ⟨b,o,_,_,0,rfl,by omega,rfl⟩;exact .inr ⟨b,o,rfl,Nat.lt_of_lt_of_le hb hs,fun i x hx=>(hc i x hx).same (hh b hm hb)⟩
theorem rdD_above {w w':World}{m:Nat}(hh:∀q,m≤q→q<w.heap.size→w'.heap[q]? = w.heap[q]?)(hs:w.heap.size≤w'.heap.size){v:Value}{zs:List Dd}(h:RdD w v zs)(hr:∀x,rowS v (4*zs.length) x→m≤x.block):RdD w' v zs:=by
 obtain⟨a,c,rfl,h⟩:=h;refine⟨a,c,rfl,?_⟩;rcases h with h|⟨b,o,rfl,hb,hc⟩
 · exact .inl h
 ·
  by_cases hz:zs.length=0
  · exact .inl (List.eq_nil_of_length_eq_zero hz)
  have hm:=hr ⟨b,o+0,none⟩ ⟨b,o,_,_,0,rfl,by omega,rfl⟩;refine .inr ⟨b,o,rfl,Nat.lt_of_lt_of_le hb hs,fun i hi=>?_⟩;obtain⟨c0,c1,c2,c3⟩:=hc i hi;have e:=hh b hm hb;exact⟨(World.cell?_of_block (a:=⟨b,_,none⟩) e).trans c0,(World.cell?_of_block (a:=⟨b,_,none⟩) e).trans c1,(World.cell?_of_block (a:=⟨b,_,none⟩) e).trans c2,(World.cell?_of_block (a:=⟨b,_,none⟩) e).trans c3⟩
theorem hd_above {w w':World}{m:Nat}(hh:∀q,m≤q→q<w.heap.size→w'.heap[q]? = w.heap[q]?)(hs:w.heap.size≤w'.heap.size){v:Value}{V:Nat→Value}{n:Nat}{S:Addr→Prop}(h:HdL w v V n S)(hm:HdM v n m):HdL w' v V n S:=by
 obtain⟨a,c,rfl,h⟩:=h;refine⟨a,c,rfl,?_⟩;rcases h with h|⟨b,o,rfl,hb,hc⟩
 · exact .inl h
 ·
  by_cases hz:n=0
  · exact .inl hz
  · exact .inr ⟨b,o,rfl,Nat.lt_of_lt_of_le hb hs,fun i hi=>⟨(World.cell?_of_block (a:=⟨b,o+i,none⟩) (hh b (hm b o n c rfl (by omega)) hb)).trans (hc i hi).1,(hc i hi).2⟩⟩
theorem row_in {v:BV}{Vw Vn Vr:Nat→Value}{dss:List (List Dd)}{b:Bd}{j:BJ}(hj:j∈bdJ dss.length b.nts.length b.rws.length){x:Addr}(hx:rowS (rowJ v Vw Vn Vr dss b j).1 (rowJ v Vw Vn Vr dss b j).2 x):rowsS (bdR7 v Vw Vn Vr dss b) x:=
 ⟨_,by rw[bdR7_map];exact List.mem_map.2 ⟨j,hj,rfl⟩,hx⟩
theorem bdJ_w {nw nn nr c:Nat}(h:c<nw):BJ.wd c∈bdJ nw nn nr:=by simp[bdJ,h]
theorem bdJ_n {nw nn nr c:Nat}(h:c<nn):BJ.b (.nt c)∈bdJ nw nn nr:=by simp[bdJ,h]
theorem bdJ_r {nw nn nr c:Nat}(h:c<nr):BJ.b (.rw c)∈bdJ nw nn nr:=by simp[bdJ,h]
theorem FreeBd.above {w w':World}{m M:Nat}{v:BV}{dss:List (List Dd)}{b:Bd}(h:FreeBd w m M v dss b)(hh:∀q,m≤q→q<w.heap.size→w'.heap[q]? = w.heap[q]?)(hs:w.heap.size≤w'.heap.size):FreeBd w' m M v dss b:=by
 obtain⟨Vw,Vn,Vr,H,L,G⟩:=h.ex;obtain⟨d1,d2,d3⟩:=h.hd;have gr:∀j,j∈bdJ dss.length b.nts.length b.rws.length→∀x,rowS (rowJ v Vw Vn Vr dss b j).1 (rowJ v Vw Vn Vr dss b j).2 x→m≤x.block:=fun j hj x hx=>(G x (row_in hj hx)).1
 refine⟨⟨?_,rd_above hh hs h.rd.P (gr (.b .plc) (by simp[bdJ])),rd_above hh hs h.rd.L (gr (.b .lst) (by simp[bdJ])),?_,rd_above hh hs h.rd.X (gr (.b .nxt) (by simp[bdJ])),rd_above hh hs h.rd.S (gr (.b .sn) (by simp[bdJ])),rd_above hh hs h.rd.F (gr (.b .fr) (by simp[bdJ])),?_⟩,⟨Vw,Vn,Vr,⟨hd_above hh hs H.hW d1,H.sW,H.sP,H.sL,hd_above hh hs H.hN d2,H.sN,H.sX,H.sS,H.sF,hd_above hh hs H.hR d3,H.sR⟩,⟨fun x hx=>?_,L.ap⟩,G⟩,h.hd⟩
 ·
  obtain⟨a,c,e,hw⟩:=h.rd.W;refine⟨a,c,e,?_⟩;rcases hw with hw|⟨q,o,rfl,hq,hc⟩
  · exact .inl hw
  ·
   by_cases hz:dss.length=0
   · exact .inl (List.eq_nil_of_length_eq_zero hz)
   obtain⟨a',c',e',H1⟩:=H.hW;rw[e] at e';simp only[Value.slice.injEq,true_and] at e';obtain⟨rfl,rfl⟩:=e';rcases H1 with H1|⟨q',o',e2,_,H2⟩
   · exact absurd H1 hz
   simp only[Option.some.injEq,Addr.mk.injEq,and_true] at e2;obtain⟨rfl,rfl⟩:=e2;refine .inr ⟨q,o,rfl,Nat.lt_of_lt_of_le hq hs,fun i hi=>?_⟩;obtain⟨vi,h1,h2⟩:=hc i hi;have ev:vi=Vw i:=by have:=h1.symm.trans (H2 i hi).1;exact Option.some.inj this
   subst ev;exact⟨_,(World.cell?_of_block (a:=⟨q,o+i,none⟩) (hh q (d1 q o _ _ e (by omega)) hq)).trans h1,rdD_above hh hs h2 (gr (.wd i) (bdJ_w hi))⟩
 ·
  obtain⟨a,c,e,hw⟩:=h.rd.N;refine⟨a,c,e,?_⟩;rcases hw with hw|⟨q,o,rfl,hq,hc⟩
  · exact .inl hw
  ·
   by_cases hz:b.nts.length=0
   · exact .inl (List.eq_nil_of_length_eq_zero hz)
   obtain⟨a',c',e',H1⟩:=H.hN;rw[e] at e';simp only[Value.slice.injEq,true_and] at e';obtain⟨rfl,rfl⟩:=e';rcases H1 with H1|⟨q',o',e2,_,H2⟩
   · exact absurd H1 hz
   simp only[Option.some.injEq,Addr.mk.injEq,and_true] at e2;obtain⟨rfl,rfl⟩:=e2;refine .inr ⟨q,o,rfl,Nat.lt_of_lt_of_le hq hs,fun i hi=>?_⟩;obtain⟨vi,h1,h2⟩:=hc i hi;have ev:vi=Vn i:=by have:=h1.symm.trans (H2 i hi).1;exact Option.some.inj this
   subst ev;exact⟨_,(World.cell?_of_block (a:=⟨q,o+i,none⟩) (hh q (d2 q o _ _ e (by omega)) hq)).trans h1,rdN_above hh hs h2 (gr (.b (.nt i)) (bdJ_n hi))⟩
 ·
  obtain⟨a,c,e,hw⟩:=h.rd.R;refine⟨a,c,e,?_⟩;rcases hw with hw|⟨q,o,rfl,hq,hc⟩
  · exact .inl hw
  ·
   by_cases hz:b.rws.length=0
   · exact .inl (List.eq_nil_of_length_eq_zero hz)
   obtain⟨a',c',e',H1⟩:=H.hR;rw[e] at e';simp only[Value.slice.injEq,true_and] at e';obtain⟨rfl,rfl⟩:=e';rcases H1 with H1|⟨q',o',e2,_,H2⟩
   · exact absurd H1 hz
   simp only[Option.some.injEq,Addr.mk.injEq,and_true] at e2;obtain⟨rfl,rfl⟩:=e2;refine .inr ⟨q,o,rfl,Nat.lt_of_lt_of_le hq hs,fun i hi=>?_⟩;obtain⟨vi,h1,h2⟩:=hc i hi;have ev:vi=Vr i:=by have:=h1.symm.trans (H2 i hi).1;exact Option.some.inj this
   subst ev;exact⟨_,(World.cell?_of_block (a:=⟨q,o+i,none⟩) (hh q (d3 q o _ _ e (by omega)) hq)).trans h1,rd_above hh hs h2 (fun x hx=>gr (.b (.rw i)) (bdJ_r hi) x (by show rowS _ (1*_) x;rw[Nat.one_mul];exact hx))⟩
 ·
  obtain⟨cur,t,h1,h2⟩:=L.wb x hx;exact⟨cur,t,(hh _ (G x hx).1 (L.wb x hx).lt).trans h1,h2⟩
end
section
structure OwnVal (w:World)(m:Nat)(v:BV)(nv rv:List Value)(bs N:Nat)(dss:List (List Dd))(b:Bd):Prop where
 fam:Fam w m (fun i=>liveB nv rv i∧i≠.bd) (famR 0 v nv rv b)
 ln:nv.length=b.nts.length
 lr:rv.length=b.rws.length
 work:RdXN w bs N v.W dss
 top:N≤w.heap.size
 out:∀i,liveB nv rv i→i≠.bd→∀k,(famR 0 v nv rv b i).v.ownBlock=some k→k<bs∨N≤k
section
variable {w w':World} {m D:Nat} {v:BV} {nv rv:List Value} {bs N:Nat} {dss:List (List Dd)} {b:Bd}
theorem famR_no (D:Nat)(v:BV)(nv rv:List Value)(b:Bd){i:BI}(h:i≠.bd):famR D v nv rv b i=famR 0 v nv rv b i:=by cases i<;>first|rfl|exact absurd rfl h
theorem OwnBd.val (h:OwnBd w m D v nv rv bs N dss b):OwnVal w m v nv rv bs N dss b:=
 ⟨h.fam.congr (fun _ hi=>hi.1) (fun i hi=>(famR_no D v nv rv b hi.2).symm),h.ln,h.lr,h.work,h.top,fun i hi hb k hk=>h.out i hi k (by rw[famR_no D v nv rv b hb];exact hk)⟩
theorem OwnVal.keep (h:OwnVal w m v nv rv bs N dss b)(k:Keep w w'):OwnVal w' m v nv rv bs N dss b:=
 ⟨h.fam.keep k,h.ln,h.lr,h.work.kept k.grownBy (by simp),Nat.le_trans h.top k.size,h.out⟩
theorem OwnVal.far (h:OwnVal w m v nv rv bs N dss b){row:Option Nat}(hg:w.grownBy w' row)(hr:∀k,row=some k→k<m∧(k<bs∨N≤k)):OwnVal w' m v nv rv bs N dss b:=
 ⟨h.fam.far hg (fun i hi=>by
  cases e:(famR 0 v nv rv b i).v.ownBlock with
  |none=>exact .inl rfl
  |some k=>exact .inr (fun e'=>by have:=(h.fam.lt hi k e).1;have:=hr k e'.symm;omega)),h.ln,h.lr,h.work.kept hg (fun g hg'=>(hr g hg').2),Nat.le_trans h.top hg.size,h.out⟩
theorem OwnVal.box (h:OwnVal w m v nv rv bs N dss b)(hm:m≤w.heap.size):OwnBd (w.alloc (.cells v.arr 29)) m w.heap.size v nv rv bs N dss b:=by
 have k:Keep w (w.alloc (.cells v.arr 29)):=(Keep.refl w).alloc _
 have ho:(bdR w.heap.size v).own (w.alloc (.cells v.arr 29)) m:=by
  refine⟨rfl,.inr ⟨w.heap.size,1,v.arr,rfl,hm,heap_alloc_new w _,Nat.le_refl _,by decide,rfl,?_⟩⟩;rfl
 have F:=h.fam.add (i:= .bd) (fun hi=>hi.2 rfl) (r:=bdR w.heap.size v) rfl k ho (fun q hq=>by have e:w.heap.size=q:=Option.some.inj hq;omega);have hk:=h.keep k;refine⟨F.congr (fun i hi=>?_) (fun i hi=>?_),h.ln,h.lr,hk.work,hk.top,fun i hi q hq=>?_⟩
 ·
  by_cases e:i = .bd
  · exact .inr e
  · exact .inl ⟨hi,e⟩
 ·
  by_cases e:i = .bd
  · subst e;rw[upd_same];rfl
  · rw[upd_other _ _ e];exact famR_no _ _ _ _ _ e
 ·
  by_cases e:i = .bd
  ·
   subst e;have:w.heap.size=q:=Option.some.inj hq;have:=h.top;right;omega
  ·
   rw[famR_no _ _ _ _ _ e] at hq;exact h.out i hi e q hq
theorem OwnVal.rd (h:OwnVal w m v nv rv bs N dss b)(hm:m≤w.heap.size):RdBd (w.alloc (.cells v.arr 29)) v dss b:=(h.box hm).rd
theorem OwnVal.rd0 (h:OwnVal w m v nv rv bs N dss b):RdBd w v dss b:=by
 have oN:∀ {c:Nat},c<b.nts.length→AppT cN 66 3 w m (nv.getD c nilS) (b.nts.getD c []):=fun {c} hc=>h.fam.own (.nt c) ⟨by show c<nv.length;rw[h.ln];exact hc,by simp⟩
 have oR:∀ {p:Nat},p<b.rws.length→Own w m (rv.getD p nilS) (b.rws.getD p []):=fun {p} hp=>h.fam.own (.rw p) ⟨by show p<rv.length;rw[h.lr];exact hp,by simp⟩
 have o1:Own w m v.P b.plc:=h.fam.own .plc ⟨trivial,by simp⟩;have o2:Own w m v.L b.lst:=h.fam.own .lst ⟨trivial,by simp⟩;have o3:Own w m v.X b.nxt:=h.fam.own .nxt ⟨trivial,by simp⟩;have o4:Own w m v.S b.sn:=h.fam.own .sn ⟨trivial,by simp⟩;have o5:Own w m v.F b.fr:=h.fam.own .fr ⟨trivial,by simp⟩;refine⟨h.work.rd,o1.rd,o2.rd,?_,o3.rd,o4.rd,o5.rd,?_⟩
 ·
  obtain⟨a,cap,e,h1⟩:=own_head (h.fam.own .nts ⟨trivial,by simp⟩);rw[h.ln] at e;refine⟨a,cap,e,?_⟩;rcases h1 with h1|⟨g,e1,e2,e3⟩
  ·
   left;have:=h.ln;rw[h1] at this;exact List.eq_nil_of_length_eq_zero this.symm
  · exact .inr ⟨g,0,e1,e2,fun i hi=>⟨_,by rw[Nat.zero_add];exact e3 i (by rw[h.ln];exact hi),AppT.rd cN_len (oN hi)⟩⟩
 ·
  obtain⟨a,cap,e,h1⟩:=own_head (h.fam.own .rws ⟨trivial,by simp⟩);rw[h.lr] at e;refine⟨a,cap,e,?_⟩;rcases h1 with h1|⟨g,e1,e2,e3⟩
  ·
   left;have:=h.lr;rw[h1] at this;exact List.eq_nil_of_length_eq_zero this.symm
  · exact .inr ⟨g,0,e1,e2,fun i hi=>⟨_,by rw[Nat.zero_add];exact e3 i (by rw[h.lr];exact hi),(oR hi).rd⟩⟩
theorem Fam.base_le {ι:Type}{m':Nat}{live:ι→Prop}{R:ι→Rw}(h:Fam w m live R)(hm:m'≤m):Fam w m' live R:=
 ⟨fun i hi=>by
  have o:=h.own i hi;refine⟨o.1,?_⟩;rcases o.2 with q|⟨g,cap,cur,e,hg,r⟩
  · exact .inl q
  · exact .inr ⟨g,cap,cur,e,Nat.le_trans hm hg,r⟩,h.apart⟩
theorem OwnVal.base_le {m':Nat}(h:OwnVal w m v nv rv bs N dss b)(hm:m'≤m):OwnVal w m' v nv rv bs N dss b:=⟨h.fam.base_le hm,h.ln,h.lr,h.work,h.top,h.out⟩
theorem OwnBd.heapD (h:OwnBd w m D v nv rv bs N dss b):w.heap[D]? = some (.cells v.arr 29 (0,0)):=by
 have o:=h.fam.own .bd trivial;rcases o.2 with ⟨e,_⟩|⟨g,cap,cur,e,_,hg,_,_,hs,ht⟩
 ·
  have e:Value.slice (some ⟨D,0,none⟩) 1 1 = .slice none 0 0:=e;simp at e
 ·
  have e:Value.slice (some ⟨D,0,none⟩) 1 1 = .slice (some ⟨g,0,none⟩) 1 cap:=e;simp only[Value.slice.injEq,Option.some.injEq,Addr.mk.injEq,and_true,true_and] at e;obtain⟨rfl,rfl⟩:=e;have hs:cur.size=1*8:=hs;have ht:cur.toList.take (1*8)=[v.W,v.P,v.L,v.N,v.X,v.S,v.F,v.R]:=ht;rw[List.take_of_length_le (by rw[Array.length_toList];omega)] at ht;have:cur=v.arr:=Array.ext' ht;rw[hg,this];rfl
end
end
theorem AppD.kept {w w':World}{base:Nat}{v:Value}{ds:List Dd}{row:Option Nat}(h:AppD w base v ds)(hg:w.grownBy w' row)(hne:v.ownBlock=none∨v.ownBlock≠row):AppD w' base v ds:=
 World.ownsRow.kept h hg hne
theorem AppD.lt {w:World}{base:Nat}{v:Value}{ds:List Dd}(h:AppD w base v ds):∀k,v.ownBlock=some k→base≤k∧k<w.heap.size:=World.ownsRow.lt h
theorem AppD.base_le {w:World}{base base':Nat}{v:Value}{ds:List Dd}(h:AppD w base v ds)(hb:base'≤base):AppD w base' v ds:=by
 refine⟨h.1,?_⟩;rcases h.2 with q|⟨g,cap,cur,e,hg,r⟩
 · exact .inl q
 · exact .inr ⟨g,cap,cur,e,Nat.le_trans hb hg,r⟩
theorem ne_of_ge {v:Value}{base c:Nat}(h:∀k,v.ownBlock=some k→base≤k)(hc:c<base):v.ownBlock=none∨v.ownBlock≠some c:=by
 cases hv:v.ownBlock with
 |none=>exact .inl rfl
 |some k=>exact .inr (fun e=>by have:=h k hv;simp at e;omega)
theorem flat_set (ds:List Dd)(k:Nat)(x:Int):k<ds.length→(ds.flatMap cD).set (k*4+3) (.int .i64 x)=(ds.set k ((ds.getD k zD).1,(ds.getD k zD).2.1,(ds.getD k zD).2.2.1,x)).flatMap cD:=by
 induction ds generalizing k with
 |nil=>intro hk;simp at hk
 |cons d r ih=>
  intro hk
  cases k with
  |zero=>simp[cD]
  |succ k=>
   have h1:=ih k (by simpa using hk);rw[List.flatMap_cons,List.set_append_right _ _ (by simp[cD];omega),show (k+1)*4+3-(cD d).length=k*4+3 by simp[cD];omega,h1];simp
theorem AppD.put {w:World}{base g n c:Nat}{ds:List Dd}(h:AppD w base (.slice (some ⟨g,0,none⟩) n c) ds){k:Nat}(hk:k<ds.length)(x:Int):
  AppD (w.setCell ⟨g,k*4+3,none⟩ (.int .i64 x)) base (.slice (some ⟨g,0,none⟩) n c) (ds.set k ((ds.getD k zD).1,(ds.getD k zD).2.1,(ds.getD k zD).2.2.1,x)):=by
 have hlen:(ds.flatMap cD).length=ds.length*4:=h.1;have e:=flat_set ds k x hk;rcases h.2 with ⟨q,_⟩|⟨g',cap,cur,e1,hb,hg,hc1,hc2,hs,ht⟩
 · cases q
 ·
  simp only[Value.slice.injEq,Option.some.injEq,Addr.mk.injEq,and_true] at e1;obtain⟨rfl,rfl,rfl⟩:=e1;refine⟨by rw[←e,List.length_set,List.length_set];exact hlen,.inr ⟨g,_,cur.setIfInBounds (k*4+3) (.int .i64 x),by rw[List.length_set],hb,?_,by rw[List.length_set];exact hc1,hc2,by simpa using hs,?_⟩⟩
  · rw[heap_setCell_same w g (k*4+3) _ _ _ hg]
  · rw[Array.toList_setIfInBounds,List.length_set,List.take_set,ht,e]
structure AppX (w:World)(base N:Nat)(v:Value)(V:Nat→Value)(dss:List (List Dd)):Prop where
 row:w.ownsRow base 72 1 v dss.length ((List.range dss.length).map V)
 lt:∀k,v.ownBlock=some k→k<N
 each:∀i,i<dss.length→AppD w base (V i) (dss.getD i [])
 lts:∀i,i<dss.length→∀k,(V i).ownBlock=some k→k<N
 out:∀i,i<dss.length→∀k,(V i).ownBlock=some k→v.ownBlock≠some k
 apart:∀i j,i<j→j<dss.length→∀k,(V i).ownBlock=some k→(V j).ownBlock≠some k
theorem AppX.kept {w w':World}{base N c:Nat}{v:Value}{V:Nat→Value}{dss:List (List Dd)}(h:AppX w base N v V dss)(hg:w.grownBy w' (some c))(hc:c<base):AppX w' base N v V dss:=
 ⟨World.ownsRow.kept h.row hg (ne_of_ge (fun k hk=>(World.ownsRow.lt h.row k hk).1) hc),h.lt,fun i hi=>(h.each i hi).kept hg (ne_of_ge (h.each i hi).ge hc),h.lts,h.out,h.apart⟩
theorem AppX.keep {w w':World}{base N:Nat}{v:Value}{V:Nat→Value}{dss:List (List Dd)}(h:AppX w base N v V dss)(k:Keep w w'):AppX w' base N v V dss:=
 ⟨World.ownsRow.kept h.row k.grownBy (by cases v.ownBlock<;>simp),h.lt,fun i hi=>(h.each i hi).keep k,h.lts,h.out,h.apart⟩
theorem AppX.up {w:World}{base N N':Nat}{v:Value}{V:Nat→Value}{dss:List (List Dd)}(h:AppX w base N v V dss)(hN:N≤N'):AppX w base N' v V dss:=
 ⟨h.row,fun k hk=>Nat.lt_of_lt_of_le (h.lt k hk) hN,h.each,fun i hi k hk=>Nat.lt_of_lt_of_le (h.lts i hi k hk) hN,h.out,h.apart⟩
theorem range_getV (V:Nat→Value)(n i:Nat)(h:i<n):((List.range n).map V)[i]? = some (V i):=by
 rw[List.getElem?_map,List.getElem?_range h];rfl
theorem AppX.at {w:World}{base N:Nat}{v:Value}{V:Nat→Value}{dss:List (List Dd)}(h:AppX w base N v V dss)(hn:0<dss.length):
  ∃g c,v = .slice (some ⟨g,0,none⟩) dss.length c∧base≤g∧g<N∧g<w.heap.size∧dss.length≤c∧(∀i,i<dss.length→w.cell? ⟨g,i,none⟩=some (V i))∧∀i,w.frozen? ⟨g,i,none⟩=false:=by
 have h2:=h.row;have hlt:=World.ownsRow.lt h2;have hN:=h.lt;rcases h2.2 with ⟨_,hz⟩|⟨g,cap,cur,rfl,hb,hg,hc,_⟩
 · omega
 ·
  refine⟨g,cap,rfl,hb,hN g rfl,(hlt g rfl).2,hc,fun i hi=>?_,fun i=>frozen_of_row w g i _ _ hg⟩;rw[World.ownsRow.cellAt h2 i (by simpa using hi),range_getV V _ i hi]
theorem AppX.rdW {w:World}{base N:Nat}{v:Value}{V:Nat→Value}{dss:List (List Dd)}(h:AppX w base N v V dss):RdW w v dss:=by
 by_cases hn:0<dss.length
 ·
  obtain⟨g,c,rfl,_,_,hg,_,hc,_⟩:=h.at hn;exact⟨_,_,rfl,.inr ⟨g,0,rfl,hg,fun i hi=>⟨V i,by rw[Nat.zero_add];exact hc i hi,(h.each i hi).ownD.rd⟩⟩⟩
 ·
  have h0:dss=[]:=List.eq_nil_of_length_eq_zero (by omega);subst h0;rcases h.row.2 with ⟨rfl,_⟩|⟨g,cap,cur,rfl,_⟩
  · exact⟨none,0,rfl,.inl rfl⟩
  · exact⟨_,_,rfl,.inl rfl⟩
theorem RdX.kept {w w':World}{base c:Nat}{v:Value}{dss:List (List Dd)}(h:RdX w base v dss)(hg:w.grownBy w' (some c))(hc:c<base):RdX w' base v dss:=by
 obtain⟨a,cap,hv,h⟩:=h;refine⟨a,cap,hv,?_⟩;rcases h with h|⟨b,off,ha,hbb,hb,hl⟩
 · exact .inl h
 ·
  refine .inr ⟨b,off,ha,hbb,Nat.lt_of_lt_of_le hb hg.size,fun i hi=>?_⟩;obtain⟨vi,h1,h2⟩:=hl i hi;have hblk:w'.heap[b]? = w.heap[b]?:=hg.block b hb (by simp;omega);refine⟨vi,?_,h2.kept hg (ne_of_ge h2.ge hc)⟩;simp only[World.cell?,hblk] at h1 ⊢;exact h1
theorem AppX.rdX {w:World}{base N:Nat}{v:Value}{V:Nat→Value}{dss:List (List Dd)}(h:AppX w base N v V dss):RdX w base v dss:=by
 by_cases hn:0<dss.length
 ·
  obtain⟨g,c,rfl,hb,_,hg,_,hc,_⟩:=h.at hn;exact⟨_,_,rfl,.inr ⟨g,0,rfl,hb,hg,fun i hi=>⟨V i,by rw[Nat.zero_add];exact hc i hi,h.each i hi⟩⟩⟩
 ·
  have h0:dss=[]:=List.eq_nil_of_length_eq_zero (by omega);subst h0;rcases h.row.2 with ⟨rfl,_⟩|⟨g,cap,cur,rfl,_⟩
  · exact⟨none,0,rfl,.inl rfl⟩
  · exact⟨_,_,rfl,.inl rfl⟩
theorem AppX.push {w w1:World}{base N:Nat}{v v' u:Value}{V:Nat→Value}{dss:List (List Dd)}{ds:List Dd}(h:AppX w base N v V dss)(hu:AppD w N u ds)(hb:base≤N)
  (hown:w1.ownsRow base 72 1 v' (dss.length+1) ((List.range dss.length).map V++[u])) (hgrow:w.grownBy w1 v.ownBlock) (hblk:v'.ownBlock=v.ownBlock∨v'.ownBlock=some w.heap.size) (hN:N≤w.heap.size):
  AppX w1 base w1.heap.size v' (fun i=>if i=dss.length then u else V i) (dss++[ds]):=by
 have hl:(dss++[ds]).length=dss.length+1:=by simp
 have hs:=hgrow.size;have vne:∀k,u.ownBlock=some k→v.ownBlock≠some k:=fun k hk e=>by have:=(hu.lt k hk).1;have:=h.lt k e;omega
 have older:∀i,i<dss.length+1→i≠dss.length→i<dss.length:=fun i h1 h2=>by omega
 refine⟨?_,fun k hk=>(World.ownsRow.lt hown k hk).2,fun i hi=>?_,fun i hi k hk=>?_,fun i hi k hk=>?_,fun i j hij hj k hk=>?_⟩
 ·
  rw[hl,List.range_succ,List.map_append]
  have e:(List.range dss.length).map (fun i=>if i=dss.length then u else V i)=(List.range dss.length).map V:=by
   apply List.map_congr_left;intro i hi;rw[List.mem_range] at hi;rw[if_neg (by omega)]
  rw[e]
  simpa using hown
 ·
  rw[hl] at hi;by_cases e:i=dss.length
  ·
   subst e;rw[if_pos rfl,getD_last dss ds []];refine (hu.base_le hb).kept hgrow ?_
   cases hv:u.ownBlock with
   |none=>exact .inl rfl
   |some k=>exact .inr (fun e=>vne k hv e.symm)
  ·
   rw[if_neg e,getD_left dss [ds] i [] (older i hi e)];refine (h.each i (older i hi e)).kept hgrow ?_
   cases hv:(V i).ownBlock with
   |none=>exact .inl rfl
   |some k=>exact .inr (fun e2=>h.out i (older i hi e) k hv e2.symm)
 ·
  rw[hl] at hi;by_cases e:i=dss.length
  ·
   rw[if_pos e] at hk;have:=(hu.lt k hk).2;omega
  ·
   rw[if_neg e] at hk;have:=h.lts i (older i hi e) k hk;omega
 ·
  rw[hl] at hi;by_cases e:i=dss.length
  ·
   rw[if_pos e] at hk;rcases hblk with e2|e2
   · rw[e2];exact vne k hk
   ·
    rw[e2];have:=(hu.lt k hk).2;simp only[ne_eq,Option.some.injEq];omega
  ·
   rw[if_neg e] at hk;rcases hblk with e2|e2
   · rw[e2];exact h.out i (older i hi e) k hk
   ·
    rw[e2];have:=h.lts i (older i hi e) k hk;simp only[ne_eq,Option.some.injEq];omega
 ·
  rw[hl] at hj;rw[if_neg (show i≠dss.length by omega)] at hk;by_cases e:j=dss.length
  ·
   rw[if_pos e];intro e2;have:=(hu.lt k e2).1;have:=h.lts i (by omega) k hk;omega
  ·
   rw[if_neg e];exact h.apart i j hij (by omega) k hk
theorem getD_setW {α:Type}(l:List α)(i j:Nat)(x z:α)(hi:i<l.length):(l.set i x).getD j z=if i=j then x else l.getD j z:=by
 rw[List.getD_eq_getElem?_getD,List.getElem?_set];by_cases e:i=j
 · subst e;rw[if_pos rfl,if_pos hi,if_pos rfl];rfl
 · rw[if_neg e,if_neg e,List.getD_eq_getElem?_getD]
theorem AppX.put {w:World}{base N:Nat}{v:Value}{V:Nat→Value}{dss:List (List Dd)}(h:AppX w base N v V dss){i k g n c:Nat}(hi:i<dss.length)(hV:V i = .slice (some ⟨g,0,none⟩) n c)(hk:k<(dss.getD i []).length)(x:Int):
  ∃ds,ds.length=(dss.getD i []).length∧AppX (w.setCell ⟨g,k*4+3,none⟩ (.int .i64 x)) base N v V (dss.set i ds):=by
 have ob:(V i).ownBlock=some g:=by rw[hV];rfl
 have hg:=grown_put w g (k*4+3) (.int .i64 x);have hap:=h.each i hi;rw[hV] at hap;refine⟨(dss.getD i []).set k (((dss.getD i []).getD k zD).1,((dss.getD i []).getD k zD).2.1,((dss.getD i []).getD k zD).2.2.1,x),by rw[List.length_set],⟨?_,h.lt,fun j hj=>?_,fun j hj=>h.lts j (by simpa using hj),fun j hj=>h.out j (by simpa using hj),fun a b hab hb=>h.apart a b hab (by simpa using hb)⟩⟩
 ·
  rw[List.length_set];refine World.ownsRow.kept h.row hg ?_;exact .inr (h.out i hi g ob)
 ·
  rw[List.length_set] at hj;rw[getD_setW dss i j _ [] hi];by_cases e:i=j
  ·
   subst e;rw[if_pos rfl,hV];exact hap.put hk x
  ·
   rw[if_neg e];refine (h.each j hj).kept hg ?_
   cases hv:(V j).ownBlock with
   |none=>exact .inl rfl
   |some q=>
    refine .inr (fun e2=>?_);simp only[Option.some.injEq] at e2;subst e2;rcases Nat.lt_or_gt_of_ne e with hl|hl
    · exact h.apart i j hl hj q ob hv
    · exact h.apart j i hl hi q hv ob
section
section
variable {w w1 w2 w':World} {m D:Nat} {v:BV} {nv rv:List Value} {bs N:Nat} {dss:List (List Dd)} {b:Bd}
end
structure OwnLW (w:World)(bs N:Nat)(v:Value)(wv:List Value)(dss:List (List Dd)):Prop where
 ll:OwnLL 72 ddR w bs v wv dss
 lt:∀o,llLive wv.length o→∀k,(llR 72 ddR v wv dss o).v.ownBlock=some k→k<N
theorem OwnLW.kept {w w':World}{bs N:Nat}{v:Value}{wv:List Value}{dss:List (List Dd)}(h:OwnLW w bs N v wv dss){row:Option Nat}(hg:w.grownBy w' row)(hr:∀g,row=some g→g<bs∨N≤g):OwnLW w' bs N v wv dss:=
 ⟨⟨h.ll.fam.far hg (fun i hi=>by
  cases e:(llR 72 ddR v wv dss i).v.ownBlock with
  |none=>exact .inl rfl
  |some k=>exact .inr (fun e'=>by have:=(h.ll.fam.lt hi k e).1;have:=h.lt i hi k e;have:=hr k e'.symm;omega)),h.ll.len⟩,h.lt⟩
theorem OwnLW.keep {w w':World}{bs N:Nat}{v:Value}{wv:List Value}{dss:List (List Dd)}(h:OwnLW w bs N v wv dss)(k:Keep w w'):OwnLW w' bs N v wv dss:=h.kept k.grownBy (by simp)
theorem AppX.ownLW {w:World}{base N:Nat}{v:Value}{V:Nat→Value}{dss:List (List Dd)}(h:AppX w base N v V dss):OwnLW w base N v ((List.range dss.length).map V) dss:=by
 have e:∀i,i<dss.length→((List.range dss.length).map V).getD i nilS=V i:=fun i hi=>by rw[List.getD_eq_getElem?_getD,range_getV V _ i hi];rfl
 have hl:((List.range dss.length).map V).length=dss.length:=by simp
 have at0:∀i,llLive ((List.range dss.length).map V).length (some i)→i<dss.length:=fun i hi=>by rw[←hl];exact hi
 refine⟨⟨⟨fun o ho=>?_,fun o o' ho ho' hne=>?_⟩,hl⟩,fun o ho k hk=>?_⟩
 ·
  cases o with
  |none=>
   show w.ownsRow base _ 1 v ((List.range dss.length).map V).length ((List.range dss.length).map V);rw[hl];exact h.row
  |some i=>
   show w.ownsRow base _ 4 (((List.range dss.length).map V).getD i nilS) (dss.getD i []).length _;rw[e i (at0 i ho)];exact h.each i (at0 i ho)
 ·
  cases o with
  |none=>
   cases o' with
   |none=>exact absurd rfl hne
   |some i=>
    show v.ownBlock=none∨v.ownBlock≠(((List.range dss.length).map V).getD i nilS).ownBlock;rw[e i (at0 i ho')]
    cases hv:(V i).ownBlock with
    |none=>cases v.ownBlock<;>simp
    |some k=>exact .inr (h.out i (at0 i ho') k hv)
  |some i=>
   show (((List.range dss.length).map V).getD i nilS).ownBlock=none∨(((List.range dss.length).map V).getD i nilS).ownBlock≠_;rw[e i (at0 i ho)]
   cases hv:(V i).ownBlock with
   |none=>exact .inl rfl
   |some k=>
    right
    cases o' with
    |none=>exact fun q=>h.out i (at0 i ho) k hv q.symm
    |some j=>
     show _≠(((List.range dss.length).map V).getD j nilS).ownBlock;rw[e j (at0 j ho')];have hij:i≠j:=fun q=>hne (by rw[q])
     rcases Nat.lt_or_ge i j with q|q
     · exact fun x=>h.apart i j q (at0 j ho') k hv x.symm
     · exact fun x=>h.apart j i (by omega) (at0 i ho) k x.symm hv
 ·
  cases o with
  |none=>exact h.lt k hk
  |some i=>
   have hk:(((List.range dss.length).map V).getD i nilS).ownBlock=some k:=hk;rw[e i (at0 i ho)] at hk;exact h.lts i (at0 i ho) k hk
theorem grown_more {a b c:World}{row r2:Option Nat}(h:a.grownBy b row)(k:b.grownBy c r2)(hr:∀g,r2=some g→a.heap.size≤g):a.grownBy c row:=
 ⟨k.os.trans h.os,k.tape.trans h.tape,k.output.trans h.output,Nat.le_trans h.size k.size,fun q hq hne=>(k.block q (Nat.lt_of_lt_of_le hq h.size) (fun e=>by have:=hr q e.symm;omega)).trans (h.block q hq hne)⟩
theorem grown_same {a b c:World}{row:Option Nat}(h:a.grownBy b row)(k:b.grownBy c row):a.grownBy c row:=
 ⟨k.os.trans h.os,k.tape.trans h.tape,k.output.trans h.output,Nat.le_trans h.size k.size,fun q hq hne=>(k.block q (Nat.lt_of_lt_of_le hq h.size) hne).trans (h.block q hq hne)⟩
structure NB (wb w:World)(m D:Nat)(v:BV)(nv rv:List Value)(bs N:Nat)(dss:List (List Dd))(b:Bd):Prop where
 ob:OwnBd w m D v nv rv bs N dss b
 lo:∀i,liveB nv rv i→i≠.bd→∀k,(famR D v nv rv b i).v.ownBlock=some k→wb.heap.size≤k
 sm:wb.grownBy w (some D)
section
variable {wb w w1 w2 w':World} {m D:Nat} {v:BV} {nv rv wv:List Value} {bs N:Nat} {dss:List (List Dd)} {b:Bd}
theorem NB.start {W:Value}(h:OwnBd w m D ⟨W,nilS,nilS,nilS,nilS,nilS,nilS,nilS⟩ [] [] bs N dss ⟨[],[],[],[],[],[],[]⟩):NB w w m D ⟨W,nilS,nilS,nilS,nilS,nilS,nilS,nilS⟩ [] [] bs N dss ⟨[],[],[],[],[],[],[]⟩:=by
 refine⟨h,fun i hi hb k hk=>?_,World.grownBy.refl _ _⟩
 cases i with
 |bd=>exact absurd rfl hb
 |nt c=>exact absurd (show c<0 from hi) (by omega)
 |rw c=>exact absurd (show c<0 from hi) (by omega)
 |_=>exact absurd (show (none:Option Nat)=some k from hk) (by simp)
theorem NB.keep (h:NB wb w m D v nv rv bs N dss b)(k:Keep w w'):NB wb w' m D v nv rv bs N dss b:=⟨h.ob.keep k,h.lo,grown_more h.sm k.grownBy (by simp)⟩
theorem NB.put (h:NB wb w m D v nv rv bs N dss b)(i:BI)(hi:liveB nv rv i)(hb:i≠.bd)(hg:w.grownBy w2 (famR D v nv rv b i).v.ownBlock)(k:Nat)(u:Value):wb.grownBy (w2.setCell ⟨D,k,none⟩ u) (some D):=
 grown_same (grown_more h.sm hg (fun g e=>h.lo i hi hb g e)) (grown_set w2 D k u)
theorem NB.growS (h:NB wb w m D v nv rv bs N dss b){u:Value}{zs:List Int}(hg:w.grownBy w2 v.S.ownBlock)(hb:u.ownBlock=v.S.ownBlock∨u.ownBlock=some w.heap.size)(ho:Own w2 m u zs):
  NB wb (w2.setCell ⟨D,5,none⟩ u) m D { v with S:=u } nv rv bs N dss { b with sn:=zs }∧w2.cell? ⟨D,5,none⟩=some v.S∧w2.frozen? ⟨D,5,none⟩=false:=by
 obtain⟨h1,h2,h3⟩:=h.ob.growS hg (by rcases hb with e|e;exact .inl e;exact .inr (.inl e)) ho;refine⟨⟨h1,fun i hi hb' k hk=>?_,h.put .sn trivial (by simp) hg 5 u⟩,h2,h3⟩;by_cases e:i = .sn
 ·
  subst e;have hk:u.ownBlock=some k:=hk;rcases hb with e|e
  · exact h.lo .sn trivial (by simp) k (e.symm.trans hk)
  ·
   rw[e] at hk;have:=Option.some.inj hk;have:=h.sm.size;omega
 ·
  refine h.lo i hi hb' k ?_;cases i<;>first|exact hk|exact absurd rfl e|exact absurd rfl hb'
theorem NB.growF (h:NB wb w m D v nv rv bs N dss b){u:Value}{zs:List Int}(hg:w.grownBy w2 v.F.ownBlock)(hb:u.ownBlock=v.F.ownBlock∨u.ownBlock=some w.heap.size)(ho:Own w2 m u zs):
  NB wb (w2.setCell ⟨D,6,none⟩ u) m D { v with F:=u } nv rv bs N dss { b with fr:=zs }∧w2.cell? ⟨D,6,none⟩=some v.F∧w2.frozen? ⟨D,6,none⟩=false:=by
 obtain⟨h1,h2,h3⟩:=h.ob.growF hg (by rcases hb with e|e;exact .inl e;exact .inr (.inl e)) ho;refine⟨⟨h1,fun i hi hb' k hk=>?_,h.put .fr trivial (by simp) hg 6 u⟩,h2,h3⟩;by_cases e:i = .fr
 ·
  subst e;have hk:u.ownBlock=some k:=hk;rcases hb with e|e
  · exact h.lo .fr trivial (by simp) k (e.symm.trans hk)
  ·
   rw[e] at hk;have:=Option.some.inj hk;have:=h.sm.size;omega
 ·
  refine h.lo i hi hb' k ?_;cases i<;>first|exact hk|exact absurd rfl e|exact absurd rfl hb'
theorem NB.pushN (h:NB wb w m D v nv rv bs N dss b){u u':Value}{ns:List Nt}(k1:Keep w w1)(hu:∀k,u.ownBlock=some k→w.heap.size≤k)(ou:AppT cN 66 3 w1 m u ns)
  (hg:w1.grownBy w2 v.N.ownBlock) (hb:u'.ownBlock=v.N.ownBlock∨u'.ownBlock=some w1.heap.size) (ho:(hdR 36 (nv++[u]) u').own w2 m):
  NB wb (w2.setCell ⟨D,3,none⟩ u') m D { v with N:=u' } (nv++[u]) rv bs N dss { b with nts:=b.nts++[ns] }∧w2.cell? ⟨D,3,none⟩=some v.N∧w2.frozen? ⟨D,3,none⟩=false:=by
 obtain⟨h1,h2,h3⟩:=h.ob.pushN k1 hu ou hg (by rcases hb with e|e;exact .inl e;exact .inr (.inl e)) ho;have hs:=h.sm.size;have hs1:=k1.size;refine⟨⟨h1,fun i hi hb' k hk=>?_,(h.keep k1).put .nts trivial (by simp) hg 3 u'⟩,h2,h3⟩
 cases i with
 |bd=>exact absurd rfl hb'
 |nts=>
  have hk:u'.ownBlock=some k:=hk;rcases hb with e|e
  · exact h.lo .nts trivial (by simp) k (e.symm.trans hk)
  ·
   rw[e] at hk;have:=Option.some.inj hk;omega
 |nt q=>
  have hk:((nv++[u]).getD q nilS).ownBlock=some k:=hk;rw[getD_app] at hk;by_cases e:q=nv.length
  · rw[if_pos e] at hk;have:=hu k hk;omega
  ·
   rw[if_neg e] at hk;have hq:q<(nv++[u]).length:=hi;rw[List.length_append] at hq;exact h.lo (.nt q) (show q<nv.length by simp at hq;omega) (by simp) k hk
 |rw q=>exact h.lo (.rw q) hi (by simp) k hk
 |plc=>exact h.lo .plc trivial (by simp) k hk
 |lst=>exact h.lo .lst trivial (by simp) k hk
 |nxt=>exact h.lo .nxt trivial (by simp) k hk
 |sn=>exact h.lo .sn trivial (by simp) k hk
 |fr=>exact h.lo .fr trivial (by simp) k hk
 |rws=>exact h.lo .rws trivial (by simp) k hk
theorem NB.pushR (h:NB wb w m D v nv rv bs N dss b){u u':Value}{zs:List Int}(k1:Keep w w1)(hu:∀k,u.ownBlock=some k→w.heap.size≤k)(ou:Own w1 m u zs)
  (hg:w1.grownBy w2 v.R.ownBlock) (hb:u'.ownBlock=v.R.ownBlock∨u'.ownBlock=some w1.heap.size) (ho:(hdR 25 (rv++[u]) u').own w2 m):
  NB wb (w2.setCell ⟨D,7,none⟩ u') m D { v with R:=u' } nv (rv++[u]) bs N dss { b with rws:=b.rws++[zs] }∧w2.cell? ⟨D,7,none⟩=some v.R∧w2.frozen? ⟨D,7,none⟩=false:=by
 obtain⟨h1,h2,h3⟩:=h.ob.pushR k1 hu ou hg (by rcases hb with e|e;exact .inl e;exact .inr (.inl e)) ho;have hs:=h.sm.size;have hs1:=k1.size;refine⟨⟨h1,fun i hi hb' k hk=>?_,(h.keep k1).put .rws trivial (by simp) hg 7 u'⟩,h2,h3⟩
 cases i with
 |bd=>exact absurd rfl hb'
 |rws=>
  have hk:u'.ownBlock=some k:=hk;rcases hb with e|e
  · exact h.lo .rws trivial (by simp) k (e.symm.trans hk)
  ·
   rw[e] at hk;have:=Option.some.inj hk;omega
 |rw q=>
  have hk:((rv++[u]).getD q nilS).ownBlock=some k:=hk;rw[getD_app] at hk;by_cases e:q=rv.length
  · rw[if_pos e] at hk;have:=hu k hk;omega
  ·
   rw[if_neg e] at hk;have hq:q<(rv++[u]).length:=hi;rw[List.length_append] at hq;exact h.lo (.rw q) (show q<rv.length by simp at hq;omega) (by simp) k hk
 |nt q=>exact h.lo (.nt q) hi (by simp) k hk
 |plc=>exact h.lo .plc trivial (by simp) k hk
 |lst=>exact h.lo .lst trivial (by simp) k hk
 |nxt=>exact h.lo .nxt trivial (by simp) k hk
 |sn=>exact h.lo .sn trivial (by simp) k hk
 |fr=>exact h.lo .fr trivial (by simp) k hk
 |nts=>exact h.lo .nts trivial (by simp) k hk
theorem OwnBd.all (ob:OwnBd w m D v nv rv bs N dss b)(lw:OwnLW w bs N v.W wv dss)(hm:m≤bs):OwnA w m v nv rv wv dss b:=by
 have fo:∀i,i≠BI.bd→famR 0 v nv rv b i=famR D v nv rv b i:=fun i hi=>by cases i<;>first|rfl|exact absurd rfl hi
 have wl:∀o,llLive wv.length o→∀k,(llR 72 ddR v.W wv dss o).v.ownBlock=some k→bs≤k∧k<N:=fun o ho k hk=>⟨(lw.ll.fam.lt ho k hk).1,lw.lt o ho k hk⟩
 have cross:∀i,liveB nv rv i→∀o,llLive wv.length o→(famR D v nv rv b i).v.ownBlock=none∨(famR D v nv rv b i).v.ownBlock≠(llR 72 ddR v.W wv dss o).v.ownBlock:=fun i hi o ho=>by
  cases e:(famR D v nv rv b i).v.ownBlock with
  |none=>exact .inl rfl
  |some k=>exact .inr (fun q=>by have:=ob.out i hi k e;have:=wl o ho k q.symm;omega)
 have cross':∀o,llLive wv.length o→∀i,liveB nv rv i→(llR 72 ddR v.W wv dss o).v.ownBlock=none∨(llR 72 ddR v.W wv dss o).v.ownBlock≠(famR D v nv rv b i).v.ownBlock:=fun o ho i hi=>by
  cases e:(llR 72 ddR v.W wv dss o).v.ownBlock with
  |none=>exact .inl rfl
  |some k=>exact .inr (fun q=>by have:=ob.out i hi k q.symm;have:=wl o ho k e;omega)
 refine⟨⟨fun j hj=>?_,fun i j hi hj hij=>?_⟩,ob.ln,ob.lr,lw.ll.len⟩
 ·
  cases j with
  |b i=>
   show (famR 0 v nv rv b i).own w m;rw[fo i hj.2];exact ob.fam.own i hj.1
  |wk=>exact own_base (lw.ll.fam.own none trivial) hm
  |wd c=>exact own_base (lw.ll.fam.own (some c) hj) hm
 ·
  cases i with
  |b i=>
   show (famR 0 v nv rv b i).v.ownBlock=none∨(famR 0 v nv rv b i).v.ownBlock≠_;rw[fo i hi.2]
   cases j with
   |b j=>
    show _∨_≠(famR 0 v nv rv b j).v.ownBlock;rw[fo j hj.2];exact ob.fam.apart i j hi.1 hj.1 (fun e=>hij (by rw[e]))
   |wk=>exact cross i hi.1 none trivial
   |wd c=>exact cross i hi.1 (some c) hj
  |wk=>
   cases j with
   |b j=>
    show _∨_≠(famR 0 v nv rv b j).v.ownBlock;rw[fo j hj.2];exact cross' none trivial j hj.1
   |wk=>exact absurd rfl hij
   |wd c=>exact lw.ll.fam.apart none (some c) trivial hj (by simp)
  |wd c=>
   cases j with
   |b j=>
    show _∨_≠(famR 0 v nv rv b j).v.ownBlock;rw[fo j hj.2];exact cross' (some c) hi j hj.1
   |wk=>exact lw.ll.fam.apart (some c) none hi trivial (by simp)
   |wd d=>exact lw.ll.fam.apart (some c) (some d) hi hj (fun e=>hij (by have:=Option.some.inj e;rw[this]))
end
end
section
def live2 (rows:List Nat)(cnt:Nat→Nat)(B:Nat→Bool)(j:Nat×Nat):Prop:=j.1∈rows∧B j.1=true∧j.2<cnt j.1
def upd2 (R:Nat×Nat→Rw)(o:Nat)(r:Nat→Rw):Nat×Nat→Rw:=fun j=>if j.1=o then r j.2 else R j
theorem live2_upd {rows:List Nat}{cnt:Nat→Nat}{B:Nat→Bool}{i:Nat}{j:Nat×Nat}(h:live2 rows cnt (updB B i) j):live2 rows cnt B j∨j.1=i:=by
 obtain⟨h1,h2,h3⟩:=h;by_cases e:j.1=i
 · exact .inr e
 ·
  refine .inl ⟨h1,?_,h3⟩;unfold updB at h2;rw[if_neg e] at h2;exact h2
theorem live2_pure {rows:List Nat}{cnt:Nat→Nat}{B:Nat→Bool}{i:Nat}{j:Nat×Nat}(hi:i∉rows)(h:live2 rows cnt (updB B i) j):live2 rows cnt B j:=by
 rcases live2_upd h with q|q
 · exact q
 · exact absurd h.1 (by rw[q];exact hi)
structure Mk2 (w:World)(m:Nat)(live:Nat×Nat→Prop)(R:Nat×Nat→Rw)(wk:Bool)(vW:Value)(wv:List Value)(bs N:Nat)(dss:List (List Dd)):Prop where
 fam:Fam w m live R
 work:wk=true→RdXN w bs N vW dss∧OwnLW w bs N vW wv dss∧N≤w.heap.size∧m≤bs
 out:wk=true→∀i,live i→∀k,(R i).v.ownBlock=some k→k<bs∨N≤k
section
variable {w w':World} {m:Nat} {rows:List Nat} {cnt:Nat→Nat} {B:Nat→Bool} {R:Nat×Nat→Rw} {wk:Bool} {vW:Value} {wv:List Value} {bs N:Nat} {dss:List (List Dd)}
theorem Mk2.start (w:World)(m:Nat)(rows:List Nat)(cnt:Nat→Nat)(R:Nat×Nat→Rw)(vW:Value)(wv:List Value)(bs N:Nat)(dss:List (List Dd)):Mk2 w m (live2 rows cnt (fun _=>false)) R false vW wv bs N dss:=
 ⟨⟨fun _ h=>(by cases h.2.1),fun _ _ h=>(by cases h.2.1)⟩,fun h=>(by cases h),fun h=>(by cases h)⟩
theorem Mk2.keep {live:Nat×Nat→Prop}(h:Mk2 w m live R wk vW wv bs N dss)(k:Keep w w'):Mk2 w' m live R wk vW wv bs N dss:=
 ⟨h.fam.keep k,fun e=>⟨(h.work e).1.kept k.grownBy (by simp),(h.work e).2.1.keep k,Nat.le_trans (h.work e).2.2.1 k.size,(h.work e).2.2.2⟩,h.out⟩
theorem Mk2.pass (h:Mk2 w m (live2 rows cnt B) R wk vW wv bs N dss){i:Nat}(hi:i∉rows):Mk2 w m (live2 rows cnt (updB B i)) R wk vW wv bs N dss:=
 ⟨h.fam.congr (fun _ hj=>live2_pure hi hj) (fun _ _=>rfl),h.work,fun e j hj=>h.out e j (live2_pure hi hj)⟩
theorem Mk2.add (h:Mk2 w m (live2 rows cnt B) R wk vW wv bs N dss){i:Nat}(hi:B i=false){r:Nat→Rw}(k:Keep w w')(ho:∀q,q<cnt i→(r q).own w' m)(ha:∀p q,p<cnt i→q<cnt i→p≠q→(r p).v.ownBlock=none∨(r p).v.ownBlock≠(r q).v.ownBlock)
  (hn:∀q,q<cnt i→∀b,(r q).v.ownBlock=some b→w.heap.size≤b):Mk2 w' m (live2 rows cnt (updB B i)) (upd2 R i r) wk vW wv bs N dss:=by
 have hk:=h.keep k;have nol:∀j,live2 rows cnt B j→j.1≠i:=fun j hj e=>by have q:=hj.2.1;rw[e,hi] at q;cases q
 have eo:∀j:Nat×Nat,j.1≠i→upd2 R i r j=R j:=fun j hj=>if_neg hj
 have es:∀j:Nat×Nat,j.1=i→upd2 R i r j=r j.2:=fun j hj=>if_pos hj
 have cs:∀j:Nat×Nat,j.1=i→live2 rows cnt (updB B i) j→j.2<cnt i:=fun j e hj=>by have:=hj.2.2;rw[e] at this;exact this
 have old:∀j,live2 rows cnt B j→∀q,q<cnt i→(R j).v.ownBlock=none∨(R j).v.ownBlock≠(r q).v.ownBlock:=fun j hj q hq=>by
  cases e:(R j).v.ownBlock with
  |none=>exact .inl rfl
  |some b=>exact .inr (fun e'=>by have:=(h.fam.lt hj b e).2;have:=hn q hq b e'.symm;omega)
 refine⟨⟨fun j hj=>?_,fun j l hj hl hjl=>?_⟩,hk.work,fun e j hj b hb=>?_⟩
 ·
  rcases live2_upd hj with q|q
  · rw[eo j (nol j q)];exact hk.fam.own j q
  · rw[es j q];exact ho _ (cs j q hj)
 ·
  rcases live2_upd hj with q|q
  ·
   rw[eo j (nol j q)];rcases live2_upd hl with p|p
   · rw[eo l (nol l p)];exact h.fam.apart j l q p hjl
   · rw[es l p];exact old j q _ (cs l p hl)
  ·
   rw[es j q];rcases live2_upd hl with p|p
   ·
    rw[eo l (nol l p)];rcases old l p _ (cs j q hj) with x|x
    ·
     rw[x]
     cases (r j.2).v.ownBlock with
     |none=>exact .inl rfl
     |some b=>exact .inr (by simp)
    · exact .inr (fun e=>x e.symm)
   ·
    rw[es l p];refine ha _ _ (cs j q hj) (cs l p hl) (fun e=>hjl ?_);exact Prod.ext (q.trans p.symm) e
 ·
  rcases live2_upd hj with q|q
  · rw[eo j (nol j q)] at hb;exact h.out e j q b hb
  ·
   rw[es j q] at hb;have:=hn _ (cs j q hj) b hb;have:=(h.work e).2.2.1;right;omega
theorem Mk2.one (h:Mk2 w m (live2 rows cnt B) R wk vW wv bs N dss){i:Nat}(hi:B i=false)(hc:cnt i=1){r:Rw}(k:Keep w w')(ho:r.own w' m)(hn:∀b,r.v.ownBlock=some b→w.heap.size≤b):Mk2 w' m (live2 rows cnt (updB B i)) (upd2 R i (fun _=>r)) wk vW wv bs N dss:=
 h.add hi k (fun _ _=>ho) (fun p q hp hq hne=>absurd (by omega:p=q) hne) (fun _ _=>hn)
theorem Mk2.copied (h:Mk2 w m (live2 rows cnt B) R false vW wv bs N dss){i:Nat}(hi:i∉rows){v':Value}{V:Nat→Value}(k:Keep w w')(hx:AppX w' w.heap.size w'.heap.size v' V dss)(hm:m≤w.heap.size):Mk2 w' m (live2 rows cnt (updB B i)) R true v' ((List.range dss.length).map V) w.heap.size w'.heap.size dss:=
 ⟨(h.fam.keep k).congr (fun _ hj=>live2_pure hi hj) (fun _ _=>rfl),fun _=>⟨hx.rdX.upto,hx.ownLW,Nat.le_refl _,hm⟩,fun _ _ hj b hb => .inl (h.fam.lt (live2_pure hi hj) b hb).2⟩
theorem Mk2.grow (h:Mk2 w m (live2 rows cnt B) R wk vW wv bs N dss){i o:Nat}(hi:i∉rows)(hc:cnt o=1)(hj:live2 rows cnt B (o,0)){r:Rw}(hg:w.grownBy w' (R (o,0)).v.ownBlock)(hv:r.v.ownBlock=(R (o,0)).v.ownBlock∨r.v.ownBlock=some w.heap.size)(ho:r.own w' m):Mk2 w' m (live2 rows cnt (updB B i)) (upd2 R o (fun _=>r)) wk vW wv bs N dss:=by
 have F:=h.fam.set hj (r:=r) hg (by rcases hv with e|e;exact .inl e;exact .inr (.inl e)) ho
 have eq:∀j,live2 rows cnt (updB B i) j→upd2 R o (fun _=>r) j=upd R (o,0) r j:=fun j q=>by
  unfold upd2 upd;by_cases e:j.1=o
  ·
   have h2:j.2=0:=by have:=q.2.2;rw[e,hc] at this;omega
   rw[if_pos e,if_pos (Prod.ext e h2)]
  · rw[if_neg e,if_neg (fun x=>e (by rw[x]))]
 refine⟨F.congr (fun _ q=>live2_pure hi q) eq,fun e=>⟨(h.work e).1.kept hg (fun g e'=>h.out e _ hj g e'),(h.work e).2.1.kept hg (fun g e'=>h.out e _ hj g e'),Nat.le_trans (h.work e).2.2.1 hg.size,(h.work e).2.2.2⟩,fun e q hq b hb=>?_⟩;rw[eq q hq] at hb;by_cases eq':q=(o,0)
 ·
  subst eq';rw[upd_same] at hb;rcases hv with e1|e1
  · rw[e1] at hb;exact h.out e _ hj b hb
  ·
   rw[e1] at hb;have:=Option.some.inj hb;have:=(h.work e).2.2.1;right;omega
 ·
  rw[upd_other _ _ eq'] at hb;exact h.out e q (live2_pure hi hq) b hb
theorem Mk2.far (h:Mk2 w m (live2 rows cnt B) R wk vW wv bs N dss){i:Nat}(hi:i∉rows){g:Nat}(hg:w.grownBy w' (some g))(hl:g<m):Mk2 w' m (live2 rows cnt (updB B i)) R wk vW wv bs N dss:=
  ⟨(h.fam.far hg (fun j hj=>by
    cases e:(R j).v.ownBlock with
    |none=>exact .inl rfl
    |some k=>exact .inr (fun e'=>by have:=(h.fam.lt hj k e).1;have:=Option.some.inj e';omega))).congr (fun _ q=>live2_pure hi q) (fun _ _=>rfl),
   fun e=>⟨(h.work e).1.kept hg (fun q e'=>by have:=Option.some.inj e';have:=(h.work e).2.2.2;omega),(h.work e).2.1.kept hg (fun q e'=>by have:=Option.some.inj e';have:=(h.work e).2.2.2;omega),Nat.le_trans (h.work e).2.2.1 hg.size,(h.work e).2.2.2⟩,fun e j hj=>h.out e j (live2_pure hi hj)⟩
theorem Mk2.addLL (h:Mk2 w m (live2 rows cnt B) R wk vW wv bs N dss){α:Type}{t:TypeId}{rowOf:List α→Value→Rw}{i:Nat}(hi:B i=false){v:Value}{hs:List Value}{xss:List (List α)}(hc:cnt i=xss.length+1)(k:Keep w w')(hm:m≤w.heap.size)(o:OwnLL t rowOf w' w.heap.size v hs xss):
  Mk2 w' m (live2 rows cnt (updB B i)) (upd2 R i (fun q=>llR t rowOf v hs xss (match q with|0=>none|q+1=>some q))) wk vW wv bs N dss:=by
 have lv:∀q,q<cnt i→llLive hs.length (match q with|0=>none|q+1=>some q):=fun q hq=>by
  cases q with
  |zero=>trivial
  |succ q=>show q<hs.length;rw[o.len];omega
 refine h.add hi k (fun q hq=>own_base (o.fam.own _ (lv q hq)) hm) (fun p q hp hq hne=>o.fam.apart _ _ (lv p hp) (lv q hq) (fun e=>hne ?_)) (fun q hq b hb=>(o.fam.lt (lv q hq) b hb).1);cases p<;>cases q<;>simp_all
end
end
section
section
variable {P:Program} {w:World}
theorem wp_append_at {o:Oper}{a:Act}{K:Act→World→Prop}{Q:Exit→Act→World→Prop}(s x:Operand)(t:TypeId)
  (ho:o.op = .call { callee:= .builtin .append,args:=#[s,x],argTypes:=#[t,t] })
  (base:Nat) (e:TypeId) (i:TypeInfo) (z:Value) (size bytes:Nat) (ht:P.underlying t=some (.slice e)) (hi:P.info? e=some i) (hz:i.zero=some z)
  (hsize:i.size=size) (hby:i.bytes=bytes) (hzs:z.cells.size=size) (hsz:0<size)
  (v:Value) (n:Nat) (xs:List Value) (hs:a.eval s=v) (hown:w.ownsRow base e size v n xs)
  (ad:Addr) (m c:Nat) (news:List Value) (hx:a.eval x = .slice (some ad) m c) (hl:news.length=m*size) (hnews:∀j u,news[j]? = some u→w.cell? (ad.add j)=some u) (h1:∀u∈news,u.oneCell'=true)
  (h63:n+m≤maxLen) (hbytes:(n+m)*bytes≤140737488355328) (hbase:base≤w.heap.size)
  (h:∀v' w',w'.ownsRow base e size v' (n+m) (xs++news)→w.grownBy w' v.ownBlock→(v'.ownBlock=v.ownBlock∨v'.ownBlock=some w.heap.size)→K (a.put o.dst v') w'):o.wp P a w K Q:=by
 obtain⟨v',w',hr,h2,h3,_,h5⟩:=run_append_own_at (P:=P) w base t o.type e i z size bytes ht hi hz hsize hby hzs hsz v n xs hown ad m c news hl hnews h1 h63 hbytes hbase;unfold Oper.wp execOp;simp only[ho,resolve,invoke,builtin,Sem.run_bind,Sem.run_pure,Result.andThen_ok,List.map_toArray,List.map_cons,List.map_nil,hs,hx,hr];exact h v' w' h2 h3 h5
end
theorem Try.infoNt:(Try.prog.info? 66).map (fun i=>(i.zero,i.size,i.bytes))=some (some (.agg #[.int .i64 0,.int .i64 0,.int .i64 0]),3,24):=by kernel_rfl
theorem ntc_len (ns:List Nt):(ns.flatMap cN).length=ns.length*3:=by
 induction ns with
 |nil=>rfl
 |cons d r ih=>rw[List.flatMap_cons,List.length_append,ih,List.length_cons];simp[cN];omega
theorem ntc_one (ns:List Nt):∀u∈ns.flatMap cN,u.oneCell'=true:=fun u hu=>by
 obtain⟨x,_,hx⟩:=List.mem_flatMap.1 hu;simp only[cN,List.mem_cons,List.not_mem_nil,or_false] at hx;rcases hx with rfl|rfl|rfl<;>rfl
theorem ntc_at (ns:List Nt):∀(i m:Nat),i<ns.length→m<3→(ns.flatMap cN)[i*3+m]? = (cN (ns.getD i zN))[m]?:=by
 induction ns with
 |nil=>intro i m hi _;simp at hi
 |cons d r ih=>
  intro i m hi hm;rw[List.flatMap_cons]
  cases i with
  |zero=>
   rw[List.getElem?_append_left (by rw[cN_len];omega)];simp
  |succ i=>
   rw[List.getElem?_append_right (by rw[cN_len];omega),cN_len,show (i+1)*3+m-3=i*3+m by omega,ih i m (by simpa using hi) hm];simp
theorem ntc_cells {w:World}{b off:Nat}{ns:List Nt}(h:∀i x,ns[i]? = some x→AtT cN w b (off+i*3) x):∀j u,(ns.flatMap cN)[j]? = some u→w.cell? ((⟨b,off,none⟩:Addr).add j)=some u:=fun j u hj=>by
 have hl:j<ns.length*3:=by rw[←ntc_len];exact (List.getElem?_eq_some_iff.1 hj).1
 have hi:j / 3<ns.length:=by omega
 have hm:j % 3<3:=Nat.mod_lt _ (by omega);have e:j=j / 3*3+j % 3:=by omega
 have h1:=ntc_at ns (j / 3) (j % 3) hi hm;rw[←e] at h1;rw[h1] at hj;have ea:(⟨b,off,none⟩:Addr).add j=⟨b,off+j / 3*3+j % 3,none⟩:=by rw[show off+j / 3*3+j % 3=off+j by omega];simp[Addr.add]
 rw[ea];exact h (j / 3) _ (nts_get hi) (j % 3) u hj
theorem wp_append_notes {w:World}{o:Oper}{a:Act}{K:Act→World→Prop}{Q:Exit→Act→World→Prop}(s x:Operand)
  (ho:o.op = .call { callee:= .builtin .append,args:=#[s,x],argTypes:=#[36,36] })
  (base g:Nat) (hs:a.eval s = .slice (some ⟨g,0,none⟩) 0 0) (hown:AppT cN 66 3 w base (.slice (some ⟨g,0,none⟩) 0 0) [])
  (vx:Value) (hx:a.eval x=vx) (ns:List Nt) (hr:RdN w vx ns) (hn:ns.length≤1048576) (hb:base≤w.heap.size)
  (h:∀v' w',AppT cN 66 3 w' base v' ns→w.grownBy w' (some g)→K (a.put o.dst v') w'):o.wp Try.prog a w K Q:=by
 obtain⟨i0,hi,hz0,hz1,hz2⟩:=info_parts Try.infoNt;obtain⟨ax,cx,rfl,hr⟩:=hr;rcases hr with h0|⟨bx,ox,rfl,hbx,hcx⟩
 ·
  subst h0
  cases ax with
  |none=>
   have hh:=h (.slice (some ⟨g,0,none⟩) 0 0) w hown (World.grownBy.refl _ _);unfold Oper.wp execOp;simp only[ho,resolve,invoke,builtin,Sem.run_bind,Sem.run_pure,Result.andThen_ok,List.map_toArray,List.map_cons,List.map_nil,hs,hx];go_simp;exact hh
  |some y=>
   refine wp_append_own w s x 36 ho base 66 i0 _ 3 24 Try.underlying36 hi hz0 hz1 hz2 rfl (by decide) _ 0 [] hs hown y 0 _ [] hx rfl (by simp) (by simp) (by simp) (by simp) hb ?_;intro v' w' h1 h2 _;exact h v' w' h1 h2
 ·
  refine wp_append_own w s x 36 ho base 66 i0 _ 3 24 Try.underlying36 hi hz0 hz1 hz2 rfl (by decide) _ 0 [] hs hown ⟨bx,ox,none⟩ ns.length _ (ns.flatMap cN) hx (ntc_len ns) (ntc_cells hcx) (ntc_one ns) (by unfold maxLen;omega) (by omega) hb ?_;intro v' w' h1 h2 _;refine h v' w' ?_ h2;unfold AppT
  simpa using h1
theorem wp_append_rd {w:World}{o:Oper}{a:Act}{K:Act→World→Prop}{Q:Exit→Act→World→Prop}(s x:Operand)
  (ho:o.op = .call { callee:= .builtin .append,args:=#[s,x],argTypes:=#[25,25] })
  (base:Nat) (v:Value) (zs:List Int) (hs:a.eval s=v) (hown:Own w base v zs)
  (vx:Value) (hx:a.eval x=vx) (ys:List Int) (hr:Rd w vx ys) (hz:zs.length≤1048576) (hy:ys.length≤1048576) (hb:base≤w.heap.size)
  (h:∀v' w',Own w' base v' (zs++ys)→w.grownBy w' v.ownBlock→(v'.ownBlock=v.ownBlock∨v'.ownBlock=some w.heap.size)→K (a.put o.dst v') w'):o.wp Try.prog a w K Q:=by
 obtain⟨i0,hi,hz0,hz1,hz2⟩:=info_parts Try.infoI
 have law:∀(ad:Addr) (c:Nat),a.eval x = .slice (some ad) ys.length c→(∀j u,(ys.map (Value.int .i64))[j]? = some u→w.cell? (ad.add j)=some u)→o.wp Try.prog a w K Q:=fun ad c hx hn=>by
  refine wp_append_at s x 25 ho base 2 i0 _ 1 8 Try.underlying25 hi hz0 hz1 hz2 rfl (by decide) v zs.length (zs.map (Value.int .i64)) hs hown ad ys.length c (ys.map (Value.int .i64)) hx (by simp) hn (fun u hu=>?_) (by unfold maxLen;omega) (by omega) hb ?_
  · obtain⟨q,_,rfl⟩:=List.mem_map.1 hu;rfl
  ·
   intro v' w' h1 h2 h3;refine h v' w' ?_ h2 h3;unfold Own;rw[List.length_append,List.map_append];exact h1
 obtain⟨ax,cx,rfl,hr⟩:=hr;rcases hr with h0|⟨bx,ox,rfl,hbx,hcx⟩
 ·
  subst h0
  cases ax with
  |none=>
   have hh:=h v w (by rw[List.append_nil];exact hown) (World.grownBy.refl _ _) (.inl rfl);rcases hown.2 with ⟨rfl,hn0⟩|⟨g,cap,cur,rfl,-,-,hcap,-⟩
   ·
    unfold Oper.wp execOp;simp only[ho,resolve,invoke,builtin,Sem.run_bind,Sem.run_pure,Result.andThen_ok,List.map_toArray,List.map_cons,List.map_nil,hs,hx];go_simp;exact hh
   ·
    unfold Oper.wp execOp;simp only[ho,resolve,invoke,builtin,Sem.run_bind,Sem.run_pure,Result.andThen_ok,List.map_toArray,List.map_cons,List.map_nil,hs,hx];go_simp;exact hh
  |some y=>exact law y _ hx (fun j u hu=>by simp at hu)
 ·
  refine law _ _ hx (fun j u hu=>?_);have hj:j<ys.length:=by have:=(List.getElem?_eq_some_iff.1 hu).1;simpa using this
  have e:=hcx j hj;rw[List.getElem?_map,List.getElem?_eq_getElem hj] at hu;simp only[Option.map_some,Option.some.injEq] at hu;rw[List.getD_eq_getElem?_getD,List.getElem?_eq_getElem hj] at e;simp only[Option.getD_some] at e;rw[←hu]
  have ea:(⟨bx,ox,none⟩:Addr).add j=⟨bx,ox+j,none⟩:=by
   by_cases hj0:j=0
   · subst hj0;simp[Addr.add]
   · simp[Addr.add,hj0]
  rw[ea];exact e
end
theorem wpList_append_rd {w:World}{ops:Array Oper}{rest:List Oper}{o:Oper}{a:Act}{Q:Exit→Act→World→Prop}(hgd:o.guard=none)(s x:Operand)
  (ho:o.op = .call { callee:= .builtin .append,args:=#[s,x],argTypes:=#[25,25] })
  (base:Nat) (v:Value) (zs:List Int) (hs:a.eval s=v) (hown:Own w base v zs)
  (vx:Value) (hx:a.eval x=vx) (ys:List Int) (hr:Rd w vx ys) (hz:zs.length≤1048576) (hy:ys.length≤1048576) (hb:base≤w.heap.size)
  (h:∀v' w',Own w' base v' (zs++ys)→w.grownBy w' v.ownBlock→(v'.ownBlock=v.ownBlock∨v'.ownBlock=some w.heap.size)→wpList Try.prog ops Q rest (a.put o.dst v') w'):wpList Try.prog ops Q (o::rest) a w:=
 wpList_plain hgd fun _ hK=>wp_append_rd s x ho base v zs hs hown vx hx ys hr hz hy hb (fun v' w' h1 h2 h3=>hK _ _ (h v' w' h1 h2 h3))
theorem Try.infoDd:(Try.prog.info? 98).map (fun i=>(i.zero,i.size,i.bytes))=some (some (.agg #[.int .i64 0,.int .i64 0,.int .i64 0,.int .i64 0]),4,32):=by kernel_rfl
theorem Try.infoDl:(Try.prog.info? 72).map (fun i=>(i.zero,i.size,i.bytes))=some (some (.slice none 0 0),1,24):=by kernel_rfl
theorem dds_len (ds:List Dd):(ds.flatMap cD).length=ds.length*4:=by
 induction ds with
 |nil=>rfl
 |cons d r ih=>rw[List.flatMap_cons,List.length_append,ih,List.length_cons];simp[cD];omega
theorem dds_one (ds:List Dd):∀u∈ds.flatMap cD,u.oneCell'=true:=fun u hu=>by
 obtain⟨x,_,hx⟩:=List.mem_flatMap.1 hu;simp only[cD,List.mem_cons,List.not_mem_nil,or_false] at hx;rcases hx with rfl|rfl|rfl|rfl<;>rfl
theorem dds_cells {w:World}{b off:Nat}{ds:List Dd}(h:∀i,i<ds.length→AtD w b (off+i*4) (ds.getD i zD)):∀j u,(ds.flatMap cD)[j]? = some u→w.cell? ((⟨b,off,none⟩:Addr).add j)=some u:=fun j u hj=>by
 have hl:j<ds.length*4:=by rw[←dds_len];exact (List.getElem?_eq_some_iff.1 hj).1
 have hi:j / 4<ds.length:=by omega
 have hm:j % 4<4:=Nat.mod_lt _ (by omega);have e:j=j / 4*4+j % 4:=by omega
 have h1:=cD_at ds (j / 4) (j % 4) hi hm;rw[←e] at h1;rw[h1] at hj;have ea:(⟨b,off,none⟩:Addr).add j=⟨b,off+j / 4*4+j % 4,none⟩:=by rw[show off+j / 4*4+j % 4=off+j by omega];simp[Addr.add]
 rw[ea];obtain⟨a0,a1,a2,a3⟩:=h (j / 4) hi;have:j % 4=0∨j % 4=1∨j % 4=2∨j % 4=3:=by omega
 rcases this with q|q|q|q<;>rw[q] at hj ⊢<;>simp[cD] at hj<;>subst hj
 · exact a0
 · exact a1
 · exact a2
 · exact a3
theorem l5Copy_any (w:World)(v:Value)(dss:List (List Dd))(h:RdW w v dss)(hx:dss.length≤1048576)(hm:∀i,i<dss.length→(dss.getD i []).length≤1048576):
  Calls Try.prog 75 #[v] w fun e w'=>∃v',e = .returned v'∧RdX w' w.heap.size v' dss∧Keep w w':=by
 obtain⟨aD,cDd,rfl,h⟩:=h;obtain⟨i0,hi,hz0,hz1,hz2⟩:=info_parts Try.infoDd;obtain⟨j0,hj,hy0,hy1,hy2⟩:=info_parts Try.infoDl
 have hown0:AppX (w.alloc (.cells #[] 72)) w.heap.size (w.alloc (.cells #[] 72)).heap.size (.slice (some ⟨w.heap.size,0,none⟩) 0 0) (fun _=>vZ) (dss.take 0):=by
  rw[List.take_zero];exact⟨World.ownsRow_lit w #[] 0 (Nat.le_refl _) (by decide) rfl,fun k hk=>by simp[Value.ownBlock] at hk;subst hk;simp,fun i hi=>by simp at hi,fun i hi=>by simp at hi,fun i hi=>by simp at hi,fun i j _ hj=>by simp at hj⟩
 go_enter Try.func75,Try.ntmps75
 go_wp2;go_loopw [3,4] (fun v0 i wr=>∃(k:Nat) (v:Value) (V:Nat→Value),v=v0∧k≤dss.length∧i = .int .i64 k∧AppX wr w.heap.size wr.heap.size v V (dss.take k)∧Keep w wr) (fun _ i _=>dss.length-(intOf i).toNat)
 case atStart=>exact⟨0,_,_,rfl,Nat.zero_le _,rfl,hown0,(Keep.refl _).alloc _⟩
 case round=>
  obtain⟨k,v,V,rfl,hk,rfl,ho,hK⟩:=hrel;clear hown0;by_cases hlt:k<dss.length
  ·
   rcases h with h0|⟨b,off,rfl,hb,hc⟩
   · exfalso;rw[h0] at hlt;simp at hlt
   obtain⟨vi,d1,r1⟩:=hc k hlt;have d2:=(hK.cell hb).trans d1;have r2:=r1.keep hK;have hml:=hm k hlt
   have HT:Hid (dss.take (k+1)=dss.take k++[dss.getD k []]):=Lib.hid (by
    rw[List.take_add_one,List.getD_eq_getElem?_getD,List.getElem?_eq_getElem hlt];rfl)
   have hlen:(dss.take k).length=k:=by rw[List.length_take];omega
   generalize dss.getD k []=ds at *;obtain⟨ai,ci,rfl,r2⟩:=r2;have i1:(0:Int)≤(k:Int):=Int.natCast_nonneg _;have i2:(k:Int)<(dss.length:Int):=by omega
   have hsz:=hK.size;clear hc d1 r1;have OE:(wr.alloc (.cells #[] 98)).ownsRow wr.heap.size 98 4 (.slice (some ⟨wr.heap.size,0,none⟩) 0 0) 0 []:=World.ownsRow_lit wr #[] 0 (Nat.le_refl _) (by decide) rfl;have d3:(wr.alloc (.cells #[] 98)).cell? ⟨b,off+k,none⟩=some (.slice ai ds.length (ds.length+ci)):=(((Keep.refl wr).alloc _).cell (Nat.lt_of_lt_of_le hb hsz)).trans d2;rcases r2 with h0|⟨bd,od,rfl,hbd,hcd⟩
   ·
    subst h0
    cases ai with
    |none=>
     have OD:AppD (wr.alloc (.cells #[] 98)) wr.heap.size (.slice (some ⟨wr.heap.size,0,none⟩) 0 0) []:=OE;have k5:Keep wr (wr.alloc (.cells #[] 98)):=(Keep.refl wr).alloc _;have HX5:=(ho.keep k5).keep ((Keep.refl (wr.alloc (.cells #[] 98))).alloc (.cells #[.slice (some ⟨wr.heap.size,0,none⟩) 0 0] 72));have HR:=HX5.row;rw[hlen] at HR;have OD6:=OD.keep ((Keep.refl (wr.alloc (.cells #[] 98))).alloc (.cells #[.slice (some ⟨wr.heap.size,0,none⟩) 0 0] 72));have s5:=k5.size;go_wp2_with (at_builtin;refine wpList_append_own_at _ rfl _ _ 24 rfl w.heap.size 72 j0 (.slice none 0 0) 1 24 Try.underlying24 hj hy0 hy1 hy2 rfl (by decide) _ _ _ rfl HR ⟨_,0,none⟩ 1 1 [.slice (some ⟨wr.heap.size,0,none⟩) 0 0] rfl rfl ?e1 ?e2 ?e3 ?e4 ?e5 ?_)
     case e1=>
      intro j u hj
      match j,hj with
      | 0,hj=>simp at hj;subst hj;simp[Addr.add]
     case e2=>intro u hu;simp at hu;subst hu;rfl
     case e3=>unfold maxLen;omega
     case e4=>omega
     case e5=>simp;omega
     intro v' w7 hown7 hgrow7 _ hblk7;have HP:=HX5.push OD6 hsz (by rw[hlen];exact hown7) hgrow7 (by rw[heap_size,heap_size];exact hblk7) (by simp;omega);have K7:Keep w w7:=((hK.trans k5).alloc _).grown hgrow7 (fun k hk=>(World.ownsRow.lt HR k hk).1);clear hown7 hgrow7 hblk7 HR HX5 OD6;go_wp2;go_roundw;case rel=>exact⟨k+1,_,_,rfl,by omega,by go_num,by rw[HT.out];exact HP,K7⟩
     case measure=>simp[intOf];omega
    |some x=>
     go_wp2_with (at_builtin;refine wpList_append_own _ rfl _ _ 72 rfl wr.heap.size 98 i0 (.agg #[.int .i64 0,.int .i64 0,.int .i64 0,.int .i64 0]) 4 32 Try.underlying72 hi hz0 hz1 hz2 rfl (by decide) _ _ _ rfl OE x 0 ci [] rfl rfl ?c1 ?c2 ?c3 ?c4 ?c5 ?_)
     case c1=>intro j u hj;simp at hj
     case c2=>intro u hu;simp at hu
     case c3=>simp
     case c4=>simp
     case c5=>simp
     intro u w5 hown5 hgrow5 _;have OD:AppD w5 wr.heap.size u []:=by unfold AppD;simpa using hown5
     have k5:Keep wr w5:=((Keep.refl wr).alloc (.cells #[] 98)).grown hgrow5 (fun k hk=>(World.ownsRow.lt OE k hk).1);clear hown5 hgrow5;obtain⟨au,cu,hu⟩:∃a c,u = .slice a 0 c:=OD.shape;subst hu;have HX5:=(ho.keep k5).keep ((Keep.refl w5).alloc (.cells #[.slice au 0 cu] 72));have HR:=HX5.row;rw[hlen] at HR;have OD6:=OD.keep ((Keep.refl w5).alloc (.cells #[.slice au 0 cu] 72));have s5:=k5.size;go_wp2_with (at_builtin;refine wpList_append_own_at _ rfl _ _ 24 rfl w.heap.size 72 j0 (.slice none 0 0) 1 24 Try.underlying24 hj hy0 hy1 hy2 rfl (by decide) _ _ _ rfl HR ⟨_,0,none⟩ 1 1 [.slice au 0 cu] rfl rfl ?e1 ?e2 ?e3 ?e4 ?e5 ?_)
     case e1=>
      intro j u hj
      match j,hj with
      | 0,hj=>simp at hj;subst hj;simp[Addr.add]
     case e2=>intro u hu;simp at hu;subst hu;rfl
     case e3=>unfold maxLen;omega
     case e4=>omega
     case e5=>simp;omega
     intro v' w7 hown7 hgrow7 _ hblk7;have HP:=HX5.push OD6 hsz (by rw[hlen];exact hown7) hgrow7 (by rw[heap_size];exact hblk7) (by simp;omega);have K7:Keep w w7:=((hK.trans k5).alloc _).grown hgrow7 (fun k hk=>(World.ownsRow.lt HR k hk).1);clear hown7 hgrow7 hblk7 HR HX5 OD6;go_wp2;go_roundw;case rel=>exact⟨k+1,_,_,rfl,by omega,by go_num,by rw[HT.out];exact HP,K7⟩
     case measure=>simp[intOf];omega
   ·
    have NC:=dds_cells (w:=wr.alloc (.cells #[] 98)) (b:=bd) (off:=od) (ds:=ds) (fun i hi=>(hcd i hi).keep hbd ((Keep.refl wr).alloc _));go_wp2_with (at_builtin;refine wpList_append_own _ rfl _ _ 72 rfl wr.heap.size 98 i0 (.agg #[.int .i64 0,.int .i64 0,.int .i64 0,.int .i64 0]) 4 32 Try.underlying72 hi hz0 hz1 hz2 rfl (by decide) _ _ _ rfl OE ⟨bd,od,none⟩ ds.length (ds.length+ci) (ds.flatMap cD) rfl (dds_len ds) ?c1 ?c2 ?c3 ?c4 ?c5 ?_)
    case c1=>exact NC
    case c2=>exact dds_one ds
    case c3=>unfold maxLen;omega
    case c4=>omega
    case c5=>simp
    intro u w5 hown5 hgrow5 _;have OD:AppD w5 wr.heap.size u ds:=by unfold AppD;simpa using hown5
    have k5:Keep wr w5:=((Keep.refl wr).alloc (.cells #[] 98)).grown hgrow5 (fun k hk=>(World.ownsRow.lt OE k hk).1);clear hown5 hgrow5;obtain⟨au,cu,hu⟩:=OD.shape;subst hu;have HX5:=(ho.keep k5).keep ((Keep.refl w5).alloc (.cells #[.slice au ds.length cu] 72));have HR:=HX5.row;rw[hlen] at HR;have OD6:=OD.keep ((Keep.refl w5).alloc (.cells #[.slice au ds.length cu] 72));have s5:=k5.size;go_wp2_with (at_builtin;refine wpList_append_own_at _ rfl _ _ 24 rfl w.heap.size 72 j0 (.slice none 0 0) 1 24 Try.underlying24 hj hy0 hy1 hy2 rfl (by decide) _ _ _ rfl HR ⟨_,0,none⟩ 1 1 [.slice au ds.length cu] rfl rfl ?e1 ?e2 ?e3 ?e4 ?e5 ?_)
    case e1=>
     intro j u hj
     match j,hj with
     | 0,hj=>simp at hj;subst hj;simp[Addr.add]
    case e2=>intro u hu;simp at hu;subst hu;rfl
    case e3=>unfold maxLen;omega
    case e4=>omega
    case e5=>simp;omega
    intro v' w7 hown7 hgrow7 _ hblk7;have HP:=HX5.push OD6 hsz (by rw[hlen];exact hown7) hgrow7 (by rw[heap_size];exact hblk7) (by simp;omega);have K7:Keep w w7:=((hK.trans k5).alloc _).grown hgrow7 (fun k hk=>(World.ownsRow.lt HR k hk).1);clear hown7 hgrow7 hblk7 HR HX5 OD6;go_wp2;go_roundw;case rel=>exact⟨k+1,_,_,rfl,by omega,by go_num,by rw[HT.out];exact HP,K7⟩
    case measure=>simp[intOf];omega
  ·
   obtain rfl:k=dss.length:=by omega
   rw[List.take_length] at ho;go_wp2;go_ret;exact⟨_,rfl,ho.rdX,hK⟩
theorem idx_at {es:List Ev}{j:Nat}(h12:es.length≤12)(hj:j<es.length)(hr:rdE (es.getD j zE)=true):∃i,i<(idxB rdE es).length∧(idxB rdE es).getD i 0=(j:Int)∧∀q,q<i→(idxB rdE es).getD q 0≠(j:Int):=by
 obtain⟨t,ht⟩:=idxK_pre rdE es (j+1) es.length hj
 have e1:idxK rdE es (j+1)=idxK rdE es j++[(j:Int)]:=by
  show (if rdE (es.getD j zE)=true then idxK rdE es j++[(j:Int)] else idxK rdE es j)=_;rw[if_pos hr]
 have e2:idxB rdE es=idxK rdE es j++([(j:Int)]++t):=by
  unfold idxB;rw[if_pos h12];rw[ht,e1,List.append_assoc]
 refine⟨(idxK rdE es j).length,?_,?_,fun q hq=>?_⟩
 · rw[e2];simp
 · rw[e2,List.getD_eq_getElem?_getD,List.getElem?_append_right (Nat.le_refl _)];simp
 ·
  rw[e2,List.getD_eq_getElem?_getD,List.getElem?_append_left hq,List.getElem?_eq_getElem hq];have:=idxK_lt rdE es j _ (List.getElem_mem hq);show (idxK rdE es j)[q]≠_;omega
theorem doE_shp {dss:List (List Dd)}{b:Bd}{n:Nat}(h:Shp dss b n)(c k:Nat)(pl:Bool)(j:Nat)(e:Ev):Shp dss (doE (idxB rdE (eventsB dss)) c k pl b j e) (n+1):=by
 unfold doE;split
 ·
  split
  · exact (h.see _ _ _).mono (by omega)
  ·
   split
   · exact h.note c _
   · exact h.ink _ _ _
 · exact h.mono (by omega)
theorem doK_shp {dss:List (List Dd)}{b:Bd}{n:Nat}(h:Shp dss b n)(c k:Nat)(pl:Bool):∀j:Nat,Shp dss (doK (eventsB dss) (idxB rdE (eventsB dss)) c k pl b j) (n+j)
 | 0=>h
 |j+1=>doE_shp (doK_shp h c k pl j) c k pl j _
theorem doK_nxt (es:List Ev)(rs:List Int)(c k:Nat)(pl:Bool)(b:Bd):∀j:Nat,(doK es rs c k pl b j).nxt=b.nxt
 | 0=>rfl
 |j+1=>by
  show (doE rs c k pl (doK es rs c k pl b j) j (es.getD j zE)).nxt=b.nxt;rw[←doK_nxt es rs c k pl b j];unfold doE;split
  ·
   split
   · rfl
   · split<;>rfl
  · rfl
theorem Shp.sz {dss:List (List Dd)}{b:Bd}{n:Nat}(h:Shp dss b n)(hn:n≤2000):SzBd dss b:=by
 have u:=(workB_useR h.work).1;have l5:=fun i hi=>work_five h.work (c:=i) hi
 have r12:=idxB_len rdE (eventsB dss);have e12:=eventsB_len9 dss;exact⟨by omega,fun i hi=>by have:=l5 i hi;omega,by have:=h.plc;omega,by have:=h.lst;omega,by have:=h.nts;omega,fun i _=>by have:=h.nl i;omega,by have:=h.nxt;omega,by have:=h.sn;omega,by have:=h.fr;omega,by have:=h.rws;omega,fun i _=>by have:=h.rl i;omega⟩
theorem do_one {dss:List (List Dd)}(hb:workB dss=true){c:Nat}(hc:c<dss.length)(b:Bd)(hk:nxN b c<(dss.getD c []).length)(h0:0≤b.nxt.getD c 0)(h3:(dAt dss c (nxN b c)).1=3→b.nts.getD c []=[]):
  { doK (eventsB dss) (idxB rdE (eventsB dss)) c (nxN b c) (plnD (dAt dss c (nxN b c))) b (eventsB dss).length with nxt:=(doK (eventsB dss) (idxB rdE (eventsB dss)) c (nxN b c) (plnD (dAt dss c (nxN b c))) b (eventsB dss).length).nxt.set c ((nxN b c:Int)+1) }=oneM dss (eventsB dss) b c:=by
 rw[doK_nxt,do_deed hb hc hk b h3];unfold oneM;have:(nxN b c:Int)=b.nxt.getD c 0:=by unfold nxN;omega
 rw[this]
theorem ev_tell {dss:List (List Dd)}(hb:workB dss=true){c k j:Nat}(hc:c<dss.length)(hk:k<(dss.getD c []).length)(hj:j<(eventsB dss).length)(h:((eventsB dss).getD j zE).1=(c:Int)∧((eventsB dss).getD j zE).2.1=(k:Int)):∃p:Nat,p<3∧((eventsB dss).getD j zE).2.2.2.1=(p:Int):=by
 obtain⟨i,E⟩:=ev_of hb hj h;obtain⟨⟨p,hp,e⟩,-⟩:=deed_in hb hc hk;exact⟨p,hp,by rw[E.at hb];exact e⟩
end Go.Proofs.Ytgakfkjjkobpiaa
