/- Gathered texts. -/
import Derived.Test.YtgakfkjjkobpiaaMI
import Derived.Outline
import Derived.Laws.AppendOwnNone
set_option maxRecDepth 100000
set_option maxHeartbeats 8000000
namespace Go.Proofs.Ytgakfkjjkobpiaa
open Go.ChangeShapes Go.WideShapes Go.ChangeAt Go.RowKit
open Go.RowKit
section
def BV.Sl (v:BV):Prop:=∃(aW aP aL aN aX aS aF aR:Option Addr) (nW nP nL nN nX nS nF nR cW cP cL cQ cX cS cF cR:Nat),v=⟨.slice aW nW cW,.slice aP nP cP,.slice aL nL cL,.slice aN nN cQ,.slice aX nX cX,.slice aS nS cS,.slice aF nF cF,.slice aR nR cR⟩
theorem RdBd.sl {w:World}{v:BV}{dss:List (List Dd)}{b:Bd}(h:RdBd w v dss b):v.Sl:=by
 obtain⟨aW,aP,aL,aN,aX,aS,aF,aR,cW,cP,cL,cN,cX,cS,cF,cR,rfl⟩:=h.shapes;exact⟨_,_,_,_,_,_,_,_,_,_,_,_,_,_,_,_,_,_,_,_,_,_,_,_,rfl⟩
def liveI (rv:List Value):BI→Prop
 | .plc=>True
 | .lst=>True
 | .rws=>True
 | .rw p=>p<rv.length
 |_=>False
structure OwnI (w:World)(m:Nat)(v:BV)(rv:List Value)(b:Bd):Prop where
 fam:Fam w m (liveI rv) (famR 0 v [] rv b)
 lr:rv.length=b.rws.length
def blkI (v:BV)(rv:List Value)(g:Nat):Prop:=∃i,liveI rv i∧(vB 0 v [] rv i).ownBlock=some g
section
variable {w w':World} {m:Nat} {v:BV} {rv:List Value} {b:Bd}
theorem OwnI.keep (h:OwnI w m v rv b)(k:Keep w w'):OwnI w' m v rv b:=⟨h.fam.keep k,h.lr⟩
theorem OwnI.blk (h:OwnI w m v rv b):∀g,blkI v rv g→m≤g∧g<w.heap.size:=fun g ⟨i,hi,e⟩=>by
 rw[←famR_v 0 v [] rv b i] at e;exact h.fam.lt hi g e
theorem OwnI.oP (h:OwnI w m v rv b):Own w m v.P b.plc:=h.fam.own .plc trivial
theorem OwnI.oL (h:OwnI w m v rv b):Own w m v.L b.lst:=h.fam.own .lst trivial
theorem OwnI.oR (h:OwnI w m v rv b){p:Nat}(hp:p<b.rws.length):Own w m (rv.getD p nilS) (b.rws.getD p []):=h.fam.own (.rw p) (by show p<rv.length;rw[h.lr];exact hp)
theorem OwnI.hR (h:OwnI w m v rv b):∃a cap,v.R = .slice a b.rws.length cap∧(b.rws=[]∨∃g,a=some ⟨g,0,none⟩∧g<w.heap.size∧∀i,i<b.rws.length→w.cell? ⟨g,i,none⟩=some (rv.getD i nilS)):=by
 obtain⟨a,cap,e,h1⟩:=own_head (h.fam.own .rws trivial);rw[h.lr] at e;refine⟨a,cap,e,?_⟩;rcases h1 with h1|⟨g,e1,e2,e3⟩
 ·
  left;have:=h.lr;rw[h1] at this;exact List.eq_nil_of_length_eq_zero this.symm
 · exact .inr ⟨g,e1,e2,fun i hi=>e3 i (by rw[h.lr];exact hi)⟩
theorem OwnI.putP (h:OwnI w m v rv b){g cap k:Nat}{x:Int}(hv:v.P = .slice (some ⟨g,0,none⟩) b.plc.length cap):OwnI (w.setCell ⟨g,k,none⟩ (.int .i64 x)) m v rv { b with plc:=b.plc.set k x }:=by
 obtain⟨h1,h2,_⟩:=iv_put (k:=k) (x:=x) (h.fam.own .plc trivial) hv;refine⟨(h.fam.set (i:= .plc) trivial (r:=ivR (b.plc.set k x) v.P) h2 (.inl rfl) h1).congr (fun _ hi=>hi) (fun j _=>by cases j<;>rfl),h.lr⟩
theorem OwnI.putL (h:OwnI w m v rv b){g cap k:Nat}{x:Int}(hv:v.L = .slice (some ⟨g,0,none⟩) b.lst.length cap):OwnI (w.setCell ⟨g,k,none⟩ (.int .i64 x)) m v rv { b with lst:=b.lst.set k x }:=by
 obtain⟨h1,h2,_⟩:=iv_put (k:=k) (x:=x) (h.fam.own .lst trivial) hv;refine⟨(h.fam.set (i:= .lst) trivial (r:=ivR (b.lst.set k x) v.L) h2 (.inl rfl) h1).congr (fun _ hi=>hi) (fun j _=>by cases j<;>rfl),h.lr⟩
theorem OwnI.headR (h:OwnI w m v rv b){p:Nat}(hp:p<b.rws.length){u:Value}{zs:List Int}(hg:w.grownBy w' (rv.getD p nilS).ownBlock)
  (hb:u.ownBlock=(rv.getD p nilS).ownBlock∨u.ownBlock=some w.heap.size∨u.ownBlock=none) (ho:Own w' m u zs) {g cap:Nat} (hv:v.R = .slice (some ⟨g,0,none⟩) b.rws.length cap):
  OwnI (w'.setCell ⟨g,p,none⟩ u) m v (rv.set p u) { b with rws:=b.rws.set p zs }∧w'.cell? ⟨g,p,none⟩=some (rv.getD p nilS)∧w'.frozen? ⟨g,p,none⟩=false:=by
 have hp':p<rv.length:=by rw[h.lr];exact hp
 have hv':v.R = .slice (some ⟨g,0,none⟩) rv.length cap:=by rw[h.lr];exact hv
 have F1:=h.fam.set (i:= .rw p) hp' (r:=ivR zs u) hg hb ho;have o1:(hdR 25 rv v.R).own w' m:=by have:=F1.own .rws trivial;rw[upd_other _ _ (by simp)] at this;exact this
 obtain⟨q1,q2,q3⟩:=Rw.put o1 (g:=g) (cap:=cap) (k:=p) hv' u;have F2:=F1.set (i:= .rws) trivial (r:={ hdR 25 rv v.R with xs:=rv.set p u }) (by rw[upd_other _ _ (by simp)];exact q2) (.inl (by rw[upd_other _ _ (by simp)];rfl)) q1;refine⟨⟨F2.congr (fun j=>by cases j<;>simp[liveI]) (fun j _=>?_),by simpa using h.lr⟩,?_,q3⟩
 ·
  cases j with
  |rws=>
   rw[upd_same];simp[famR,hdR]
  |rw q=>
   rw[upd_other _ _ (by simp)];show ivR ((b.rws.set p zs).getD q []) ((rv.set p u).getD q nilS)=_;rw[getD_setV _ _ _ _ hp,getD_setV _ _ _ _ hp'];by_cases e:q=p
   · subst e;rw[upd_same];simp
   · rw[upd_other _ _ (by simpa using e),if_neg e,if_neg e];rfl
  |_=>rw[upd_other _ _ (by simp),upd_other _ _ (by simp)];rfl
 ·
  have:=Rw.cell o1 (g:=g) (cap:=cap) (k:=p) hv' (by show p<rv.length*1;omega);rw[this,List.getD_eq_getElem?_getD];show rv[p]? = _;rw[List.getElem?_eq_getElem hp'];rfl
theorem blkI_setR {p:Nat}{u:Value}{g:Nat}(hp:p<rv.length)(hg:blkI v (rv.set p u) g):blkI v rv g∨u.ownBlock=some g:=by
 obtain⟨i,hi,e⟩:=hg
 cases i with
 |rw q=>
  have hq:q<rv.length:=by simpa [liveI] using hi
  have e:((rv.set p u).getD q nilS).ownBlock=some g:=e;by_cases eq:q=p
  ·
   subst eq;rw[getD_setV _ _ _ _ hq,if_pos rfl] at e;exact .inr e
  ·
   rw[getD_setV _ _ _ _ hp,if_neg eq] at e;exact .inl ⟨.rw q,hq,e⟩
 |plc=>exact .inl ⟨.plc,trivial,e⟩
 |lst=>exact .inl ⟨.lst,trivial,e⟩
 |rws=>exact .inl ⟨.rws,trivial,e⟩
 |_=>exact absurd hi (by simp[liveI])
end
end
section
theorem own_same {w w':World}{m:Nat}{r:Rw}(h:r.own w m)(hb:∀g,r.v.ownBlock=some g→w'.heap[g]? = w.heap[g]?):r.own w' m:=by
 unfold Rw.own at h ⊢;refine⟨h.1,?_⟩;rcases h.2 with q|⟨g,cap,cur,e,hm,hg,rest⟩
 · exact .inl q
 · exact .inr ⟨g,cap,cur,e,hm,(hb g (by rw[e];rfl)).trans hg,rest⟩
theorem RdXN.same {w w':World}{base N:Nat}{v:Value}{dss:List (List Dd)}(h:RdXN w base N v dss)(hs:w.heap.size≤w'.heap.size)(hh:∀g,base≤g→g<N→w'.heap[g]? = w.heap[g]?):RdXN w' base N v dss:=by
 obtain⟨a,cap,hv,h⟩:=h;refine⟨a,cap,hv,?_⟩;rcases h with h|⟨b,off,ha,h1,h2,h3,h4⟩
 · exact .inl h
 ·
  refine .inr ⟨b,off,ha,h1,h2,Nat.lt_of_lt_of_le h3 hs,fun i hi=>?_⟩;obtain⟨vi,e1,e2,e3⟩:=h4 i hi;refine⟨vi,(World.cell?_of_block (a:=⟨b,off+i,none⟩) (hh b h1 h2)).trans e1,?_,e3⟩;exact own_same (r:=ddR (dss.getD i []) vi) e2 (fun g hg=>hh g (World.ownsRow.lt e2 g hg).1 (e3 g hg))
theorem OwnLW.same {w w':World}{bs N:Nat}{v:Value}{wv:List Value}{dss:List (List Dd)}(h:OwnLW w bs N v wv dss)(hh:∀g,bs≤g→g<N→w'.heap[g]? = w.heap[g]?):OwnLW w' bs N v wv dss:=
 ⟨⟨⟨fun o ho=>own_same (h.ll.fam.own o ho) (fun g hg=>hh g (h.ll.fam.lt ho g hg).1 (h.lt o ho g hg)),h.ll.fam.apart⟩,h.ll.len⟩,h.lt⟩
theorem Fam.part {ι:Type}{w w':World}{m:Nat}{live live':ι→Prop}{R R':ι→Rw}(S:ι→Prop)(h:Fam w m live R)(hS:Fam w' m (fun i=>live' i∧S i) R')(hl:∀i,¬S i→live' i→live i)(hR:∀i,¬S i→live' i→R' i=R i){F F':Nat→Prop}(t:TurnB w w' F F')
  (hF:∀i,live i→¬S i→∀g,(R i).v.ownBlock=some g→¬F g) (hF':∀i,live' i→S i→∀g,(R' i).v.ownBlock=some g→F' g):Fam w' m live' R':=by
 have far:∀i j,live' i→¬S i→live' j→S j→(R' i).v.ownBlock=none∨(R' i).v.ownBlock≠(R' j).v.ownBlock:=fun i j hi hni hj hsj=>by
  cases e:(R' i).v.ownBlock with
  |none=>exact .inl rfl
  |some g=>
   refine .inr (fun q=>?_);rw[hR i hni hi] at e;have h1:=hF i (hl i hni hi) hni g e;have h2:=(h.lt (hl i hni hi) g e).2;rcases t.news g (hF' j hj hsj g q.symm) with h3|h3
   · exact h1 h3
   · omega
 refine⟨fun i hi=>?_,fun i j hi hj hij=>?_⟩
 ·
  by_cases s:S i
  · exact hS.own i ⟨hi,s⟩
  ·
   rw[hR i s hi];exact own_same (h.own i (hl i s hi)) (fun g hg=>t.block g (h.lt (hl i s hi) g hg).2 (hF i (hl i s hi) s g hg))
 ·
  by_cases s:S i
  ·
   by_cases r:S j
   · exact hS.apart i j ⟨hi,s⟩ ⟨hj,r⟩ hij
   ·
    rcases far j i hj r hi s with q|q
    ·
     rw[q]
     cases (R' i).v.ownBlock with
     |none=>exact .inl rfl
     |some g=>exact .inr (by simp)
    · exact .inr (fun e=>q e.symm)
  ·
   by_cases r:S j
   · exact far i j hi s hj r
   · rw[hR i s hi,hR j r hj];exact h.apart i j (hl i s hi) (hl j r hj) hij
def isI:BI→Prop
 | .plc=>True
 | .lst=>True
 | .rws=>True
 | .rw _=>True
 |_=>False
def blkV (v:BV)(nv rv:List Value)(g:Nat):Prop:=∃i,liveB nv rv i∧i≠.bd∧(vB 0 v nv rv i).ownBlock=some g
theorem blk_box {D:Nat}{v:BV}{nv rv:List Value}{g:Nat}(h:blkB D v nv rv g):blkV v nv rv g∨g=D:=by
 obtain⟨i,hi,e⟩:=h
 cases i with
 |bd=>exact .inr (Option.some.inj e).symm
 |plc=>exact .inl ⟨.plc,trivial,by simp,e⟩
 |lst=>exact .inl ⟨.lst,trivial,by simp,e⟩
 |nts=>exact .inl ⟨.nts,trivial,by simp,e⟩
 |nxt=>exact .inl ⟨.nxt,trivial,by simp,e⟩
 |sn=>exact .inl ⟨.sn,trivial,by simp,e⟩
 |fr=>exact .inl ⟨.fr,trivial,by simp,e⟩
 |rws=>exact .inl ⟨.rws,trivial,by simp,e⟩
 |nt c=>exact .inl ⟨.nt c,hi,by simp,e⟩
 |rw p=>exact .inl ⟨.rw p,hi,by simp,e⟩
theorem blk_of {D:Nat}{v:BV}{nv rv:List Value}{g:Nat}(h:blkV v nv rv g):blkB D v nv rv g:=by
 obtain⟨i,hi,hb,e⟩:=h;refine⟨i,hi,?_⟩;cases i<;>first|exact e|exact absurd rfl hb
theorem blkI_of {D:Nat}{v:BV}{nv rv:List Value}{g:Nat}(h:blkI v rv g):blkB D v nv rv g:=by
 obtain⟨i,hi,e⟩:=h
 cases i with
 |plc=>exact⟨.plc,trivial,e⟩
 |lst=>exact⟨.lst,trivial,e⟩
 |rws=>exact⟨.rws,trivial,e⟩
 |rw p=>exact⟨.rw p,hi,e⟩
 |_=>exact absurd hi (by simp[liveI])
section
variable {w w':World} {m D:Nat} {v:BV} {nv rv rv' wv:List Value} {bs N:Nat} {dss:List (List Dd)} {b b':Bd}
theorem OwnVal.blk (h:OwnVal w m v nv rv bs N dss b):∀g,blkV v nv rv g→m≤g∧g<w.heap.size∧(g<bs∨N≤g):=fun g ⟨i,hi,hb,e⟩=>by
 rw[←famR_v 0 v nv rv b i] at e;exact⟨(h.fam.lt ⟨hi,hb⟩ g e).1,(h.fam.lt ⟨hi,hb⟩ g e).2,h.out i hi hb g e⟩
theorem OwnLW.turn (h:OwnLW w bs N v.W wv dss)(o:OwnVal w m v nv rv bs N dss b){F':Nat→Prop}(t:TurnB w w' (blkV v nv rv) F'):OwnLW w' bs N v.W wv dss:=
 h.same (fun g h1 h2=>t.block g (Nat.lt_of_lt_of_le h2 o.top) (fun q=>by have:=(o.blk g q).2.2;omega))
theorem famR_nv (v:BV)(nv rv:List Value)(b:Bd){i:BI}(h:isI i):famR 0 v [] rv b i=famR D v nv rv b i:=by
 cases i<;>first|rfl|exact absurd h (by simp[isI])
theorem OwnBd.ink (h:OwnBd w m D v nv rv bs N dss b):OwnI w m v rv b:=by
 refine⟨h.fam.congr (fun i hi=>?_) (fun i hi=>?_),h.lr⟩
 · cases i<;>first|trivial|exact hi|exact absurd hi (by simp[liveI])
 · cases i<;>first|rfl|exact absurd hi (by simp[liveI])
theorem OwnBd.turn (h:OwnBd w m D v nv rv bs N dss b)(o:OwnI w' m v rv' b')(t:TurnB w w' (blkI v rv) (blkI v rv'))(e1:b'.nts=b.nts)(e2:b'.nxt=b.nxt)(e3:b'.sn=b.sn)(e4:b'.fr=b.fr):
  OwnBd w' m D v nv rv' bs N dss b'∧TurnB w w' (blkB D v nv rv) (blkB D v nv rv'):=by
 have lI:∀i,liveB nv rv' i∧isI i→liveI rv' i:=fun i ⟨h1,h2⟩=>by cases i<;>first|trivial|exact h1|exact absurd h2 (by simp[isI])
 have nI:∀i,liveB nv rv i→¬isI i→∀g,(famR D v nv rv b i).v.ownBlock=some g→¬blkI v rv g:=fun i hi hs g hg hB=>by
  obtain⟨j,hj,e⟩:=hB;have hij:i≠j:=fun q=>hs (by subst q;cases i<;>first|trivial|exact absurd hj (by simp[liveI]))
  have lj:liveB nv rv j:=by cases j<;>first|trivial|exact hj|exact absurd hj (by simp[liveI])
  have ej:(famR D v nv rv b j).v.ownBlock=some g:=by
   rw[famR_v];cases j<;>first|exact e|exact absurd hj (by simp[liveI])
  rcases h.fam.apart i j hi lj hij with q|q
  · rw[hg] at q;cases q
  · exact q (hg.trans ej.symm)
 have F:=h.fam.part (w':=w') (live':=liveB nv rv') (R':=famR D v nv rv' b') isI (o.fam.congr lI (fun i hi=>(famR_nv (D:=D) v nv rv' b' hi.2).symm)) (fun i hs hi=>by cases i<;>first|trivial|exact hi|exact absurd trivial hs)
  (fun i hs _=>by cases i<;>first|exact absurd trivial hs|(simp only[famR,e1,e2,e3,e4])) t nI (fun i hi hs g hg=>⟨i,lI i ⟨hi,hs⟩,by
   rw[famR_v] at hg
   cases i<;>first|exact hg|exact absurd hs (by simp[isI])⟩)
 have nB:∀g,blkB D v nv rv' g→blkB D v nv rv g∨w.heap.size≤g:=fun g ⟨i,hi,e⟩=>by
  by_cases s:isI i
  ·
   rcases t.news g ⟨i,lI i ⟨hi,s⟩,by cases i<;>first|exact e|exact absurd s (by simp[isI])⟩ with q|q
   · exact .inl (blkI_of q)
   · exact .inr q
  · exact .inl ⟨i,by cases i<;>first|trivial|exact hi|exact absurd trivial s,by cases i<;>first|exact e|exact absurd trivial s⟩
 refine⟨⟨F,by rw[e1];exact h.ln,o.lr,h.work.same t.size (fun g h1 h2=>t.block g (Nat.lt_of_lt_of_le h2 h.top) (fun q=>by have:=(h.blk g (blkI_of q)).2.2;omega)),Nat.le_trans h.top t.size,fun i hi k hk=>?_⟩,⟨t.os,t.tape,t.output,t.size,fun g hg hn=>t.block g hg (fun q=>hn (blkI_of q)),nB⟩⟩;rw[famR_v] at hk;rcases nB k ⟨i,hi,hk⟩ with q|q
 · exact (h.blk k q).2.2
 · right;exact Nat.le_trans h.top q
end
end
theorem one_nxN {dss:List (List Dd)}{es:List Ev}{b:Bd}{c:Nat}(hc:c<b.nxt.length)(h0:0≤b.nxt.getD c 0):(oneM dss es b c).nxt.getD c 0=b.nxt.getD c 0+1∧nxN (oneM dss es b c) c=nxN b c+1:=by
 have e:(oneM dss es b c).nxt.getD c 0=b.nxt.getD c 0+1:=by
  show (b.nxt.set c (b.nxt.getD c 0+1)).getD c 0=_;rw[List.getD_eq_getElem?_getD,List.getElem?_set];simp[hc]
 refine⟨e,?_⟩;unfold nxN;rw[e];omega
structure WK (dss:List (List Dd))(c:Nat)(g:Int)(T:Bd)(b:Bd)(n:Nat):Prop where
 shp:Shp dss b n
 le:nxN b c≤(dss.getD c []).length
 z:0≤b.nxt.getD c 0
 nt:n+((dss.getD c []).length-nxN b c)≤1000
 go:∃m,(dss.getD c []).length≤nxN b c+m∧T=if nxN b c<(dss.getD c []).length∧goB (dss.getD c []) (nxN b c)=true then goM dss (eventsB dss) g c m b else b
 gg:nxN b c<(dss.getD c []).length→goB (dss.getD c []) (nxN b c)=true→gAt dss c (nxN b c)=g∧g≠0
theorem WK.step {dss:List (List Dd)}{c:Nat}{g:Int}{T b:Bd}{n:Nat}(h:WK dss c g T b n)(hc:c<dss.length)(hl:nxN b c<(dss.getD c []).length)(hg:goB (dss.getD c []) (nxN b c)=true):WK dss c g T (oneM dss (eventsB dss) b c) (n+1):=by
 obtain⟨g1,g2⟩:=h.gg hl hg;obtain⟨e1,e2⟩:=one_nxN (dss:=dss) (es:=eventsB dss) (by rw[h.shp.nxt];exact hc) h.z;obtain⟨m,m1,m2⟩:=h.go;rw[if_pos ⟨hl,hg⟩] at m2;have hz:=h.z;have hnt:=h.nt;refine⟨h.shp.one c,by rw[e2];omega,by rw[e1];omega,by rw[e2];omega,?_,fun q1 q2=>?_⟩
 ·
  obtain⟨m',rfl⟩:∃m',m=m'+1:=⟨m-1,by omega⟩;refine⟨m',by rw[e2];omega,?_⟩;rw[m2,goP_more (by rw[e2];omega) e2 g1]
 ·
  have q3:=q2;unfold goB at q3;rw[e2] at q3;simp only[Bool.and_eq_true,bne_iff_ne,ne_eq,beq_iff_eq,decide_eq_true_eq] at q3;refine⟨?_,g2⟩;rw[e2,←g1];exact q3.2
theorem WK.start {dss:List (List Dd)}{c:Nat}{b:Bd}{n:Nat}(S:Shp dss b n)(hn:n≤900)(hc:c<dss.length)(h0:0≤b.nxt.getD c 0)(hl:nxN b c<(dss.getD c []).length)(c10:c<10):WK dss c (gAt dss c (nxN b c)) (stepM dss (eventsB dss) b (c:Int)) (oneM dss (eventsB dss) b c) (n+1):=by
 obtain⟨e1,e2⟩:=one_nxN (dss:=dss) (es:=eventsB dss) (by rw[S.nxt];exact hc) h0;have h5:=work_five S.work hc;obtain⟨m',hm'⟩:∃m',(dss.getD c []).length=m'+1:=⟨(dss.getD c []).length-1,by omega⟩;refine⟨S.one c,by rw[e2];omega,by rw[e1];omega,by rw[e2];omega,⟨m',by rw[e2];omega,?_⟩,fun q1 q2=>?_⟩
 ·
  unfold stepM;rw[if_neg (by omega)];simp only[Int.toNat_natCast];rw[show goM dss (eventsB dss) (gAt dss c (nxN b c)) c (dss.getD c []).length b=goM dss (eventsB dss) (gAt dss c (nxN b c)) c (m'+1) b by rw[hm'],goP_more (by rw[e2];omega) e2 rfl]
 ·
  unfold goB at q2;rw[e2] at q2;simp only[Bool.and_eq_true,bne_iff_ne,ne_eq,beq_iff_eq,decide_eq_true_eq] at q2;have a1:gAt dss c (nxN b c+1)=gAt dss c (nxN b c):=q2.2;have a2:gAt dss c (nxN b c+1)≠0:=q2.1.2;exact⟨by rw[e2];exact a1,fun q=>a2 (a1.trans q)⟩
section
def famC (v:BV)(nv hv rv wv:List Value)(dss:List (List Dd))(b:Bd):BJ→Rw
 | .b .nts=>hdR 36 hv v.N
 |j=>famA v nv rv wv dss b j
theorem famC_other (v:BV)(nv hv rv wv:List Value)(dss:List (List Dd))(b:Bd){j:BJ}(h:j≠.b .nts):famC v nv hv rv wv dss b j=famA v nv rv wv dss b j:=by
 cases j with
 |b i=>cases i<;>first|rfl|exact absurd rfl h
 |wk=>rfl
 |wd c=>rfl
theorem famC_v (v:BV)(nv hv rv wv:List Value)(dss:List (List Dd))(b:Bd)(j:BJ):(famC v nv hv rv wv dss b j).v=(famA v nv rv wv dss b j).v:=by
 cases j with
 |b i=>cases i<;>rfl
 |wk=>rfl
 |wd c=>rfl
structure OwnC (w:World)(m:Nat)(v:BV)(nv hv rv wv:List Value)(dss:List (List Dd))(b:Bd):Prop where
 fam:Fam w m (liveA nv rv wv) (famC v nv hv rv wv dss b)
 ln:nv.length=b.nts.length
 lh:hv.length=nv.length
 lr:rv.length=b.rws.length
 lw:wv.length=dss.length
def isJ:BJ→Prop
 | .b i=>isI i
 |_=>False
section
variable {w w':World} {m:Nat} {v:BV} {nv hv rv rv' wv:List Value} {dss:List (List Dd)} {b b':Bd}
theorem OwnA.cut (h:OwnA w m v nv rv wv dss b){g cap c:Nat}(hv':v.N = .slice (some ⟨g,0,none⟩) nv.length cap)(u:Value):OwnC (w.setCell ⟨g,c,none⟩ u) m v nv (nv.set c u) rv wv dss b:=by
 have o:=h.fam.own (.b .nts) ⟨trivial,by simp⟩;obtain⟨q1,q2,q3⟩:=Rw.put (r:=hdR 36 nv v.N) o (g:=g) (cap:=cap) (k:=c) hv' u;have F:=h.fam.set (i:= .b .nts) ⟨trivial,by simp⟩ (r:={ hdR 36 nv v.N with xs:=nv.set c u }) q2 (.inl rfl) q1;refine⟨F.congr (fun _ hi=>hi) (fun j _=>?_),h.ln,by simp,h.lr,h.lw⟩;by_cases e:j = .b .nts
 ·
  subst e;rw[upd_same];show hdR _ (nv.set c u) v.N=_;simp[hdR]
 · rw[upd_other _ _ e,famC_other _ _ _ _ _ _ _ e]
theorem OwnC.keep (h:OwnC w m v nv hv rv wv dss b)(k:Keep w w'):OwnC w' m v nv hv rv wv dss b:=⟨h.fam.keep k,h.ln,h.lh,h.lr,h.lw⟩
theorem live_ia {i:BI}(hi:liveI rv i):liveA nv rv wv (.b i):=by
 cases i with
 |plc=>exact⟨trivial,by simp⟩
 |lst=>exact⟨trivial,by simp⟩
 |rws=>exact⟨trivial,by simp⟩
 |rw p=>exact⟨hi,by simp⟩
 |bd=>exact hi.elim
 |nts=>exact hi.elim
 |nxt=>exact hi.elim
 |sn=>exact hi.elim
 |fr=>exact hi.elim
 |nt c=>exact hi.elim
theorem OwnC.ink (h:OwnC w m v nv hv rv wv dss b):OwnI w m v rv b:=by
 refine⟨⟨fun i hi=>?_,fun i j hi hj hij=>?_⟩,h.lr⟩
 ·
  have:=h.fam.own (.b i) (live_ia hi);cases i<;>first|exact this|exact absurd hi (by simp[liveI])
 ·
  have:=h.fam.apart (.b i) (.b j) (live_ia hi) (live_ia hj) (fun e=>hij (by injection e));rw[famC_v,famC_v] at this;have ei:(famR 0 v [] rv b i).v=(famA v nv rv wv dss b (.b i)).v:=by cases i<;>first|rfl|exact absurd hi (by simp[liveI])
  have ej:(famR 0 v [] rv b j).v=(famA v nv rv wv dss b (.b j)).v:=by cases j<;>first|rfl|exact absurd hj (by simp[liveI])
  rw[ei,ej];exact this
theorem OwnC.turn (h:OwnC w m v nv hv rv wv dss b)(o:OwnI w' m v rv' b')(t:TurnB w w' (blkI v rv) (blkI v rv'))(e1:b'.nts=b.nts)(e2:b'.nxt=b.nxt)(e3:b'.sn=b.sn)(e4:b'.fr=b.fr):OwnC w' m v nv hv rv' wv dss b':=by
 have lI:∀i,liveB nv rv' i→isI i→liveI rv' i:=fun i h1 h2=>by cases i<;>first|trivial|exact h1|exact absurd h2 (by simp[isI])
 refine⟨h.fam.part (w':=w') (live':=liveA nv rv' wv) (R':=famC v nv hv rv' wv dss b') isJ ⟨fun j hj=>?_,fun j l hj hl hjl=>?_⟩ (fun j hs hj=>?_) (fun j hs _=>?_) t (fun j hj hs g hg hB=>?_) (fun j hj hs g hg=>?_),by rw[e1];exact h.ln,h.lh,o.lr,h.lw⟩
 ·
  obtain⟨hj,hs⟩:=hj
  cases j with
  |b i=>
   have:=o.fam.own i (lI i hj.1 hs);cases i<;>first|exact this|exact absurd hs (by simp[isJ,isI])
  |wk=>exact absurd hs (by simp[isJ])
  |wd c=>exact absurd hs (by simp[isJ])
 ·
  obtain⟨hj,hs⟩:=hj;obtain⟨hl,hr⟩:=hl
  cases j with
  |b i=>
   cases l with
   |b k=>
    have:=o.fam.apart i k (lI i hj.1 hs) (lI k hl.1 hr) (fun e=>hjl (by rw[e]));rw[famC_v,famC_v];have ei:(famR 0 v [] rv' b' i).v=(famA v nv rv' wv dss b' (.b i)).v:=by cases i<;>first|rfl|exact absurd hs (by simp[isJ,isI])
    have ej:(famR 0 v [] rv' b' k).v=(famA v nv rv' wv dss b' (.b k)).v:=by cases k<;>first|rfl|exact absurd hr (by simp[isJ,isI])
    rw[←ei,←ej];exact this
   |wk=>exact absurd hr (by simp[isJ])
   |wd c=>exact absurd hr (by simp[isJ])
  |wk=>exact absurd hs (by simp[isJ])
  |wd c=>exact absurd hs (by simp[isJ])
 ·
  cases j with
  |b i=>cases i<;>first|exact (hs trivial).elim|exact hj
  |wk=>trivial
  |wd c=>exact hj
 ·
  cases j with
  |b i=>cases i<;>first|exact (hs trivial).elim|rfl|(simp only[famC,famA,famR,e1,e2,e3,e4])
  |wk=>rfl
  |wd c=>rfl
 ·
  obtain⟨i,hi,e⟩:=hB;have li:liveA nv rv wv (.b i):=live_ia hi
  have ei:(famC v nv hv rv wv dss b (.b i)).v.ownBlock=some g:=by
   rw[famC_v];cases i<;>first|exact e|exact absurd hi (by simp[liveI])
  have hne:j≠.b i:=fun q=>hs (by subst q;cases i<;>first|trivial|exact absurd hi (by simp[liveI]))
  rcases h.fam.apart j (.b i) hj li hne with q|q
  · rw[hg] at q;cases q
  · exact q (hg.trans ei.symm)
 ·
  cases j with
  |b i=>
   refine⟨i,lI i hj.1 hs,?_⟩;rw[famC_v] at hg;cases i<;>first|exact hg|exact absurd hs (by simp[isJ,isI])
  |wk=>exact absurd hs (by simp[isJ])
  |wd c=>exact absurd hs (by simp[isJ])
theorem OwnC.free {c gq cq:Nat}{u:Value}{x:Nt}{r:List Nt}(h:OwnC w m v nv (nv.set c u) rv wv dss b)(hc:c<nv.length)(hz:b.nts.getD c []=x::r)(hq:nv.getD c nilS = .slice (some ⟨gq,0,none⟩) (r.length+1) cq)
  (hu:(cq=1∧u = .slice (some ⟨gq,0,none⟩) r.length 0)∨u = .slice (some ⟨gq,3,none⟩) r.length (cq-1)):FreeBd w m w.heap.size v dss { b with nts:=b.nts.set c r }:=by
 have hcb:c<b.nts.length:=by rw[←h.ln];exact hc
 have oq:=h.fam.own (.b (.nt c)) ⟨hc,by simp⟩
 have oq2:AppT cN 66 3 w m (.slice (some ⟨gq,0,none⟩) (x::r).length cq) (x::r):=by
  have q:AppT cN 66 3 w m (nv.getD c nilS) (b.nts.getD c []):=oq;rw[hz,hq] at q;exact q
 have hcq:r.length+1≤cq:=by
  rcases oq2.2 with ⟨q,_⟩|⟨g,cap,cur,e,_,_,hcap,_⟩
  · simp at q
  ·
   simp only[Value.slice.injEq,true_and] at e;rw[e.2];simpa using hcap
 have lq:gq<w.heap.size:=(World.ownsRow.lt oq2 gq rfl).2;have hVc:(nv.set c u).getD c nilS=u:=by rw[getD_setV _ _ _ _ hc,if_pos rfl]
 have hVo:∀i,i≠c→(nv.set c u).getD i nilS=nv.getD i nilS:=fun i hi=>by rw[getD_setV _ _ _ _ hc,if_neg hi]
 have hNc:(b.nts.set c r).getD c []=r:=by rw[getD_setV _ _ _ _ hcb,if_pos rfl]
 have hNo:∀i,i≠c→(b.nts.set c r).getD i []=b.nts.getD i []:=fun i hi=>by rw[getD_setV _ _ _ _ hcb,if_neg hi]
 have lnb:(b.nts.set c r).length=b.nts.length:=by simp
 have su:SlV u r.length:=by
  rcases hu with ⟨_,e⟩|e
  · exact⟨_,_,e,.inr ⟨gq,0,rfl⟩⟩
  · exact⟨_,_,e,.inr ⟨gq,3,rfl⟩⟩
 have ru:RdN w u r:=by
  rcases hu with ⟨e1,e⟩|e
  ·
   have h0:r=[]:=List.eq_nil_of_length_eq_zero (by omega);exact⟨_,0,by rw[e,h0];rfl,.inl h0⟩
  ·
   refine⟨some ⟨gq,3,none⟩,cq-1-r.length,by rw[e];congr 1;omega,.inr ⟨gq,3,rfl,lq,fun i y hy=>?_⟩⟩;have hr:=AppT.rd cN_len oq2;obtain⟨a2,c2,e2,hx⟩:=hr;rcases hx with q|⟨b2,o2,q1,q2,q3⟩
   · cases q
   ·
    rw[q1] at e2;simp only[Value.slice.injEq,Option.some.injEq,Addr.mk.injEq,and_true] at e2;obtain⟨⟨rfl,rfl⟩,-⟩:=e2;have:=q3 (i+1) y (by simpa using hy);rw[show 0+(i+1)*3=3+i*3 by omega] at this;exact this
 have row:∀j,j∈bdJ dss.length (b.nts.set c r).length b.rws.length→liveA nv rv wv j∧∀y,rowS (rowJ v (fun i=>wv.getD i nilS) (fun i=>(nv.set c u).getD i nilS) (fun i=>rv.getD i nilS) dss { b with nts:=b.nts.set c r } j).1 (rowJ v (fun i=>wv.getD i nilS) (fun i=>(nv.set c u).getD i nilS) (fun i=>rv.getD i nilS) dss { b with nts:=b.nts.set c r } j).2 y →
   Wb w y∧m≤y.block∧(famC v nv (nv.set c u) rv wv dss b j).v.ownBlock=some y.block:=by
  intro j hj;have plain:∀(j:BJ) (n:Nat),liveA nv rv wv j→n≤(famC v nv (nv.set c u) rv wv dss b j).n*(famC v nv (nv.set c u) rv wv dss b j).size→∀y,rowS (famC v nv (nv.set c u) rv wv dss b j).v n y→Wb w y∧m≤y.block∧(famC v nv (nv.set c u) rv wv dss b j).v.ownBlock=some y.block:=fun j n l1 l2 y hy=>Rw.wb (h.fam.own j l1) l2 hy
  rcases bdJ_mem hj with ⟨d,hd,rfl⟩|rfl|rfl|⟨d,hd,rfl⟩|rfl|rfl|rfl|⟨d,hd,rfl⟩
  ·
   have l1:liveA nv rv wv (.wd d):=by show d<wv.length;rw[h.lw];exact hd
   exact⟨l1,plain (.wd d) _ l1 (by show 4*(dss.getD d []).length≤(dss.getD d []).length*4;omega)⟩
  · exact⟨⟨trivial,by simp⟩,plain (.b .plc) _ ⟨trivial,by simp⟩ (by show b.plc.length≤b.plc.length*1;omega)⟩
  · exact⟨⟨trivial,by simp⟩,plain (.b .lst) _ ⟨trivial,by simp⟩ (by show b.lst.length≤b.lst.length*1;omega)⟩
  ·
   have l1:liveA nv rv wv (.b (.nt d)):=⟨by show d<nv.length;rw[h.ln,←lnb];exact hd,by simp⟩;refine⟨l1,fun y hy=>?_⟩;by_cases e:d=c
   ·
    subst e;have hy:rowS ((nv.set d u).getD d nilS) (3*((b.nts.set d r).getD d []).length) y:=hy;rw[hVc,hNc] at hy;refine plain (.b (.nt d)) (3*(r.length+1)) l1 (by show 3*(r.length+1)≤(b.nts.getD d []).length*3;rw[hz,List.length_cons];omega) y ?_;show rowS (nv.getD d nilS) _ y;rw[hq];obtain⟨b2,o2,l2,c2,i2,e2,hi2,ea⟩:=hy;rcases hu with ⟨_,e3⟩|e3
    ·
     rw[e3] at e2;simp only[Value.slice.injEq,Option.some.injEq,Addr.mk.injEq,and_true] at e2;obtain⟨⟨rfl,rfl⟩,-,-⟩:=e2;exact⟨gq,0,_,_,i2,rfl,by omega,ea⟩
    ·
     rw[e3] at e2;simp only[Value.slice.injEq,Option.some.injEq,Addr.mk.injEq,and_true] at e2;obtain⟨⟨rfl,rfl⟩,-,-⟩:=e2;exact⟨gq,0,_,_,3+i2,rfl,by omega,by rw[ea,Nat.zero_add]⟩
   ·
    have hy:rowS ((nv.set c u).getD d nilS) (3*((b.nts.set c r).getD d []).length) y:=hy;rw[hVo d e,hNo d e] at hy;exact plain (.b (.nt d)) _ l1 (by show 3*(b.nts.getD d []).length≤(b.nts.getD d []).length*3;omega) y hy
  · exact⟨⟨trivial,by simp⟩,plain (.b .nxt) _ ⟨trivial,by simp⟩ (by show b.nxt.length≤b.nxt.length*1;omega)⟩
  · exact⟨⟨trivial,by simp⟩,plain (.b .sn) _ ⟨trivial,by simp⟩ (by show b.sn.length≤b.sn.length*1;omega)⟩
  · exact⟨⟨trivial,by simp⟩,plain (.b .fr) _ ⟨trivial,by simp⟩ (by show b.fr.length≤b.fr.length*1;omega)⟩
  ·
   have l1:liveA nv rv wv (.b (.rw d)):=⟨by show d<rv.length;rw[h.lr];exact hd,by simp⟩;exact⟨l1,plain (.b (.rw d)) _ l1 (by show 1*(b.rws.getD d []).length≤(b.rws.getD d []).length*1;omega)⟩
 have heads:∀(j:BJ) (t:TypeId) (vs:List Value) (z:Value),liveA nv rv wv j→famC v nv (nv.set c u) rv wv dss b j=hdR t vs z→j∉bdJ dss.length (b.nts.set c r).length b.rws.length →
   HdL w z (fun i=>vs.getD i nilS) vs.length (rowsS (bdR7 v (fun i=>wv.getD i nilS) (fun i=>(nv.set c u).getD i nilS) (fun i=>rv.getD i nilS) dss { b with nts:=b.nts.set c r })):=by
  intro j t vs z hl e hj;have ho:=h.fam.own j hl;rw[e] at ho;obtain⟨a,cc,ea,h1⟩:=own_head ho;refine⟨a,cc,ea,?_⟩;rcases h1 with h1|⟨g,e1,e2,e3⟩
  · exact .inl (by rw[h1];rfl)
  ·
   refine .inr ⟨g,0,e1,e2,fun i hi=>⟨by rw[Nat.zero_add];exact e3 i hi,?_⟩⟩;rintro⟨r',hr,hx⟩;rw[bdR7_map,List.mem_map] at hr;obtain⟨q,hq',rfl⟩:=hr;obtain⟨l1,l2⟩:=row q hq';have hb:=(l2 _ hx).2.2;have ap:=h.fam.apart q j l1 hl (fun e=>hj (e ▸ hq'));rw[hb,e] at ap;rcases ap with ap|ap
   · cases ap
   ·
    apply ap;show _=z.ownBlock;rw[ea,e1];rfl
 have hge:∀(j:BJ) (n:Nat),liveA nv rv wv j→HdM (famC v nv (nv.set c u) rv wv dss b j).v n m:=fun j n hl q o l c' e _=>(h.fam.lt hl q (by rw[e];rfl)).1
 have o1:Own w m v.P b.plc:=h.fam.own (.b .plc) ⟨trivial,by simp⟩;have o2:Own w m v.L b.lst:=h.fam.own (.b .lst) ⟨trivial,by simp⟩;have o3:Own w m v.X b.nxt:=h.fam.own (.b .nxt) ⟨trivial,by simp⟩;have o4:Own w m v.S b.sn:=h.fam.own (.b .sn) ⟨trivial,by simp⟩;have o5:Own w m v.F b.fr:=h.fam.own (.b .fr) ⟨trivial,by simp⟩;have hw:=heads .wk 72 wv v.W trivial rfl (fun hq=>by have:=bdJ_mem hq;simp at this);have hn:=heads (.b .nts) 36 (nv.set c u) v.N ⟨trivial,by simp⟩ rfl (fun hq=>by have:=bdJ_mem hq;simp at this);have hr:=heads (.b .rws) 25 rv v.R ⟨trivial,by simp⟩ rfl (fun hq=>by have:=bdJ_mem hq;simp at this);rw[h.lw] at hw;rw[h.lh,h.ln,←lnb] at hn;rw[h.lr] at hr;refine⟨⟨?_,o1.rd,o2.rd,?_,o3.rd,o4.rd,o5.rd,?_⟩,⟨fun i=>wv.getD i nilS,fun i=>(nv.set c u).getD i nilS,fun i=>rv.getD i nilS,?_,⟨?_,?_⟩,?_⟩,hge .wk _ trivial,hge (.b .nts) _ ⟨trivial,by simp⟩,hge (.b .rws) _ ⟨trivial,by simp⟩⟩
 ·
  obtain⟨a,cap,e,h1⟩:=hw;refine⟨a,cap,e,?_⟩;rcases h1 with h1|⟨g,o,e1,e2,e3⟩
  · exact .inl (List.eq_nil_of_length_eq_zero h1)
  · exact .inr ⟨g,o,e1,e2,fun i hi=>⟨_,(e3 i hi).1,(show AppD w m (wv.getD i nilS) (dss.getD i []) from h.fam.own (.wd i) (by show i<wv.length;rw[h.lw];exact hi)).ownD.rd⟩⟩
 ·
  obtain⟨a,cap,e,h1⟩:=hn;refine⟨a,cap,e,?_⟩;rcases h1 with h1|⟨g,o,e1,e2,e3⟩
  · exact .inl (List.eq_nil_of_length_eq_zero h1)
  ·
   refine .inr ⟨g,o,e1,e2,fun i hi=>⟨_,(e3 i hi).1,?_⟩⟩;show RdN w ((nv.set c u).getD i nilS) ((b.nts.set c r).getD i []);by_cases ei:i=c
   · subst ei;rw[hVc,hNc];exact ru
   ·
    rw[hVo i ei,hNo i ei];have hi2:i<nv.length:=by rw[h.ln,←lnb];exact hi
    exact AppT.rd cN_len (show AppT cN 66 3 w m (nv.getD i nilS) (b.nts.getD i []) from h.fam.own (.b (.nt i)) ⟨hi2,by simp⟩)
 ·
  obtain⟨a,cap,e,h1⟩:=hr;refine⟨a,cap,e,?_⟩;rcases h1 with h1|⟨g,o,e1,e2,e3⟩
  · exact .inl (List.eq_nil_of_length_eq_zero h1)
  · exact .inr ⟨g,o,e1,e2,fun i hi=>⟨_,(e3 i hi).1,(show Own w m (rv.getD i nilS) (b.rws.getD i []) from h.fam.own (.b (.rw i)) ⟨by show i<rv.length;rw[h.lr];exact hi,by simp⟩).rd⟩⟩
 ·
  refine⟨hw,fun i hi=>Rw.slv (h.fam.own (.wd i) (by show i<wv.length;rw[h.lw];exact hi)),Rw.slv (h.fam.own (.b .plc) ⟨trivial,by simp⟩),Rw.slv (h.fam.own (.b .lst) ⟨trivial,by simp⟩),hn,
   fun i hi=>?_,Rw.slv (h.fam.own (.b .nxt) ⟨trivial,by simp⟩),Rw.slv (h.fam.own (.b .sn) ⟨trivial,by simp⟩),Rw.slv (h.fam.own (.b .fr) ⟨trivial,by simp⟩),hr,
   fun i hi=>Rw.slv (h.fam.own (.b (.rw i)) ⟨by show i<rv.length;rw[h.lr];exact hi,by simp⟩)⟩
  show SlV ((nv.set c u).getD i nilS) ((b.nts.set c r).getD i []).length;by_cases ei:i=c
  · subst ei;rw[hVc,hNc];exact su
  ·
   rw[hVo i ei,hNo i ei];have hi2:i<nv.length:=by rw[h.ln,←lnb];exact hi
   exact Rw.slv (h.fam.own (.b (.nt i)) ⟨hi2,by simp⟩)
 ·
  rintro y ⟨r',hr',hx⟩;rw[bdR7_map,List.mem_map] at hr';obtain⟨q,hq',rfl⟩:=hr';exact ((row q hq').2 y hx).1
 ·
  rw[bdR7_map,List.pairwise_map];refine List.Pairwise.imp_of_mem (R:=fun a b=>a≠b) (fun {p q} hp hq' hne y hx hy=>?_) (bdJ_nodup _ _ _);have a1:=((row p hp).2 y hx).2.2;have a2:=((row q hq').2 y hy).2.2;rcases h.fam.apart p q (row p hp).1 (row q hq').1 hne with ap|ap
  · rw[a1] at ap;cases ap
  · rw[a1,a2] at ap;exact ap rfl
 ·
  rintro y ⟨r',hr',hx⟩;rw[bdR7_map,List.mem_map] at hr';obtain⟨q,hq',rfl⟩:=hr';have:=(row q hq').2 y hx;exact⟨this.2.1,this.1.lt⟩
end
end
theorem sz_board {dss:List (List Dd)}{b:Bd}(hb:boardB dss b=true):SzBd dss b:=by
 obtain⟨h1,h2,h3,h4,h5,h6,h7,h8,h9,h10⟩:=board_all hb;obtain⟨w1,w2⟩:=work_small h1;exact⟨by omega,w2,by omega,by omega,by omega,fun i hi=>by have:=h10 i (by omega);omega,by omega,by omega,by omega,by omega,fun i hi=>by have:=h9 i (by omega);omega⟩
structure AtR (dss:List (List Dd))(stps:List Int)(b:Bd)(k:Nat):Prop where
 run:Run dss b
 eq:runM dss (eventsB dss) (newM dss) stps=b
 len:stps.length=k
 mes:mesM dss b+k≤24
 ln:LN dss b
 nx:∀c,0≤b.nxt.getD c 0
theorem AtR.new {dss:List (List Dd)}(hb:workB dss=true):AtR dss [] (newM dss) 0:=
 ⟨Run.new hb,rfl,rfl,(mes_new hb).1,(mes_new hb).2.1,(mes_new hb).2.2⟩
theorem AtR.step {dss:List (List Dd)}(hb:workB dss=true){stps:List Int}{b:Bd}{k:Nat}(h:AtR dss stps b k){s:Int}(hs:isB (possM dss b) s=true):AtR dss (stps++[s]) (stepM dss (eventsB dss) b s) (k+1):=by
 have hm:=mes_step hb (es:=eventsB dss) h.ln h.nx hs;refine⟨h.run.step hb hs,?_,by simp[h.len],by have:=h.mes;have:=hm.1;omega,hm.2.1,hm.2.2⟩;rw[run_app,h.eq];show runM dss (eventsB dss) (if isB (possM dss b) s=true then stepM dss (eventsB dss) b s else b) []=_;rw[if_pos hs];rfl
theorem RB.flush {dss:List (List Dd)}{b:Bd}{N:Nat→Nat}{m:Nat}(h:RB dss b N m){c:Nat}(hc:c<dss.length){x:Nt}{r:List Nt}(e:b.nts.getD c []=x::r):RB dss (flushM b c) N (m+1):=by
 have hx:=(h.nl c).2 x (by rw[e];simp);have hl:=(h.nl c).1;rw[e] at hl;have h1:=h.note (N':=N) c r (fun y hy=>(h.nl c).2 y (by rw[e];exact List.mem_cons_of_mem _ hy)) (by simp at hl;omega) (fun _ _=>Nat.le_refl _) hc;rw[flushM,e];exact h1.ink _ _ _ hx.2.1 hx.2.2
theorem flush_step {dss:List (List Dd)}{es:List Ev}{b:Bd}(c:Nat):stepM dss es b (10+(c:Int))=flushM b c:=by
 unfold stepM;rw[if_pos (by omega)];have:(10+(c:Int)-10).toNat=c:=by omega
 rw[this]
theorem RB.sz {dss:List (List Dd)}{b:Bd}{n m:Nat}(h:RB dss b (fun _=>n) m)(hn:n≤1000)(hm:m≤1000):SzBd dss b∧SumBd dss b:=by
 obtain⟨w1,w2⟩:=work_small h.work;have h9:=ev_nine dss
 have hr:(idxB rdE (eventsB dss)).length≤12:=by
  unfold idxB;split
  · have:=idxK_len rdE (eventsB dss) (eventsB dss).length;omega
  · simp
 have hl:lenW dss≤12:=by
  have h1:=h.work;simp only[workB,Bool.and_eq_true,decide_eq_true_eq] at h1;exact h1.1.1.2
 have key:∀ {α:Type} (l:List (List α)) (m:Nat),(∀i,i<l.length→(l.getD i []).length≤m)→∀k,k≤l.length→lenG (l.take k)≤k*m:=by
  intro α l m h k
  induction k with
  |zero=>intro _;simp[lenG]
  |succ k ih=>
   intro hk;have:=ih (by omega);have:=h k hk;rw[lenG_take l k hk,Nat.add_mul];omega
 have n1:=key b.nts n (fun i _=>(h.nl i).1) b.nts.length (Nat.le_refl _);have n2:=key b.rws m (fun i _=>(h.rl i).1) b.rws.length (Nat.le_refl _);rw[List.take_length,h.nts] at n1;rw[List.take_length,h.rws] at n2;have m1:dss.length*n≤3*1000:=Nat.mul_le_mul w1 hn;refine⟨⟨by omega,w2,by rw[h.plc];omega,by rw[h.lst];omega,by rw[h.nts];omega,fun i _=>by have:=(h.nl i).1;omega,by rw[h.nxt];omega,by rw[h.sn];omega,by rw[h.fr];omega,by rw[h.rws];omega,fun i _=>by have:=(h.rl i).1;omega⟩,by omega,by omega,by omega⟩
theorem RB.any {dss:List (List Dd)}{b:Bd}(hb:boardB dss b=true):RB dss b (fun _=>20) 20:=RB.of hb (Shp.of hb).nl (Shp.of hb).rl
theorem RB.quick {dss:List (List Dd)}{b:Bd}{n m:Nat}(h:RB dss b (fun _=>n) m){c:Nat}(hc:c<dss.length)(hcan:canM dss b c=true):RB dss (quickM dss (eventsB dss) b c) (fun _=>n+1) (m+6):=by
 have h3:dss.length≤3:=(workB_useR h.work).1;have h1:=h.stepped hc hcan (by omega);unfold quickM;split
 · exact h1.more (fun _=>Nat.le_refl _) (by omega)
 ·
  rename_i hne;rw[flush_step]
  cases e:(stepM dss (eventsB dss) b (c:Int)).nts.getD c [] with
  |nil=>rw[e] at hne;simp at hne
  |cons x r=>exact h1.flush hc e
abbrev bd0:BV:=⟨nilS,nilS,nilS,nilS,nilS,nilS,nilS,nilS⟩
abbrev zBd:Bd:=⟨[],[],[],[],[],[],[]⟩
theorem sz_zero:SzBd [] zBd:=⟨by simp,by simp,by simp,by simp,by simp,by simp,by simp,by simp,by simp,by simp,by simp⟩
theorem rd_zero (w:World):RdBd w bd0 [] zBd:=
 ⟨⟨none,0,rfl,.inl rfl⟩,⟨none,0,rfl,.inl rfl⟩,⟨none,0,rfl,.inl rfl⟩,⟨none,0,rfl,.inl rfl⟩,⟨none,0,rfl,.inl rfl⟩,⟨none,0,rfl,.inl rfl⟩,⟨none,0,rfl,.inl rfl⟩,⟨none,0,rfl,.inl rfl⟩⟩
theorem l1Copy_rd (w:World)(v:Value)(zs:List Int)(h:Rd w v zs)(hn:zs.length≤1048576):
  Calls Try.prog 76 #[v] w fun e w'=>∃v',e = .returned v'∧Own w' w.heap.size v' zs∧Keep w w':=by
 have ho:Own (w.alloc (.cells #[] 2)) w.heap.size (.slice (some ⟨w.heap.size,0,none⟩) 0 0) []:=World.ownsRow_lit w #[] 0 (Nat.le_refl _) (by decide) rfl;have hK:Keep w (w.alloc (.cells #[] 2)):=(Keep.refl w).alloc _;obtain⟨i0,hi,hz0,hz1,hz2⟩:=info_parts Try.infoI;obtain⟨a,cap,rfl,h⟩:=h;rcases h with rfl|⟨g,off,rfl,hg,hc⟩
 ·
  cases a with
  |none=>
   go_enter Try.func76,Try.ntmps76
   go_wp2;go_ret;exact⟨_,rfl,ho,hK⟩
  |some x=>
   go_enter Try.func76,Try.ntmps76
   go_wp2_with (at_builtin;refine wpList_append_own _ rfl _ _ 25 rfl w.heap.size 2 i0 (.int .i64 0) 1 8 Try.underlying25 hi hz0 hz1 hz2 rfl (by decide) _ _ _ rfl ho x 0 cap [] rfl rfl ?c1 ?c2 ?c3 ?c4 ?c5 ?_)
   case c1=>intro j u hj;simp at hj
   case c2=>intro u hu;simp at hu
   case c3=>simp
   case c4=>simp
   case c5=>simp
   intro v' w1 hown' hgrow _;have k1:Keep w w1:=hK.grown hgrow ho.ge;have o1:Own w1 w.heap.size v' []:=by unfold Own;simpa using hown'
   clear hgrow hown';go_wp2;go_ret;exact⟨_,rfl,o1,k1⟩
 ·
  have C:=rd_cells (w:=w.alloc (.cells #[] 2)) (b:=g) (off:=off) (zs:=zs) (fun i hi=>(hK.cell hg).trans (hc i hi));go_enter Try.func76,Try.ntmps76
  go_wp2_with (at_builtin;refine wpList_append_own _ rfl _ _ 25 rfl w.heap.size 2 i0 (.int .i64 0) 1 8 Try.underlying25 hi hz0 hz1 hz2 rfl (by decide) _ _ _ rfl ho ⟨g,off,none⟩ zs.length cap (zs.map (Value.int .i64)) rfl (by simp) ?c1 ?c2 ?c3 ?c4 ?c5 ?_)
  case c1=>exact C
  case c2=>exact ints_one zs
  case c3=>simp;unfold maxLen;omega
  case c4=>simp;omega
  case c5=>simp
  intro v' w1 hown' hgrow _;have k1:Keep w w1:=hK.grown hgrow ho.ge;have o1:Own w1 w.heap.size v' zs:=by unfold Own;simpa using hown'
  clear hgrow hown';go_wp2;go_ret;exact⟨_,rfl,o1,k1⟩
end Go.Proofs.Ytgakfkjjkobpiaa
