/- Gathered texts. -/
import Derived.Test.YtgakfkjjkobpiaaGreatMH
import Derived.Maps.AppendAt
import Derived.Laws.AppendOwn
import Derived.Deep.Cut
set_option maxRecDepth 100000
set_option maxHeartbeats 8000000
namespace Go.Proofs.YtgakfkjjkobpiaaGreat
open Go.ChangeShapes Go.WideShapes Go.ChangeAt Go.RowKit
section
abbrev RE (ds:List Dd)(v:Value):Rw:=⟨51,4,v,ds.length,ds.flatMap cD⟩
section
variable {α:Type} (t:TypeId) (rowOf:List α->Value->Rw)
def SG (v:Value)(hs:List Value)(xss:List (List α)):Option Nat->Rw
 |none=>EH t hs v
 |some i=>rowOf (xss.getD i []) (hs.getD i AE)
def FN (j:Nat):Option Nat->Prop
 |none=>True
 |some i=>i<j
structure Xk (w:World)(m:Nat)(v:Value)(hs:List Value)(xss:List (List α))(j:Nat):Prop where
 Al:Fj w m (FN j) (SG t rowOf v hs xss)
 len:hs.length=xss.length
 hv:∀xs u,(rowOf xs u).v=u
variable {t rowOf} {w w2:World} {m:Nat} {v u:Value} {hs:List Value} {xss:List (List α)} {j:Nat}
theorem Xk.keep (h:Xk t rowOf w m v hs xss j)(k:AC w w2):Xk t rowOf w2 m v hs xss j:=⟨h.Al.keep k,h.len,h.hv⟩
theorem Xk.step (h:Xk t rowOf w m v hs xss j)(hj:j<xss.length)(k:AC w w2)(ho:(rowOf (xss.getD j []) u).own w2 m)(hn:∀b,u.ownBlock=some b->w.heap.size<=b){g cap:Nat}(hv:v = .slice (some ⟨g,0,none⟩) hs.length cap):
  Xk t rowOf (w2.setCell ⟨g,j,none⟩ u) m v (hs.set j u) xss (j+1)/\w2.cell? ⟨g,j,none⟩=some (hs.getD j AE)/\w2.frozen? ⟨g,j,none⟩=false/\w2.grownBy (w2.setCell ⟨g,j,none⟩ u) (some g)/\m<=g:=by
 have hjl:j<hs.length:=by rw[h.len];exact hj
 have F1:=h.Al.add (i:=some j) (fun q=>Nat.lt_irrefl _ (show j<j from q)) (r:=rowOf (xss.getD j []) u) rfl k ho (fun b hb=>hn b (by rw[h.hv] at hb;exact hb));have o1:(EH t hs v).own w2 m:=by have:=F1.own none (.inl trivial);rw[AU _ _ (by simp)] at this;exact this
 obtain⟨q1,q2,q3⟩:=Rw.put o1 (g:=g) (cap:=cap) (k:=j) hv u;have F2:=F1.set (i:=none) (.inl trivial) (r:={ EH t hs v with xs:=hs.set j u }) (by rw[AU _ _ (by simp)];exact q2) (.inl (by rw[AU _ _ (by simp)];rfl)) q1;have hb:v.ownBlock=some g:=by rw[hv];rfl
 refine⟨⟨F2.congr (fun o ho'=>?_) (fun o ho'=>?_),by rw[List.length_set];exact h.len,h.hv⟩,?_,q3,by rw[<-hb];exact q2,(h.Al.lt (i:=none) trivial g hb).1⟩
 ·
  cases o with
  |none=>exact .inl trivial
  |some i=>
   have hi:i<j+1:=ho';by_cases e:i=j
   . exact .inr (by rw[e])
   . exact .inl (show i<j by omega)
 ·
  cases o with
  |none=>
   rw[Am];show EH t (hs.set j u) v=_;simp[EH]
  |some i=>
   rw[AU _ _ (by simp)];show rowOf (xss.getD i []) ((hs.set j u).getD i AE)=_;rw[Ah _ _ _ _ hjl];by_cases e:i=j
   . subst e;rw[if_pos rfl,Am]
   . rw[if_neg e,AU _ _ (by simpa using e)];rfl
 ·
  have:=Rw.cell o1 (g:=g) (cap:=cap) (k:=j) hv (by show j<hs.length*1;omega);rw[this,List.getD_eq_getElem?_getD];show hs[j]? = _;rw[List.getElem?_eq_getElem hjl];rfl
structure Gr (t:TypeId)(rowOf:List α->Value->Rw)(w:World)(m:Nat)(v:Value)(hs:List Value)(xss:List (List α)):Prop where
 Al:Fj w m (FN hs.length) (SG t rowOf v hs xss)
 len:hs.length=xss.length
theorem Xk.all (h:Xk t rowOf w m v hs xss xss.length):Gr t rowOf w m v hs xss:=⟨by rw[h.len];exact h.Al,h.len⟩
theorem Xk.new (ho:(EH t (List.replicate xss.length AE) v).own w m)(hv:∀xs u,(rowOf xs u).v=u):Xk t rowOf w m v (List.replicate xss.length AE) xss 0:=by
 refine⟨⟨fun o h=>?_,fun o o' h h' hne=>?_⟩,by simp,hv⟩
 ·
  cases o with
  |none=>exact ho
  |some i=>exact absurd (show i<0 from h) (by omega)
 ·
  cases o with
  |none=>
   cases o' with
   |none=>exact absurd rfl hne
   |some i=>exact absurd (show i<0 from h') (by omega)
  |some i=>exact absurd (show i<0 from h) (by omega)
end
end
section
inductive BJ where
 |b (i:BI)
 |wk
 |wd (c:Nat) deriving DecidableEq
def IV (v:BV)(nv rv wv:List Value)(AA:List (List Dd))(b:Bd):BJ->Rw
 | .b i=>Ax 0 v nv rv b i
 | .wk=>EH 52 wv v.W
 | .wd c=>RE (AA.getD c []) (wv.getD c AE)
def Eg (nv rv wv:List Value):BJ->Prop
 | .b i=>BN nv rv i/\i≠.bd
 | .wk=>True
 | .wd c=>c<wv.length
structure Ek (w:World)(m:Nat)(v:BV)(nv rv wv:List Value)(AA:List (List Dd))(b:Bd):Prop where
 Al:Fj w m (Eg nv rv wv) (IV v nv rv wv AA b)
 ln:nv.length=b.AH.length
 lr:rv.length=b.rws.length
 lw:wv.length=AA.length
theorem Fj.Pl {ι:Type}{w:World}{m m':Nat}{live:ι->Prop}{R:ι->Rw}(h:Fj w m live R)(hm:m'<=m):Fj w m' live R:=⟨fun i hi=>DH (h.own i hi) hm,h.apart⟩
section
variable {w w':World} {m:Nat} {v:BV} {nv rv wv:List Value} {AA:List (List Dd)} {b:Bd}
theorem Ek.keep (h:Ek w m v nv rv wv AA b)(k:AC w w'):Ek w' m v nv rv wv AA b:=⟨h.Al.keep k,h.ln,h.lr,h.lw⟩
theorem Ek.far (h:Ek w m v nv rv wv AA b){g:Nat}(hg:w.grownBy w' (some g))(hl:g<m):Ek w' m v nv rv wv AA b:=
 ⟨h.Al.far hg (fun i hi=>by
  cases e:(IV v nv rv wv AA b i).v.ownBlock with
  |none=>exact .inl rfl
  |some k=>exact .inr (fun e'=>by have:=(h.Al.lt hi k e).1;have:=Option.some.inj e';omega)),h.ln,h.lr,h.lw⟩
theorem Ek.rd (h:Ek w m v nv rv wv AA b):CJ w v AA b:=by
 have oN:∀ {c:Nat},c<b.AH.length->BW cN 44 3 w m (nv.getD c AE) (b.AH.getD c []):=fun {c} hc=>h.Al.own (.b (.nt c)) ⟨by show c<nv.length;rw[h.ln];exact hc,by simp⟩
 have oR:∀ {p:Nat},p<b.rws.length->A8 w m (rv.getD p AE) (b.rws.getD p []):=fun {p} hp=>h.Al.own (.b (.rw p)) ⟨by show p<rv.length;rw[h.lr];exact hp,by simp⟩
 have oW:∀ {c:Nat},c<AA.length->BZ w m (wv.getD c AE) (AA.getD c []):=fun {c} hc=>h.Al.own (.wd c) (by show c<wv.length;rw[h.lw];exact hc)
 have o1:A8 w m v.P b.AM:=h.Al.own (.b .AM) ⟨trivial,by simp⟩;have o2:A8 w m v.L b.AQ:=h.Al.own (.b .AQ) ⟨trivial,by simp⟩;have o3:A8 w m v.X b.AL:=h.Al.own (.b .AL) ⟨trivial,by simp⟩;have o4:A8 w m v.S b.sn:=h.Al.own (.b .sn) ⟨trivial,by simp⟩;have o5:A8 w m v.F b.fr:=h.Al.own (.b .fr) ⟨trivial,by simp⟩;refine⟨?_,o1.rd,o2.rd,?_,o3.rd,o4.rd,o5.rd,?_⟩
 ·
  obtain⟨a,cap,e,h1⟩:=Bn (h.Al.own .wk trivial);rw[h.lw] at e;refine⟨a,cap,e,?_⟩;rcases h1 with h1|⟨g,e1,e2,e3⟩
  ·
   left;have:=h.lw;rw[h1] at this;exact List.eq_nil_of_length_eq_zero this.symm
  . exact .inr ⟨g,0,e1,e2,fun i hi=>⟨_,by rw[Nat.zero_add];exact e3 i (by rw[h.lw];exact hi),(oW hi).QZ.rd⟩⟩
 ·
  obtain⟨a,cap,e,h1⟩:=Bn (h.Al.own (.b .AH) ⟨trivial,by simp⟩);rw[h.ln] at e;refine⟨a,cap,e,?_⟩;rcases h1 with h1|⟨g,e1,e2,e3⟩
  ·
   left;have:=h.ln;rw[h1] at this;exact List.eq_nil_of_length_eq_zero this.symm
  . exact .inr ⟨g,0,e1,e2,fun i hi=>⟨_,by rw[Nat.zero_add];exact e3 i (by rw[h.ln];exact hi),BW.rd Dg (oN hi)⟩⟩
 ·
  obtain⟨a,cap,e,h1⟩:=Bn (h.Al.own (.b .rws) ⟨trivial,by simp⟩);rw[h.lr] at e;refine⟨a,cap,e,?_⟩;rcases h1 with h1|⟨g,e1,e2,e3⟩
  ·
   left;have:=h.lr;rw[h1] at this;exact List.eq_nil_of_length_eq_zero this.symm
  . exact .inr ⟨g,0,e1,e2,fun i hi=>⟨_,by rw[Nat.zero_add];exact e3 i (by rw[h.lr];exact hi),(oR hi).rd⟩⟩
end
end
section
def Zg (v:Value)(n m:Nat):Prop:=∀b o l c,v = .slice (some ⟨b,o,none⟩) l c->0<n->m<=b
structure Ct (w:World)(m M:Nat)(v:BV)(AA:List (List Dd))(b:Bd):Prop where
 rd:CJ w v AA b
 ex:∃Vw Vn Vr:Nat->Value,RR w v Vw Vn Vr AA b/\JE w (LU v Vw Vn Vr AA b)/\∀x,Hv (LU v Vw Vn Vr AA b) x->m<=x.block/\x.block<M
 hd:Zg v.W AA.length m/\Zg v.N b.AH.length m/\Zg v.R b.rws.length m
theorem Ct.keep {w w':World}{m M:Nat}{v:BV}{AA:List (List Dd)}{b:Bd}(h:Ct w m M v AA b)(k:AC w w'):Ct w' m M v AA b:=by
 obtain⟨Vw,Vn,Vr,h1,h2,h3⟩:=h.ex;exact⟨h.rd.keep k,⟨Vw,Vn,Vr,h1.keep k,h2.keep k,h3⟩,h.hd⟩
theorem Nv (s:Nat)(V:Nat->Value)(ln:Nat->Nat):∀n,Nu s V ln n=(List.range n).map (fun i=>(V i,s*ln i))
 | 0=>rfl
 |n+1=>by rw[Nu,Nv s V ln n,List.range_succ,List.map_append];rfl
def LS (nw nn nr:Nat):List BJ:=(((((((List.range nw).map BJ.wd++[.b .AM])++[.b .AQ])++(List.range nn).map (fun c=>BJ.b (.nt c)))++[.b .AL])++[.b .sn])++[.b .fr])++(List.range nr).map (fun p=>BJ.b (.rw p))
def PC (v:BV)(Vw Vn Vr:Nat->Value)(AA:List (List Dd))(b:Bd):BJ->Value×Nat
 | .wd c=>(Vw c,4*(AA.getD c []).length)
 | .b .AM=>(v.P,b.AM.length)
 | .b .AQ=>(v.L,b.AQ.length)
 | .b (.nt c)=>(Vn c,3*(b.AH.getD c []).length)
 | .b .AL=>(v.X,b.AL.length)
 | .b .sn=>(v.S,b.sn.length)
 | .b .fr=>(v.F,b.fr.length)
 | .b (.rw p)=>(Vr p,1*(b.rws.getD p []).length)
 |_=>(v.W,0)
theorem Df (v:BV)(Vw Vn Vr:Nat->Value)(AA:List (List Dd))(b:Bd):LU v Vw Vn Vr AA b=(LS AA.length b.AH.length b.rws.length).map (PC v Vw Vn Vr AA b):=by
 unfold LU kJ kI kH kF kE kC jy LS;simp only[Nv,List.map_append,List.map_map,List.map_cons,List.map_nil];rfl
theorem Fd {nw nn nr:Nat}{j:BJ}(h:j∈LS nw nn nr):(∃c,c<nw/\j = .wd c)\/j = .b .AM\/j = .b .AQ\/(∃c,c<nn/\j = .b (.nt c))\/j = .b .AL\/j = .b .sn\/j = .b .fr\/∃p,p<nr/\j = .b (.rw p):=by
 unfold LS at h;simp only[List.mem_append,List.mem_map,List.mem_range,List.mem_singleton] at h;rcases h with ((((((⟨c,hc,rfl⟩|h)|h)|⟨c,hc,rfl⟩)|h)|h)|h)|⟨c,hc,rfl⟩
 . exact .inl ⟨c,hc,rfl⟩
 . exact .inr (.inl h)
 . exact .inr (.inr (.inl h))
 . exact .inr (.inr (.inr (.inl ⟨c,hc,rfl⟩)))
 . exact .inr (.inr (.inr (.inr (.inl h))))
 . exact .inr (.inr (.inr (.inr (.inr (.inl h)))))
 . exact .inr (.inr (.inr (.inr (.inr (.inr (.inl h))))))
 . exact .inr (.inr (.inr (.inr (.inr (.inr (.inr ⟨c,hc,rfl⟩))))))
theorem Fq {α β:Type}{f:α->β}{l:List α}(h:l.Nodup)(hf:∀a b,f a=f b->a=b):(l.map f).Nodup:=by
 unfold List.Nodup;rw[List.pairwise_map];exact h.imp (fun {a b} hne e=>hne (hf a b e))
theorem NG (nw nn nr:Nat):(LS nw nn nr).Nodup:=by
 have h1:=Fq (f:=BJ.wd) (List.nodup_range (n:=nw)) (fun a b e=>by injection e);have h2:=Fq (f:=fun c=>BJ.b (.nt c)) (List.nodup_range (n:=nn)) (fun a b e=>by injection e with e;injection e);have h3:=Fq (f:=fun c=>BJ.b (.rw c)) (List.nodup_range (n:=nr)) (fun a b e=>by injection e with e;injection e);unfold LS;have one:∀j:BJ,[j].Nodup:=fun j=>by simp
 refine List.nodup_append.2 ⟨List.nodup_append.2 ⟨List.nodup_append.2 ⟨List.nodup_append.2 ⟨List.nodup_append.2 ⟨List.nodup_append.2 ⟨List.nodup_append.2 ⟨h1,one _,?_⟩,one _,?_⟩,h2,?_⟩,one _,?_⟩,one _,?_⟩,one _,?_⟩,h3,?_⟩
 all_goals
  intro x hx y hy e;subst e;simp only[List.mem_append,List.mem_map,List.mem_range,List.mem_singleton] at hx hy
  first
   | (subst hy;simp at hx;done)
   | (obtain⟨q,_,rfl⟩:=hy;simp at hx;done)
theorem Rw.wb {w:World}{m:Nat}{r:Rw}(h:r.own w m){n:Nat}(hn:n<=r.n*r.size){x:Addr}(hx:Gw r.v n x):Wb w x/\m<=x.block/\r.v.ownBlock=some x.block:=by
 obtain⟨b,o,l,c,i,e,hi,rfl⟩:=hx;unfold Rw.own at h;rcases h.2 with ⟨h1,_⟩|⟨g,cap,cur,h1,hb,hg,hc,_,hs,_⟩
 . rw[h1] at e;simp at e
 ·
  rw[h1] at e;simp only[Value.slice.injEq,Option.some.injEq,Addr.mk.injEq,and_true] at e;obtain⟨⟨rfl,rfl⟩,rfl,rfl⟩:=e;refine⟨⟨cur,r.e,hg,?_⟩,hb,by rw[h1];rfl⟩;rw[hs];have:r.n*r.size<=cap*r.size:=Nat.mul_le_mul_right _ hc;show 0+i<cap*r.size;omega
theorem Rw.RI {w:World}{m:Nat}{r:Rw}(h:r.own w m):VK r.v r.n:=by
 unfold Rw.own at h;rcases h.2 with ⟨h1,h2⟩|⟨g,cap,cur,h1,_⟩
 . exact⟨none,0,by rw[h1,h2],.inl h2⟩
 . exact⟨_,cap,h1,.inr ⟨g,0,rfl⟩⟩
section
variable {w:World} {m:Nat} {v:BV} {nv rv wv:List Value} {AA:List (List Dd)} {b:Bd}
theorem Ek.row (h:Ek w m v nv rv wv AA b){j:BJ}(hj:j∈LS AA.length b.AH.length b.rws.length):
  Eg nv rv wv j/\(PC v (fun i=>wv.getD i AE) (fun i=>nv.getD i AE) (fun i=>rv.getD i AE) AA b j).1=(IV v nv rv wv AA b j).v /\
  (PC v (fun i=>wv.getD i AE) (fun i=>nv.getD i AE) (fun i=>rv.getD i AE) AA b j).2<=(IV v nv rv wv AA b j).n*(IV v nv rv wv AA b j).size:=by
 rcases Fd hj with ⟨c,hc,rfl⟩|rfl|rfl|⟨c,hc,rfl⟩|rfl|rfl|rfl|⟨c,hc,rfl⟩
 . exact⟨by show c<wv.length;rw[h.lw];exact hc,rfl,by show 4*(AA.getD c []).length<=(AA.getD c []).length*4;omega⟩
 . exact⟨⟨trivial,by simp⟩,rfl,by show b.AM.length<=b.AM.length*1;omega⟩
 . exact⟨⟨trivial,by simp⟩,rfl,by show b.AQ.length<=b.AQ.length*1;omega⟩
 . exact⟨⟨by show c<nv.length;rw[h.ln];exact hc,by simp⟩,rfl,by show 3*(b.AH.getD c []).length<=(b.AH.getD c []).length*3;omega⟩
 . exact⟨⟨trivial,by simp⟩,rfl,by show b.AL.length<=b.AL.length*1;omega⟩
 . exact⟨⟨trivial,by simp⟩,rfl,by show b.sn.length<=b.sn.length*1;omega⟩
 . exact⟨⟨trivial,by simp⟩,rfl,by show b.fr.length<=b.fr.length*1;omega⟩
 . exact⟨⟨by show c<rv.length;rw[h.lr];exact hc,by simp⟩,rfl,by show 1*(b.rws.getD c []).length<=(b.rws.getD c []).length*1;omega⟩
theorem Ek.heads (h:Ek w m v nv rv wv AA b){j:BJ}{t:TypeId}{vs:List Value}{u:Value}(hl:Eg nv rv wv j)(e:IV v nv rv wv AA b j=EH t vs u)(hj:j∉LS AA.length b.AH.length b.rws.length):
  PP w u (fun i=>vs.getD i AE) vs.length (Hv (LU v (fun i=>wv.getD i AE) (fun i=>nv.getD i AE) (fun i=>rv.getD i AE) AA b)):=by
 have ho:=h.Al.own j hl;rw[e] at ho;obtain⟨a,c,ea,h1⟩:=Bn ho;refine⟨a,c,ea,?_⟩;rcases h1 with h1|⟨g,e1,e2,e3⟩
 . exact .inl (by rw[h1];rfl)
 ·
  refine .inr ⟨g,0,e1,e2,fun i hi=>⟨by rw[Nat.zero_add];exact e3 i hi,?_⟩⟩;rintro⟨r,hr,hx⟩;rw[Df,List.mem_map] at hr;obtain⟨q,hq,rfl⟩:=hr;obtain⟨l1,l2,l3⟩:=h.row hq;rw[l2] at hx;obtain⟨-,-,hb⟩:=Rw.wb (h.Al.own q l1) l3 hx;have ap:=h.Al.apart q j l1 hl (fun e=>hj (e ▸ hq));rw[hb,e] at ap;rcases ap with ap|ap
  . cases ap
  ·
   apply ap;show _=u.ownBlock;rw[ea,e1];rfl
theorem Ek.Oh (h:Ek w m v nv rv wv AA b){j:BJ}(hl:Eg nv rv wv j)(n:Nat):Zg (IV v nv rv wv AA b j).v n m:=by
 intro q o l c e _;exact (h.Al.lt hl q (by rw[e];rfl)).1
theorem Ek.free (h:Ek w m v nv rv wv AA b):Ct w m w.heap.size v AA b:=by
 refine⟨h.rd,⟨fun i=>wv.getD i AE,fun i=>nv.getD i AE,fun i=>rv.getD i AE,?_,⟨?_,?_⟩,?_⟩,h.Oh (j:= .wk) trivial _,h.Oh (j:= .b .AH) ⟨trivial,by simp⟩ _,h.Oh (j:= .b .rws) ⟨trivial,by simp⟩ _⟩
 ·
  have hw:=h.heads (j:= .wk) (t:=52) (vs:=wv) (u:=v.W) trivial rfl (fun hq=>by have:=Fd hq;simp at this);have hn:=h.heads (j:= .b .AH) (t:=42) (vs:=nv) (u:=v.N) ⟨trivial,by simp⟩ rfl (fun hq=>by have:=Fd hq;simp at this);have hr:=h.heads (j:= .b .rws) (t:=26) (vs:=rv) (u:=v.R) ⟨trivial,by simp⟩ rfl (fun hq=>by have:=Fd hq;simp at this);rw[h.lw] at hw;rw[h.ln] at hn;rw[h.lr] at hr
  exact⟨hw,fun i hi=>Rw.RI (h.Al.own (.wd i) (by show i<wv.length;rw[h.lw];exact hi)),Rw.RI (h.Al.own (.b .AM) ⟨trivial,by simp⟩),Rw.RI (h.Al.own (.b .AQ) ⟨trivial,by simp⟩),hn,
   fun i hi=>Rw.RI (h.Al.own (.b (.nt i)) ⟨by show i<nv.length;rw[h.ln];exact hi,by simp⟩),Rw.RI (h.Al.own (.b .AL) ⟨trivial,by simp⟩),Rw.RI (h.Al.own (.b .sn) ⟨trivial,by simp⟩),Rw.RI (h.Al.own (.b .fr) ⟨trivial,by simp⟩),hr,
   fun i hi=>Rw.RI (h.Al.own (.b (.rw i)) ⟨by show i<rv.length;rw[h.lr];exact hi,by simp⟩)⟩
 ·
  rintro x ⟨r,hr,hx⟩;rw[Df,List.mem_map] at hr;obtain⟨q,hq,rfl⟩:=hr;obtain⟨l1,l2,l3⟩:=h.row hq;rw[l2] at hx;exact (Rw.wb (h.Al.own q l1) l3 hx).1
 ·
  rw[Df,List.pairwise_map];refine List.Pairwise.imp_of_mem (R:=fun a b=>a≠b) (fun {p q} hp hq hne x hx hy=>?_) (NG _ _ _);obtain⟨l1,l2,l3⟩:=h.row hp;obtain⟨k1,k2,k3⟩:=h.row hq;rw[l2] at hx;rw[k2] at hy;have a1:=(Rw.wb (h.Al.own p l1) l3 hx).2.2;have a2:=(Rw.wb (h.Al.own q k1) k3 hy).2.2;rcases h.Al.apart p q l1 k1 hne with ap|ap
  . rw[a1] at ap;cases ap
  . rw[a1,a2] at ap;exact ap rfl
 ·
  rintro x ⟨r,hr,hx⟩;rw[Df,List.mem_map] at hr;obtain⟨q,hq,rfl⟩:=hr;obtain⟨l1,l2,l3⟩:=h.row hq;rw[l2] at hx;have:=Rw.wb (h.Al.own q l1) l3 hx;exact⟨this.2.1,this.1.lt⟩
end
theorem GH {w w':World}{m:Nat}(hh:∀q,m<=q->q<w.heap.size->w'.heap[q]? = w.heap[q]?)(hs:w.heap.size<=w'.heap.size){v:Value}{zs:List Int}(h:Rd w v zs)(hr:∀x,Gw v zs.length x->m<=x.block):Rd w' v zs:=by
 obtain⟨a,c,rfl,h⟩:=h;refine⟨a,c,rfl,?_⟩;rcases h with h|⟨b,o,rfl,hb,hc⟩
 . exact .inl h
 ·
  by_cases hz:zs.length=0
  . exact .inl (List.eq_nil_of_length_eq_zero hz)
  have hm:=hr ⟨b,o+0,none⟩ ⟨b,o,_,c,0,rfl,by omega,rfl⟩;exact .inr ⟨b,o,rfl,Nat.lt_of_lt_of_le hb hs,fun i hi=>(World.cell?_of_block (a:=⟨b,o+i,none⟩) (hh b hm hb)).trans (hc i hi)⟩
theorem Ug {w w':World}{m:Nat}(hh:∀q,m<=q->q<w.heap.size->w'.heap[q]? = w.heap[q]?)(hs:w.heap.size<=w'.heap.size){v:Value}{zs:List Nt}(h:Zk w v zs)(hr:∀x,Gw v (3*zs.length) x->m<=x.block):Zk w' v zs:=by
 obtain⟨a,c,rfl,h⟩:=h;refine⟨a,c,rfl,?_⟩;rcases h with h|⟨b,o,rfl,hb,hc⟩
 . exact .inl h
 ·
  by_cases hz:zs.length=0
  . exact .inl (List.eq_nil_of_length_eq_zero hz)
  have hm:=hr ⟨b,o+0,none⟩ ⟨b,o,_,_,0,rfl,by omega,rfl⟩;exact .inr ⟨b,o,rfl,Nat.lt_of_lt_of_le hb hs,fun i x hx=>(hc i x hx).same (hh b hm hb)⟩
theorem Uf {w w':World}{m:Nat}(hh:∀q,m<=q->q<w.heap.size->w'.heap[q]? = w.heap[q]?)(hs:w.heap.size<=w'.heap.size){v:Value}{zs:List Dd}(h:KT w v zs)(hr:∀x,Gw v (4*zs.length) x->m<=x.block):KT w' v zs:=by
 obtain⟨a,c,rfl,h⟩:=h;refine⟨a,c,rfl,?_⟩;rcases h with h|⟨b,o,rfl,hb,hc⟩
 . exact .inl h
 ·
  by_cases hz:zs.length=0
  . exact .inl (List.eq_nil_of_length_eq_zero hz)
  have hm:=hr ⟨b,o+0,none⟩ ⟨b,o,_,_,0,rfl,by omega,rfl⟩;refine .inr ⟨b,o,rfl,Nat.lt_of_lt_of_le hb hs,fun i hi=>?_⟩;obtain⟨c0,c1,c2,c3⟩:=hc i hi;have e:=hh b hm hb;exact⟨(World.cell?_of_block (a:=⟨b,_,none⟩) e).trans c0,(World.cell?_of_block (a:=⟨b,_,none⟩) e).trans c1,(World.cell?_of_block (a:=⟨b,_,none⟩) e).trans c2,(World.cell?_of_block (a:=⟨b,_,none⟩) e).trans c3⟩
theorem Ls {w w':World}{m:Nat}(hh:∀q,m<=q->q<w.heap.size->w'.heap[q]? = w.heap[q]?)(hs:w.heap.size<=w'.heap.size){v:Value}{V:Nat->Value}{n:Nat}{S:Addr->Prop}(h:PP w v V n S)(hm:Zg v n m):PP w' v V n S:=by
 obtain⟨a,c,rfl,h⟩:=h;refine⟨a,c,rfl,?_⟩;rcases h with h|⟨b,o,rfl,hb,hc⟩
 . exact .inl h
 ·
  by_cases hz:n=0
  . exact .inl hz
  . exact .inr ⟨b,o,rfl,Nat.lt_of_lt_of_le hb hs,fun i hi=>⟨(World.cell?_of_block (a:=⟨b,o+i,none⟩) (hh b (hm b o n c rfl (by omega)) hb)).trans (hc i hi).1,(hc i hi).2⟩⟩
theorem gV {v:BV}{Vw Vn Vr:Nat->Value}{AA:List (List Dd)}{b:Bd}{j:BJ}(hj:j∈LS AA.length b.AH.length b.rws.length){x:Addr}(hx:Gw (PC v Vw Vn Vr AA b j).1 (PC v Vw Vn Vr AA b j).2 x):Hv (LU v Vw Vn Vr AA b) x:=
 ⟨_,by rw[Df];exact List.mem_map.2 ⟨j,hj,rfl⟩,hx⟩
theorem jv {nw nn nr c:Nat}(h:c<nw):BJ.wd c∈LS nw nn nr:=by simp[LS,h]
theorem jq {nw nn nr c:Nat}(h:c<nn):BJ.b (.nt c)∈LS nw nn nr:=by simp[LS,h]
theorem jr {nw nn nr c:Nat}(h:c<nr):BJ.b (.rw c)∈LS nw nn nr:=by simp[LS,h]
theorem Ct.above {w w':World}{m M:Nat}{v:BV}{AA:List (List Dd)}{b:Bd}(h:Ct w m M v AA b)(hh:∀q,m<=q->q<w.heap.size->w'.heap[q]? = w.heap[q]?)(hs:w.heap.size<=w'.heap.size):Ct w' m M v AA b:=by
 obtain⟨Vw,Vn,Vr,H,L,G⟩:=h.ex;obtain⟨d1,d2,d3⟩:=h.hd;have gr:∀j,j∈LS AA.length b.AH.length b.rws.length->∀x,Gw (PC v Vw Vn Vr AA b j).1 (PC v Vw Vn Vr AA b j).2 x->m<=x.block:=fun j hj x hx=>(G x (gV hj hx)).1
 refine⟨⟨?_,GH hh hs h.rd.P (gr (.b .AM) (by simp[LS])),GH hh hs h.rd.L (gr (.b .AQ) (by simp[LS])),?_,GH hh hs h.rd.X (gr (.b .AL) (by simp[LS])),GH hh hs h.rd.S (gr (.b .sn) (by simp[LS])),GH hh hs h.rd.F (gr (.b .fr) (by simp[LS])),?_⟩,⟨Vw,Vn,Vr,⟨Ls hh hs H.hW d1,H.sW,H.sP,H.sL,Ls hh hs H.hN d2,H.sN,H.sX,H.sS,H.sF,Ls hh hs H.hR d3,H.sR⟩,⟨fun x hx=>?_,L.ap⟩,G⟩,h.hd⟩
 ·
  obtain⟨a,c,e,hw⟩:=h.rd.W;refine⟨a,c,e,?_⟩;rcases hw with hw|⟨q,o,rfl,hq,hc⟩
  . exact .inl hw
  ·
   by_cases hz:AA.length=0
   . exact .inl (List.eq_nil_of_length_eq_zero hz)
   obtain⟨a',c',e',H1⟩:=H.hW;rw[e] at e';simp only[Value.slice.injEq,true_and] at e';obtain⟨rfl,rfl⟩:=e';rcases H1 with H1|⟨q',o',e2,_,H2⟩
   . exact absurd H1 hz
   simp only[Option.some.injEq,Addr.mk.injEq,and_true] at e2;obtain⟨rfl,rfl⟩:=e2;refine .inr ⟨q,o,rfl,Nat.lt_of_lt_of_le hq hs,fun i hi=>?_⟩;obtain⟨vi,h1,h2⟩:=hc i hi;have ev:vi=Vw i:=by have:=h1.symm.trans (H2 i hi).1;exact Option.some.inj this
   subst ev;exact⟨_,(World.cell?_of_block (a:=⟨q,o+i,none⟩) (hh q (d1 q o _ _ e (by omega)) hq)).trans h1,Uf hh hs h2 (gr (.wd i) (jv hi))⟩
 ·
  obtain⟨a,c,e,hw⟩:=h.rd.N;refine⟨a,c,e,?_⟩;rcases hw with hw|⟨q,o,rfl,hq,hc⟩
  . exact .inl hw
  ·
   by_cases hz:b.AH.length=0
   . exact .inl (List.eq_nil_of_length_eq_zero hz)
   obtain⟨a',c',e',H1⟩:=H.hN;rw[e] at e';simp only[Value.slice.injEq,true_and] at e';obtain⟨rfl,rfl⟩:=e';rcases H1 with H1|⟨q',o',e2,_,H2⟩
   . exact absurd H1 hz
   simp only[Option.some.injEq,Addr.mk.injEq,and_true] at e2;obtain⟨rfl,rfl⟩:=e2;refine .inr ⟨q,o,rfl,Nat.lt_of_lt_of_le hq hs,fun i hi=>?_⟩;obtain⟨vi,h1,h2⟩:=hc i hi;have ev:vi=Vn i:=by have:=h1.symm.trans (H2 i hi).1;exact Option.some.inj this
   subst ev;exact⟨_,(World.cell?_of_block (a:=⟨q,o+i,none⟩) (hh q (d2 q o _ _ e (by omega)) hq)).trans h1,Ug hh hs h2 (gr (.b (.nt i)) (jq hi))⟩
 ·
  obtain⟨a,c,e,hw⟩:=h.rd.R;refine⟨a,c,e,?_⟩;rcases hw with hw|⟨q,o,rfl,hq,hc⟩
  . exact .inl hw
  ·
   by_cases hz:b.rws.length=0
   . exact .inl (List.eq_nil_of_length_eq_zero hz)
   obtain⟨a',c',e',H1⟩:=H.hR;rw[e] at e';simp only[Value.slice.injEq,true_and] at e';obtain⟨rfl,rfl⟩:=e';rcases H1 with H1|⟨q',o',e2,_,H2⟩
   . exact absurd H1 hz
   simp only[Option.some.injEq,Addr.mk.injEq,and_true] at e2;obtain⟨rfl,rfl⟩:=e2;refine .inr ⟨q,o,rfl,Nat.lt_of_lt_of_le hq hs,fun i hi=>?_⟩;obtain⟨vi,h1,h2⟩:=hc i hi;have ev:vi=Vr i:=by have:=h1.symm.trans (H2 i hi).1;exact Option.some.inj this
   subst ev;exact⟨_,(World.cell?_of_block (a:=⟨q,o+i,none⟩) (hh q (d3 q o _ _ e (by omega)) hq)).trans h1,GH hh hs h2 (fun x hx=>gr (.b (.rw i)) (jr hi) x (by show Gw _ (1*_) x;rw[Nat.one_mul];exact hx))⟩
 ·
  obtain⟨cur,t,h1,h2⟩:=L.wb x hx;exact⟨cur,t,(hh _ (G x hx).1 (L.wb x hx).lt).trans h1,h2⟩
end
section
structure BA (w:World)(m:Nat)(v:BV)(nv rv:List Value)(bs N:Nat)(AA:List (List Dd))(b:Bd):Prop where
 Al:Fj w m (fun i=>BN nv rv i/\i≠.bd) (Ax 0 v nv rv b)
 ln:nv.length=b.AH.length
 lr:rv.length=b.rws.length
 work:G3 w bs N v.W AA
 top:N<=w.heap.size
 out:∀i,BN nv rv i->i≠.bd->∀k,(Ax 0 v nv rv b i).v.ownBlock=some k->k<bs\/N<=k
section
variable {w w':World} {m D:Nat} {v:BV} {nv rv:List Value} {bs N:Nat} {AA:List (List Dd)} {b:Bd}
theorem Kp (D:Nat)(v:BV)(nv rv:List Value)(b:Bd){i:BI}(h:i≠.bd):Ax D v nv rv b i=Ax 0 v nv rv b i:=by cases i<;>first|rfl|exact absurd rfl h
theorem AR.val (h:AR w m D v nv rv bs N AA b):BA w m v nv rv bs N AA b:=
 ⟨h.Al.congr (fun _ hi=>hi.1) (fun i hi=>(Kp D v nv rv b hi.2).symm),h.ln,h.lr,h.work,h.top,fun i hi hb k hk=>h.out i hi k (by rw[Kp D v nv rv b hb];exact hk)⟩
theorem BA.keep (h:BA w m v nv rv bs N AA b)(k:AC w w'):BA w' m v nv rv bs N AA b:=
 ⟨h.Al.keep k,h.ln,h.lr,h.work.kept k.grownBy (by simp),Nat.le_trans h.top k.size,h.out⟩
theorem BA.far (h:BA w m v nv rv bs N AA b){row:Option Nat}(hg:w.grownBy w' row)(hr:∀k,row=some k->k<m/\(k<bs\/N<=k)):BA w' m v nv rv bs N AA b:=
 ⟨h.Al.far hg (fun i hi=>by
  cases e:(Ax 0 v nv rv b i).v.ownBlock with
  |none=>exact .inl rfl
  |some k=>exact .inr (fun e'=>by have:=(h.Al.lt hi k e).1;have:=hr k e'.symm;omega)),h.ln,h.lr,h.work.kept hg (fun g hg'=>(hr g hg').2),Nat.le_trans h.top hg.size,h.out⟩
theorem BA.box (h:BA w m v nv rv bs N AA b)(hm:m<=w.heap.size):AR (w.alloc (.cells v.arr 30)) m w.heap.size v nv rv bs N AA b:=by
 have k:AC w (w.alloc (.cells v.arr 30)):=(AC.refl w).alloc _
 have ho:(Gs w.heap.size v).own (w.alloc (.cells v.arr 30)) m:=by
  refine⟨rfl,.inr ⟨w.heap.size,1,v.arr,rfl,hm,heap_alloc_new w _,Nat.le_refl _,by decide,rfl,?_⟩⟩;rfl
 have F:=h.Al.add (i:= .bd) (fun hi=>hi.2 rfl) (r:=Gs w.heap.size v) rfl k ho (fun q hq=>by have e:w.heap.size=q:=Option.some.inj hq;omega);have hk:=h.keep k;refine⟨F.congr (fun i hi=>?_) (fun i hi=>?_),h.ln,h.lr,hk.work,hk.top,fun i hi q hq=>?_⟩
 ·
  by_cases e:i = .bd
  . exact .inr e
  . exact .inl ⟨hi,e⟩
 ·
  by_cases e:i = .bd
  . subst e;rw[Am];rfl
  . rw[AU _ _ e];exact Kp _ _ _ _ _ e
 ·
  by_cases e:i = .bd
  ·
   subst e;have:w.heap.size=q:=Option.some.inj hq;have:=h.top;right;omega
  ·
   rw[Kp _ _ _ _ _ e] at hq;exact h.out i hi e q hq
theorem BA.rd (h:BA w m v nv rv bs N AA b)(hm:m<=w.heap.size):CJ (w.alloc (.cells v.arr 30)) v AA b:=(h.box hm).rd
theorem BA.rd0 (h:BA w m v nv rv bs N AA b):CJ w v AA b:=by
 have oN:∀ {c:Nat},c<b.AH.length->BW cN 44 3 w m (nv.getD c AE) (b.AH.getD c []):=fun {c} hc=>h.Al.own (.nt c) ⟨by show c<nv.length;rw[h.ln];exact hc,by simp⟩
 have oR:∀ {p:Nat},p<b.rws.length->A8 w m (rv.getD p AE) (b.rws.getD p []):=fun {p} hp=>h.Al.own (.rw p) ⟨by show p<rv.length;rw[h.lr];exact hp,by simp⟩
 have o1:A8 w m v.P b.AM:=h.Al.own .AM ⟨trivial,by simp⟩;have o2:A8 w m v.L b.AQ:=h.Al.own .AQ ⟨trivial,by simp⟩;have o3:A8 w m v.X b.AL:=h.Al.own .AL ⟨trivial,by simp⟩;have o4:A8 w m v.S b.sn:=h.Al.own .sn ⟨trivial,by simp⟩;have o5:A8 w m v.F b.fr:=h.Al.own .fr ⟨trivial,by simp⟩;refine⟨h.work.rd,o1.rd,o2.rd,?_,o3.rd,o4.rd,o5.rd,?_⟩
 ·
  obtain⟨a,cap,e,h1⟩:=Bn (h.Al.own .AH ⟨trivial,by simp⟩);rw[h.ln] at e;refine⟨a,cap,e,?_⟩;rcases h1 with h1|⟨g,e1,e2,e3⟩
  ·
   left;have:=h.ln;rw[h1] at this;exact List.eq_nil_of_length_eq_zero this.symm
  . exact .inr ⟨g,0,e1,e2,fun i hi=>⟨_,by rw[Nat.zero_add];exact e3 i (by rw[h.ln];exact hi),BW.rd Dg (oN hi)⟩⟩
 ·
  obtain⟨a,cap,e,h1⟩:=Bn (h.Al.own .rws ⟨trivial,by simp⟩);rw[h.lr] at e;refine⟨a,cap,e,?_⟩;rcases h1 with h1|⟨g,e1,e2,e3⟩
  ·
   left;have:=h.lr;rw[h1] at this;exact List.eq_nil_of_length_eq_zero this.symm
  . exact .inr ⟨g,0,e1,e2,fun i hi=>⟨_,by rw[Nat.zero_add];exact e3 i (by rw[h.lr];exact hi),(oR hi).rd⟩⟩
theorem Fj.BE {ι:Type}{m':Nat}{live:ι->Prop}{R:ι->Rw}(h:Fj w m live R)(hm:m'<=m):Fj w m' live R:=
 ⟨fun i hi=>by
  have o:=h.own i hi;refine⟨o.1,?_⟩;rcases o.2 with q|⟨g,cap,cur,e,hg,r⟩
  . exact .inl q
  . exact .inr ⟨g,cap,cur,e,Nat.le_trans hm hg,r⟩,h.apart⟩
theorem BA.BE {m':Nat}(h:BA w m v nv rv bs N AA b)(hm:m'<=m):BA w m' v nv rv bs N AA b:=⟨h.Al.BE hm,h.ln,h.lr,h.work,h.top,h.out⟩
theorem AR.B6 (h:AR w m D v nv rv bs N AA b):w.heap[D]? = some (.cells v.arr 30 (0,0)):=by
 have o:=h.Al.own .bd trivial;rcases o.2 with ⟨e,_⟩|⟨g,cap,cur,e,_,hg,_,_,hs,ht⟩
 ·
  have e:Value.slice (some ⟨D,0,none⟩) 1 1 = .slice none 0 0:=e;simp at e
 ·
  have e:Value.slice (some ⟨D,0,none⟩) 1 1 = .slice (some ⟨g,0,none⟩) 1 cap:=e;simp only[Value.slice.injEq,Option.some.injEq,Addr.mk.injEq,and_true,true_and] at e;obtain⟨rfl,rfl⟩:=e;have hs:cur.size=1*8:=hs;have ht:cur.toList.take (1*8)=[v.W,v.P,v.L,v.N,v.X,v.S,v.F,v.R]:=ht;rw[List.take_of_length_le (by rw[Array.length_toList];omega)] at ht;have:cur=v.arr:=Array.ext' ht;rw[hg,this];rfl
end
end
theorem BZ.kept {w w':World}{base:Nat}{v:Value}{ds:List Dd}{row:Option Nat}(h:BZ w base v ds)(hg:w.grownBy w' row)(hne:v.ownBlock=none\/v.ownBlock≠row):BZ w' base v ds:=
 World.ownsRow.kept h hg hne
theorem BZ.lt {w:World}{base:Nat}{v:Value}{ds:List Dd}(h:BZ w base v ds):∀k,v.ownBlock=some k->base<=k/\k<w.heap.size:=World.ownsRow.lt h
theorem BZ.BE {w:World}{base base':Nat}{v:Value}{ds:List Dd}(h:BZ w base v ds)(hb:base'<=base):BZ w base' v ds:=by
 refine⟨h.1,?_⟩;rcases h.2 with q|⟨g,cap,cur,e,hg,r⟩
 . exact .inl q
 . exact .inr ⟨g,cap,cur,e,Nat.le_trans hb hg,r⟩
theorem CU {v:Value}{base c:Nat}(h:∀k,v.ownBlock=some k->base<=k)(hc:c<base):v.ownBlock=none\/v.ownBlock≠some c:=by
 cases hv:v.ownBlock with
 |none=>exact .inl rfl
 |some k=>exact .inr (fun e=>by have:=h k hv;simp at e;omega)
theorem V7 (ds:List Dd)(k:Nat)(x:Int):k<ds.length->(ds.flatMap cD).set (k*4+3) (.int .i64 x)=(ds.set k ((ds.getD k zD).1,(ds.getD k zD).2.1,(ds.getD k zD).2.2.1,x)).flatMap cD:=by
 induction ds generalizing k with
 |nil=>intro hk;simp at hk
 |cons d r ih=>
  intro hk
  cases k with
  |zero=>simp[cD]
  |succ k=>
   have h1:=ih k (by simpa using hk);rw[List.flatMap_cons,List.set_append_right _ _ (by simp[cD];omega),show (k+1)*4+3-(cD d).length=k*4+3 by simp[cD];omega,h1];simp
theorem BZ.put {w:World}{base g n c:Nat}{ds:List Dd}(h:BZ w base (.slice (some ⟨g,0,none⟩) n c) ds){k:Nat}(hk:k<ds.length)(x:Int):
  BZ (w.setCell ⟨g,k*4+3,none⟩ (.int .i64 x)) base (.slice (some ⟨g,0,none⟩) n c) (ds.set k ((ds.getD k zD).1,(ds.getD k zD).2.1,(ds.getD k zD).2.2.1,x)):=by
 have hlen:(ds.flatMap cD).length=ds.length*4:=h.1;have e:=V7 ds k x hk;rcases h.2 with ⟨q,_⟩|⟨g',cap,cur,e1,hb,hg,hc1,hc2,hs,ht⟩
 . cases q
 ·
  simp only[Value.slice.injEq,Option.some.injEq,Addr.mk.injEq,and_true] at e1;obtain⟨rfl,rfl,rfl⟩:=e1;refine⟨by rw[<-e,List.length_set,List.length_set];exact hlen,.inr ⟨g,_,cur.setIfInBounds (k*4+3) (.int .i64 x),by rw[List.length_set],hb,?_,by rw[List.length_set];exact hc1,hc2,by simpa using hs,?_⟩⟩
  . rw[heap_setCell_same w g (k*4+3) _ _ _ hg]
  . rw[Array.toList_setIfInBounds,List.length_set,List.take_set,ht,e]
structure Bz (w:World)(base N:Nat)(v:Value)(V:Nat->Value)(AA:List (List Dd)):Prop where
 row:w.ownsRow base 52 1 v AA.length ((List.range AA.length).map V)
 lt:∀k,v.ownBlock=some k->k<N
 each:∀i,i<AA.length->BZ w base (V i) (AA.getD i [])
 Y6:∀i,i<AA.length->∀k,(V i).ownBlock=some k->k<N
 out:∀i,i<AA.length->∀k,(V i).ownBlock=some k->v.ownBlock≠some k
 apart:∀i j,i<j->j<AA.length->∀k,(V i).ownBlock=some k->(V j).ownBlock≠some k
theorem Bz.kept {w w':World}{base N c:Nat}{v:Value}{V:Nat->Value}{AA:List (List Dd)}(h:Bz w base N v V AA)(hg:w.grownBy w' (some c))(hc:c<base):Bz w' base N v V AA:=
 ⟨World.ownsRow.kept h.row hg (CU (fun k hk=>(World.ownsRow.lt h.row k hk).1) hc),h.lt,fun i hi=>(h.each i hi).kept hg (CU (h.each i hi).ge hc),h.Y6,h.out,h.apart⟩
theorem Bz.keep {w w':World}{base N:Nat}{v:Value}{V:Nat->Value}{AA:List (List Dd)}(h:Bz w base N v V AA)(k:AC w w'):Bz w' base N v V AA:=
 ⟨World.ownsRow.kept h.row k.grownBy (by cases v.ownBlock<;>simp),h.lt,fun i hi=>(h.each i hi).keep k,h.Y6,h.out,h.apart⟩
theorem Bz.up {w:World}{base N N':Nat}{v:Value}{V:Nat->Value}{AA:List (List Dd)}(h:Bz w base N v V AA)(hN:N<=N'):Bz w base N' v V AA:=
 ⟨h.row,fun k hk=>Nat.lt_of_lt_of_le (h.lt k hk) hN,h.each,fun i hi k hk=>Nat.lt_of_lt_of_le (h.Y6 i hi k hk) hN,h.out,h.apart⟩
theorem FQ (V:Nat->Value)(n i:Nat)(h:i<n):((List.range n).map V)[i]? = some (V i):=by
 rw[List.getElem?_map,List.getElem?_range h];rfl
theorem Bz.at {w:World}{base N:Nat}{v:Value}{V:Nat->Value}{AA:List (List Dd)}(h:Bz w base N v V AA)(hn:0<AA.length):
  ∃g c,v = .slice (some ⟨g,0,none⟩) AA.length c/\base<=g/\g<N/\g<w.heap.size/\AA.length<=c/\(∀i,i<AA.length->w.cell? ⟨g,i,none⟩=some (V i))/\∀i,w.frozen? ⟨g,i,none⟩=false:=by
 have h2:=h.row;have hlt:=World.ownsRow.lt h2;have hN:=h.lt;rcases h2.2 with ⟨_,hz⟩|⟨g,cap,cur,rfl,hb,hg,hc,_⟩
 . omega
 ·
  refine⟨g,cap,rfl,hb,hN g rfl,(hlt g rfl).2,hc,fun i hi=>?_,fun i=>frozen_of_row w g i _ _ hg⟩;rw[World.ownsRow.cellAt h2 i (by simpa using hi),FQ V _ i hi]
theorem Bz.zL {w:World}{base N:Nat}{v:Value}{V:Nat->Value}{AA:List (List Dd)}(h:Bz w base N v V AA):Ic w v AA:=by
 by_cases hn:0<AA.length
 ·
  obtain⟨g,c,rfl,_,_,hg,_,hc,_⟩:=h.at hn;exact⟨_,_,rfl,.inr ⟨g,0,rfl,hg,fun i hi=>⟨V i,by rw[Nat.zero_add];exact hc i hi,(h.each i hi).QZ.rd⟩⟩⟩
 ·
  have h0:AA=[]:=List.eq_nil_of_length_eq_zero (by omega);subst h0;rcases h.row.2 with ⟨rfl,_⟩|⟨g,cap,cur,rfl,_⟩
  . exact⟨none,0,rfl,.inl rfl⟩
  . exact⟨_,_,rfl,.inl rfl⟩
theorem OM.kept {w w':World}{base c:Nat}{v:Value}{AA:List (List Dd)}(h:OM w base v AA)(hg:w.grownBy w' (some c))(hc:c<base):OM w' base v AA:=by
 obtain⟨a,cap,hv,h⟩:=h;refine⟨a,cap,hv,?_⟩;rcases h with h|⟨b,off,ha,hbb,hb,hl⟩
 . exact .inl h
 ·
  refine .inr ⟨b,off,ha,hbb,Nat.lt_of_lt_of_le hb hg.size,fun i hi=>?_⟩;obtain⟨vi,h1,h2⟩:=hl i hi;have hblk:w'.heap[b]? = w.heap[b]?:=hg.block b hb (by simp;omega);refine⟨vi,?_,h2.kept hg (CU h2.ge hc)⟩;simp only[World.cell?,hblk] at h1 ⊢;exact h1
theorem Bz.qc {w:World}{base N:Nat}{v:Value}{V:Nat->Value}{AA:List (List Dd)}(h:Bz w base N v V AA):OM w base v AA:=by
 by_cases hn:0<AA.length
 ·
  obtain⟨g,c,rfl,hb,_,hg,_,hc,_⟩:=h.at hn;exact⟨_,_,rfl,.inr ⟨g,0,rfl,hb,hg,fun i hi=>⟨V i,by rw[Nat.zero_add];exact hc i hi,h.each i hi⟩⟩⟩
 ·
  have h0:AA=[]:=List.eq_nil_of_length_eq_zero (by omega);subst h0;rcases h.row.2 with ⟨rfl,_⟩|⟨g,cap,cur,rfl,_⟩
  . exact⟨none,0,rfl,.inl rfl⟩
  . exact⟨_,_,rfl,.inl rfl⟩
theorem Bz.push {w w1:World}{base N:Nat}{v v' u:Value}{V:Nat->Value}{AA:List (List Dd)}{ds:List Dd}(h:Bz w base N v V AA)(hu:BZ w N u ds)(hb:base<=N)
  (hown:w1.ownsRow base 52 1 v' (AA.length+1) ((List.range AA.length).map V++[u])) (hgrow:w.grownBy w1 v.ownBlock) (hblk:v'.ownBlock=v.ownBlock\/v'.ownBlock=some w.heap.size) (hN:N<=w.heap.size):
  Bz w1 base w1.heap.size v' (fun i=>if i=AA.length then u else V i) (AA++[ds]):=by
 have hl:(AA++[ds]).length=AA.length+1:=by simp
 have hs:=hgrow.size;have zQ:∀k,u.ownBlock=some k->v.ownBlock≠some k:=fun k hk e=>by have:=(hu.lt k hk).1;have:=h.lt k e;omega
 have older:∀i,i<AA.length+1->i≠AA.length->i<AA.length:=fun i h1 h2=>by omega
 refine⟨?_,fun k hk=>(World.ownsRow.lt hown k hk).2,fun i hi=>?_,fun i hi k hk=>?_,fun i hi k hk=>?_,fun i j hij hj k hk=>?_⟩
 ·
  rw[hl,List.range_succ,List.map_append]
  have e:(List.range AA.length).map (fun i=>if i=AA.length then u else V i)=(List.range AA.length).map V:=by
   apply List.map_congr_left;intro i hi;rw[List.mem_range] at hi;rw[if_neg (by omega)]
  rw[e]
  simpa using hown
 ·
  rw[hl] at hi;by_cases e:i=AA.length
  ·
   subst e;rw[if_pos rfl,DU AA ds []];refine (hu.BE hb).kept hgrow ?_
   cases hv:u.ownBlock with
   |none=>exact .inl rfl
   |some k=>exact .inr (fun e=>zQ k hv e.symm)
  ·
   rw[if_neg e,B8 AA [ds] i [] (older i hi e)];refine (h.each i (older i hi e)).kept hgrow ?_
   cases hv:(V i).ownBlock with
   |none=>exact .inl rfl
   |some k=>exact .inr (fun e2=>h.out i (older i hi e) k hv e2.symm)
 ·
  rw[hl] at hi;by_cases e:i=AA.length
  ·
   rw[if_pos e] at hk;have:=(hu.lt k hk).2;omega
  ·
   rw[if_neg e] at hk;have:=h.Y6 i (older i hi e) k hk;omega
 ·
  rw[hl] at hi;by_cases e:i=AA.length
  ·
   rw[if_pos e] at hk;rcases hblk with e2|e2
   . rw[e2];exact zQ k hk
   ·
    rw[e2];have:=(hu.lt k hk).2;simp only[ne_eq,Option.some.injEq];omega
  ·
   rw[if_neg e] at hk;rcases hblk with e2|e2
   . rw[e2];exact h.out i (older i hi e) k hk
   ·
    rw[e2];have:=h.Y6 i (older i hi e) k hk;simp only[ne_eq,Option.some.injEq];omega
 ·
  rw[hl] at hj;rw[if_neg (show i≠AA.length by omega)] at hk;by_cases e:j=AA.length
  ·
   rw[if_pos e];intro e2;have:=(hu.lt k e2).1;have:=h.Y6 i (by omega) k hk;omega
  ·
   rw[if_neg e];exact h.apart i j hij (by omega) k hk
theorem GA {α:Type}(l:List α)(i j:Nat)(x z:α)(hi:i<l.length):(l.set i x).getD j z=if i=j then x else l.getD j z:=by
 rw[List.getD_eq_getElem?_getD,List.getElem?_set];by_cases e:i=j
 . subst e;rw[if_pos rfl,if_pos hi,if_pos rfl];rfl
 . rw[if_neg e,if_neg e,List.getD_eq_getElem?_getD]
theorem Bz.put {w:World}{base N:Nat}{v:Value}{V:Nat->Value}{AA:List (List Dd)}(h:Bz w base N v V AA){i k g n c:Nat}(hi:i<AA.length)(hV:V i = .slice (some ⟨g,0,none⟩) n c)(hk:k<(AA.getD i []).length)(x:Int):
  ∃ds,ds.length=(AA.getD i []).length/\Bz (w.setCell ⟨g,k*4+3,none⟩ (.int .i64 x)) base N v V (AA.set i ds):=by
 have ob:(V i).ownBlock=some g:=by rw[hV];rfl
 have hg:=NY w g (k*4+3) (.int .i64 x);have hap:=h.each i hi;rw[hV] at hap;refine⟨(AA.getD i []).set k (((AA.getD i []).getD k zD).1,((AA.getD i []).getD k zD).2.1,((AA.getD i []).getD k zD).2.2.1,x),by rw[List.length_set],⟨?_,h.lt,fun j hj=>?_,fun j hj=>h.Y6 j (by simpa using hj),fun j hj=>h.out j (by simpa using hj),fun a b hab hb=>h.apart a b hab (by simpa using hb)⟩⟩
 ·
  rw[List.length_set];refine World.ownsRow.kept h.row hg ?_;exact .inr (h.out i hi g ob)
 ·
  rw[List.length_set] at hj;rw[GA AA i j _ [] hi];by_cases e:i=j
  ·
   subst e;rw[if_pos rfl,hV];exact hap.put hk x
  ·
   rw[if_neg e];refine (h.each j hj).kept hg ?_
   cases hv:(V j).ownBlock with
   |none=>exact .inl rfl
   |some q=>
    refine .inr (fun e2=>?_);simp only[Option.some.injEq] at e2;subst e2;rcases Nat.lt_or_gt_of_ne e with hl|hl
    . exact h.apart i j hl hj q ob hv
    . exact h.apart j i hl hi q hv ob
section
section
variable {w w1 w2 w':World} {m D:Nat} {v:BV} {nv rv:List Value} {bs N:Nat} {AA:List (List Dd)} {b:Bd}
theorem AR.WE (h:AR w m D v nv rv bs N AA b){u:Value}{zs:List Int}(hg:w.grownBy w2 v.P.ownBlock)(hb:u.ownBlock=v.P.ownBlock\/u.ownBlock=some w.heap.size\/u.ownBlock=none)(ho:A8 w2 m u zs):
  AR (w2.setCell ⟨D,1,none⟩ u) m D { v with P:=u } nv rv bs N AA { b with AM:=zs }/\w2.cell? ⟨D,1,none⟩=some v.P/\w2.frozen? ⟨D,1,none⟩=false:=by
 have F1:=h.Al.set (i:= .AM) trivial (r:=Bp zs u) hg hb ho;have o1:(Gs D v).own w2 m:=F1.own .bd trivial;obtain⟨q1,q2,q3⟩:=Ij (k:=1) (x:=u) (v':={ v with P:=u }) o1 rfl;have F2:=F1.set (i:= .bd) trivial (r:=Gs D { v with P:=u }) q2 (.inl rfl) q1;have hf:∀j,Ax D { v with P:=u } nv rv { b with AM:=zs } j=Hy (Hy (Ax D v nv rv b) .AM (Bp zs u)) .bd (Gs D { v with P:=u }) j:=fun j=>by cases j<;>rfl
 refine⟨h.mk2 (F2.congr (fun _ hj=>hj) (fun j _=>hf j)) h.ln h.lr rfl (Nat.le_trans hg.size q2.size) ((h.work.kept hg (fun g e=>h.out .AM trivial g e)).kept q2 h.nD) (fun j hj k hk=>?_),(h.stay .AM trivial (by simp) hg 1).trans h.cells.2.1,q3⟩;by_cases e:j = .AM
 ·
  subst e;have hk:u.ownBlock=some k:=hk;rcases hb with e|e|e
  . exact .inl ⟨.AM,trivial,by rw[<-hk,e];rfl⟩
  . rw[e] at hk;exact .inr (Nat.le_of_eq (Option.some.inj hk))
  . rw[e] at hk;cases hk
 ·
  refine .inl ⟨j,hj,?_⟩;cases j<;>first|exact hk|exact absurd rfl e
theorem AR.WD (h:AR w m D v nv rv bs N AA b){u:Value}{zs:List Int}(hg:w.grownBy w2 v.L.ownBlock)(hb:u.ownBlock=v.L.ownBlock\/u.ownBlock=some w.heap.size\/u.ownBlock=none)(ho:A8 w2 m u zs):
  AR (w2.setCell ⟨D,2,none⟩ u) m D { v with L:=u } nv rv bs N AA { b with AQ:=zs }/\w2.cell? ⟨D,2,none⟩=some v.L/\w2.frozen? ⟨D,2,none⟩=false:=by
 have F1:=h.Al.set (i:= .AQ) trivial (r:=Bp zs u) hg hb ho;have o1:(Gs D v).own w2 m:=F1.own .bd trivial;obtain⟨q1,q2,q3⟩:=Ij (k:=2) (x:=u) (v':={ v with L:=u }) o1 rfl;have F2:=F1.set (i:= .bd) trivial (r:=Gs D { v with L:=u }) q2 (.inl rfl) q1;have hf:∀j,Ax D { v with L:=u } nv rv { b with AQ:=zs } j=Hy (Hy (Ax D v nv rv b) .AQ (Bp zs u)) .bd (Gs D { v with L:=u }) j:=fun j=>by cases j<;>rfl
 refine⟨h.mk2 (F2.congr (fun _ hj=>hj) (fun j _=>hf j)) h.ln h.lr rfl (Nat.le_trans hg.size q2.size) ((h.work.kept hg (fun g e=>h.out .AQ trivial g e)).kept q2 h.nD) (fun j hj k hk=>?_),(h.stay .AQ trivial (by simp) hg 2).trans h.cells.2.2.1,q3⟩;by_cases e:j = .AQ
 ·
  subst e;have hk:u.ownBlock=some k:=hk;rcases hb with e|e|e
  . exact .inl ⟨.AQ,trivial,by rw[<-hk,e];rfl⟩
  . rw[e] at hk;exact .inr (Nat.le_of_eq (Option.some.inj hk))
  . rw[e] at hk;cases hk
 ·
  refine .inl ⟨j,hj,?_⟩;cases j<;>first|exact hk|exact absurd rfl e
theorem AR.WF (h:AR w m D v nv rv bs N AA b){u:Value}{zs:List Int}(hg:w.grownBy w2 v.X.ownBlock)(hb:u.ownBlock=v.X.ownBlock\/u.ownBlock=some w.heap.size\/u.ownBlock=none)(ho:A8 w2 m u zs):
  AR (w2.setCell ⟨D,4,none⟩ u) m D { v with X:=u } nv rv bs N AA { b with AL:=zs }/\w2.cell? ⟨D,4,none⟩=some v.X/\w2.frozen? ⟨D,4,none⟩=false:=by
 have F1:=h.Al.set (i:= .AL) trivial (r:=Bp zs u) hg hb ho;have o1:(Gs D v).own w2 m:=F1.own .bd trivial;obtain⟨q1,q2,q3⟩:=Ij (k:=4) (x:=u) (v':={ v with X:=u }) o1 rfl;have F2:=F1.set (i:= .bd) trivial (r:=Gs D { v with X:=u }) q2 (.inl rfl) q1;have hf:∀j,Ax D { v with X:=u } nv rv { b with AL:=zs } j=Hy (Hy (Ax D v nv rv b) .AL (Bp zs u)) .bd (Gs D { v with X:=u }) j:=fun j=>by cases j<;>rfl
 refine⟨h.mk2 (F2.congr (fun _ hj=>hj) (fun j _=>hf j)) h.ln h.lr rfl (Nat.le_trans hg.size q2.size) ((h.work.kept hg (fun g e=>h.out .AL trivial g e)).kept q2 h.nD) (fun j hj k hk=>?_),(h.stay .AL trivial (by simp) hg 4).trans h.cells.2.2.2.2.1,q3⟩;by_cases e:j = .AL
 ·
  subst e;have hk:u.ownBlock=some k:=hk;rcases hb with e|e|e
  . exact .inl ⟨.AL,trivial,by rw[<-hk,e];rfl⟩
  . rw[e] at hk;exact .inr (Nat.le_of_eq (Option.some.inj hk))
  . rw[e] at hk;cases hk
 ·
  refine .inl ⟨j,hj,?_⟩;cases j<;>first|exact hk|exact absurd rfl e
end
structure Db (w:World)(bs N:Nat)(v:Value)(wv:List Value)(AA:List (List Dd)):Prop where
 ll:Gr 52 RE w bs v wv AA
 lt:∀o,FN wv.length o->∀k,(SG 52 RE v wv AA o).v.ownBlock=some k->k<N
theorem Db.kept {w w':World}{bs N:Nat}{v:Value}{wv:List Value}{AA:List (List Dd)}(h:Db w bs N v wv AA){row:Option Nat}(hg:w.grownBy w' row)(hr:∀g,row=some g->g<bs\/N<=g):Db w' bs N v wv AA:=
 ⟨⟨h.ll.Al.far hg (fun i hi=>by
  cases e:(SG 52 RE v wv AA i).v.ownBlock with
  |none=>exact .inl rfl
  |some k=>exact .inr (fun e'=>by have:=(h.ll.Al.lt hi k e).1;have:=h.lt i hi k e;have:=hr k e'.symm;omega)),h.ll.len⟩,h.lt⟩
theorem Db.keep {w w':World}{bs N:Nat}{v:Value}{wv:List Value}{AA:List (List Dd)}(h:Db w bs N v wv AA)(k:AC w w'):Db w' bs N v wv AA:=h.kept k.grownBy (by simp)
theorem Bz.Z3 {w:World}{base N:Nat}{v:Value}{V:Nat->Value}{AA:List (List Dd)}(h:Bz w base N v V AA):Db w base N v ((List.range AA.length).map V) AA:=by
 have e:∀i,i<AA.length->((List.range AA.length).map V).getD i AE=V i:=fun i hi=>by rw[List.getD_eq_getElem?_getD,FQ V _ i hi];rfl
 have hl:((List.range AA.length).map V).length=AA.length:=by simp
 have at0:∀i,FN ((List.range AA.length).map V).length (some i)->i<AA.length:=fun i hi=>by rw[<-hl];exact hi
 refine⟨⟨⟨fun o ho=>?_,fun o o' ho ho' hne=>?_⟩,hl⟩,fun o ho k hk=>?_⟩
 ·
  cases o with
  |none=>
   show w.ownsRow base _ 1 v ((List.range AA.length).map V).length ((List.range AA.length).map V);rw[hl];exact h.row
  |some i=>
   show w.ownsRow base _ 4 (((List.range AA.length).map V).getD i AE) (AA.getD i []).length _;rw[e i (at0 i ho)];exact h.each i (at0 i ho)
 ·
  cases o with
  |none=>
   cases o' with
   |none=>exact absurd rfl hne
   |some i=>
    show v.ownBlock=none\/v.ownBlock≠(((List.range AA.length).map V).getD i AE).ownBlock;rw[e i (at0 i ho')]
    cases hv:(V i).ownBlock with
    |none=>cases v.ownBlock<;>simp
    |some k=>exact .inr (h.out i (at0 i ho') k hv)
  |some i=>
   show (((List.range AA.length).map V).getD i AE).ownBlock=none\/(((List.range AA.length).map V).getD i AE).ownBlock≠_;rw[e i (at0 i ho)]
   cases hv:(V i).ownBlock with
   |none=>exact .inl rfl
   |some k=>
    right
    cases o' with
    |none=>exact fun q=>h.out i (at0 i ho) k hv q.symm
    |some j=>
     show _≠(((List.range AA.length).map V).getD j AE).ownBlock;rw[e j (at0 j ho')];have hij:i≠j:=fun q=>hne (by rw[q])
     rcases Nat.lt_or_ge i j with q|q
     . exact fun x=>h.apart i j q (at0 j ho') k hv x.symm
     . exact fun x=>h.apart j i (by omega) (at0 i ho) k x.symm hv
 ·
  cases o with
  |none=>exact h.lt k hk
  |some i=>
   have hk:(((List.range AA.length).map V).getD i AE).ownBlock=some k:=hk;rw[e i (at0 i ho)] at hk;exact h.Y6 i (at0 i ho) k hk
theorem Lp {a b c:World}{row r2:Option Nat}(h:a.grownBy b row)(k:b.grownBy c r2)(hr:∀g,r2=some g->a.heap.size<=g):a.grownBy c row:=
 ⟨k.os.trans h.os,k.tape.trans h.tape,k.output.trans h.output,Nat.le_trans h.size k.size,fun q hq hne=>(k.block q (Nat.lt_of_lt_of_le hq h.size) (fun e=>by have:=hr q e.symm;omega)).trans (h.block q hq hne)⟩
theorem Rt {a b c:World}{row:Option Nat}(h:a.grownBy b row)(k:b.grownBy c row):a.grownBy c row:=
 ⟨k.os.trans h.os,k.tape.trans h.tape,k.output.trans h.output,Nat.le_trans h.size k.size,fun q hq hne=>(k.block q (Nat.lt_of_lt_of_le hq h.size) hne).trans (h.block q hq hne)⟩
theorem Qb {w:World}{bs N:Nat}{v:Value}{AA:List (List Dd)}(h:G3 w bs N v AA)(ht:N<=w.heap.size)(m:Nat):BA w m ⟨v,AE,AE,AE,AE,AE,AE,AE⟩ [] [] bs N AA ⟨[],[],[],[],[],[],[]⟩:=by
 have hv:∀i,BN [] [] i->i≠.bd->(Ax 0 ⟨v,AE,AE,AE,AE,AE,AE,AE⟩ [] [] ⟨[],[],[],[],[],[],[]⟩ i).v.ownBlock=none:=fun i hi hb=>by
  cases i with
  |bd=>exact absurd rfl hb
  |nt c=>exact absurd (show c<0 from hi) (by omega)
  |rw c=>exact absurd (show c<0 from hi) (by omega)
  |_=>rfl
 refine⟨⟨fun i hi=>?_,fun i j hi _ _ => .inl (hv i hi.1 hi.2)⟩,rfl,rfl,h,ht,fun i hi hb k hk=>by rw[hv i hi hb] at hk;cases hk⟩;obtain⟨hi,hb⟩:=hi
 cases i with
 |bd=>exact absurd rfl hb
 |nt c=>exact absurd (show c<0 from hi) (by omega)
 |rw c=>exact absurd (show c<0 from hi) (by omega)
 |_=>exact⟨rfl,.inl ⟨rfl,rfl⟩⟩
structure NB (wb w:World)(m D:Nat)(v:BV)(nv rv:List Value)(bs N:Nat)(AA:List (List Dd))(b:Bd):Prop where
 ob:AR w m D v nv rv bs N AA b
 lo:∀i,BN nv rv i->i≠.bd->∀k,(Ax D v nv rv b i).v.ownBlock=some k->wb.heap.size<=k
 sm:wb.grownBy w (some D)
section
variable {wb w w1 w2 w':World} {m D:Nat} {v:BV} {nv rv wv:List Value} {bs N:Nat} {AA:List (List Dd)} {b:Bd}
theorem NB.start {W:Value}(h:AR w m D ⟨W,AE,AE,AE,AE,AE,AE,AE⟩ [] [] bs N AA ⟨[],[],[],[],[],[],[]⟩):NB w w m D ⟨W,AE,AE,AE,AE,AE,AE,AE⟩ [] [] bs N AA ⟨[],[],[],[],[],[],[]⟩:=by
 refine⟨h,fun i hi hb k hk=>?_,World.grownBy.refl _ _⟩
 cases i with
 |bd=>exact absurd rfl hb
 |nt c=>exact absurd (show c<0 from hi) (by omega)
 |rw c=>exact absurd (show c<0 from hi) (by omega)
 |_=>exact absurd (show (none:Option Nat)=some k from hk) (by simp)
theorem NB.keep (h:NB wb w m D v nv rv bs N AA b)(k:AC w w'):NB wb w' m D v nv rv bs N AA b:=⟨h.ob.keep k,h.lo,Lp h.sm k.grownBy (by simp)⟩
theorem NB.put (h:NB wb w m D v nv rv bs N AA b)(i:BI)(hi:BN nv rv i)(hb:i≠.bd)(hg:w.grownBy w2 (Ax D v nv rv b i).v.ownBlock)(k:Nat)(u:Value):wb.grownBy (w2.setCell ⟨D,k,none⟩ u) (some D):=
 Rt (Lp h.sm hg (fun g e=>h.lo i hi hb g e)) (Ad w2 D k u)
theorem NB.WE (h:NB wb w m D v nv rv bs N AA b){u:Value}{zs:List Int}(hg:w.grownBy w2 v.P.ownBlock)(hb:u.ownBlock=v.P.ownBlock\/u.ownBlock=some w.heap.size)(ho:A8 w2 m u zs):
  NB wb (w2.setCell ⟨D,1,none⟩ u) m D { v with P:=u } nv rv bs N AA { b with AM:=zs }/\w2.cell? ⟨D,1,none⟩=some v.P/\w2.frozen? ⟨D,1,none⟩=false:=by
 obtain⟨h1,h2,h3⟩:=h.ob.WE hg (by rcases hb with e|e;exact .inl e;exact .inr (.inl e)) ho;refine⟨⟨h1,fun i hi hb' k hk=>?_,h.put .AM trivial (by simp) hg 1 u⟩,h2,h3⟩;by_cases e:i = .AM
 ·
  subst e;have hk:u.ownBlock=some k:=hk;rcases hb with e|e
  . exact h.lo .AM trivial (by simp) k (e.symm.trans hk)
  ·
   rw[e] at hk;have:=Option.some.inj hk;have:=h.sm.size;omega
 ·
  refine h.lo i hi hb' k ?_;cases i<;>first|exact hk|exact absurd rfl e|exact absurd rfl hb'
theorem NB.WD (h:NB wb w m D v nv rv bs N AA b){u:Value}{zs:List Int}(hg:w.grownBy w2 v.L.ownBlock)(hb:u.ownBlock=v.L.ownBlock\/u.ownBlock=some w.heap.size)(ho:A8 w2 m u zs):
  NB wb (w2.setCell ⟨D,2,none⟩ u) m D { v with L:=u } nv rv bs N AA { b with AQ:=zs }/\w2.cell? ⟨D,2,none⟩=some v.L/\w2.frozen? ⟨D,2,none⟩=false:=by
 obtain⟨h1,h2,h3⟩:=h.ob.WD hg (by rcases hb with e|e;exact .inl e;exact .inr (.inl e)) ho;refine⟨⟨h1,fun i hi hb' k hk=>?_,h.put .AQ trivial (by simp) hg 2 u⟩,h2,h3⟩;by_cases e:i = .AQ
 ·
  subst e;have hk:u.ownBlock=some k:=hk;rcases hb with e|e
  . exact h.lo .AQ trivial (by simp) k (e.symm.trans hk)
  ·
   rw[e] at hk;have:=Option.some.inj hk;have:=h.sm.size;omega
 ·
  refine h.lo i hi hb' k ?_;cases i<;>first|exact hk|exact absurd rfl e|exact absurd rfl hb'
theorem NB.WF (h:NB wb w m D v nv rv bs N AA b){u:Value}{zs:List Int}(hg:w.grownBy w2 v.X.ownBlock)(hb:u.ownBlock=v.X.ownBlock\/u.ownBlock=some w.heap.size)(ho:A8 w2 m u zs):
  NB wb (w2.setCell ⟨D,4,none⟩ u) m D { v with X:=u } nv rv bs N AA { b with AL:=zs }/\w2.cell? ⟨D,4,none⟩=some v.X/\w2.frozen? ⟨D,4,none⟩=false:=by
 obtain⟨h1,h2,h3⟩:=h.ob.WF hg (by rcases hb with e|e;exact .inl e;exact .inr (.inl e)) ho;refine⟨⟨h1,fun i hi hb' k hk=>?_,h.put .AL trivial (by simp) hg 4 u⟩,h2,h3⟩;by_cases e:i = .AL
 ·
  subst e;have hk:u.ownBlock=some k:=hk;rcases hb with e|e
  . exact h.lo .AL trivial (by simp) k (e.symm.trans hk)
  ·
   rw[e] at hk;have:=Option.some.inj hk;have:=h.sm.size;omega
 ·
  refine h.lo i hi hb' k ?_;cases i<;>first|exact hk|exact absurd rfl e|exact absurd rfl hb'
theorem NB.P8 (h:NB wb w m D v nv rv bs N AA b){u:Value}{zs:List Int}(hg:w.grownBy w2 v.S.ownBlock)(hb:u.ownBlock=v.S.ownBlock\/u.ownBlock=some w.heap.size)(ho:A8 w2 m u zs):
  NB wb (w2.setCell ⟨D,5,none⟩ u) m D { v with S:=u } nv rv bs N AA { b with sn:=zs }/\w2.cell? ⟨D,5,none⟩=some v.S/\w2.frozen? ⟨D,5,none⟩=false:=by
 obtain⟨h1,h2,h3⟩:=h.ob.P8 hg (by rcases hb with e|e;exact .inl e;exact .inr (.inl e)) ho;refine⟨⟨h1,fun i hi hb' k hk=>?_,h.put .sn trivial (by simp) hg 5 u⟩,h2,h3⟩;by_cases e:i = .sn
 ·
  subst e;have hk:u.ownBlock=some k:=hk;rcases hb with e|e
  . exact h.lo .sn trivial (by simp) k (e.symm.trans hk)
  ·
   rw[e] at hk;have:=Option.some.inj hk;have:=h.sm.size;omega
 ·
  refine h.lo i hi hb' k ?_;cases i<;>first|exact hk|exact absurd rfl e|exact absurd rfl hb'
theorem NB.TD (h:NB wb w m D v nv rv bs N AA b){u:Value}{zs:List Int}(hg:w.grownBy w2 v.F.ownBlock)(hb:u.ownBlock=v.F.ownBlock\/u.ownBlock=some w.heap.size)(ho:A8 w2 m u zs):
  NB wb (w2.setCell ⟨D,6,none⟩ u) m D { v with F:=u } nv rv bs N AA { b with fr:=zs }/\w2.cell? ⟨D,6,none⟩=some v.F/\w2.frozen? ⟨D,6,none⟩=false:=by
 obtain⟨h1,h2,h3⟩:=h.ob.TD hg (by rcases hb with e|e;exact .inl e;exact .inr (.inl e)) ho;refine⟨⟨h1,fun i hi hb' k hk=>?_,h.put .fr trivial (by simp) hg 6 u⟩,h2,h3⟩;by_cases e:i = .fr
 ·
  subst e;have hk:u.ownBlock=some k:=hk;rcases hb with e|e
  . exact h.lo .fr trivial (by simp) k (e.symm.trans hk)
  ·
   rw[e] at hk;have:=Option.some.inj hk;have:=h.sm.size;omega
 ·
  refine h.lo i hi hb' k ?_;cases i<;>first|exact hk|exact absurd rfl e|exact absurd rfl hb'
theorem NB.Qf (h:NB wb w m D v nv rv bs N AA b){u u':Value}{ns:List Nt}(k1:AC w w1)(hu:∀k,u.ownBlock=some k->w.heap.size<=k)(ou:BW cN 44 3 w1 m u ns)
  (hg:w1.grownBy w2 v.N.ownBlock) (hb:u'.ownBlock=v.N.ownBlock\/u'.ownBlock=some w1.heap.size) (ho:(EH 42 (nv++[u]) u').own w2 m):
  NB wb (w2.setCell ⟨D,3,none⟩ u') m D { v with N:=u' } (nv++[u]) rv bs N AA { b with AH:=b.AH++[ns] }/\w2.cell? ⟨D,3,none⟩=some v.N/\w2.frozen? ⟨D,3,none⟩=false:=by
 obtain⟨h1,h2,h3⟩:=h.ob.Qf k1 hu ou hg (by rcases hb with e|e;exact .inl e;exact .inr (.inl e)) ho;have hs:=h.sm.size;have hs1:=k1.size;refine⟨⟨h1,fun i hi hb' k hk=>?_,(h.keep k1).put .AH trivial (by simp) hg 3 u'⟩,h2,h3⟩
 cases i with
 |bd=>exact absurd rfl hb'
 |AH=>
  have hk:u'.ownBlock=some k:=hk;rcases hb with e|e
  . exact h.lo .AH trivial (by simp) k (e.symm.trans hk)
  ·
   rw[e] at hk;have:=Option.some.inj hk;omega
 |nt q=>
  have hk:((nv++[u]).getD q AE).ownBlock=some k:=hk;rw[EO] at hk;by_cases e:q=nv.length
  . rw[if_pos e] at hk;have:=hu k hk;omega
  ·
   rw[if_neg e] at hk;have hq:q<(nv++[u]).length:=hi;rw[List.length_append] at hq;exact h.lo (.nt q) (show q<nv.length by simp at hq;omega) (by simp) k hk
 |rw q=>exact h.lo (.rw q) hi (by simp) k hk
 |AM=>exact h.lo .AM trivial (by simp) k hk
 |AQ=>exact h.lo .AQ trivial (by simp) k hk
 |AL=>exact h.lo .AL trivial (by simp) k hk
 |sn=>exact h.lo .sn trivial (by simp) k hk
 |fr=>exact h.lo .fr trivial (by simp) k hk
 |rws=>exact h.lo .rws trivial (by simp) k hk
theorem NB.Ta (h:NB wb w m D v nv rv bs N AA b){u u':Value}{zs:List Int}(k1:AC w w1)(hu:∀k,u.ownBlock=some k->w.heap.size<=k)(ou:A8 w1 m u zs)
  (hg:w1.grownBy w2 v.R.ownBlock) (hb:u'.ownBlock=v.R.ownBlock\/u'.ownBlock=some w1.heap.size) (ho:(EH 26 (rv++[u]) u').own w2 m):
  NB wb (w2.setCell ⟨D,7,none⟩ u') m D { v with R:=u' } nv (rv++[u]) bs N AA { b with rws:=b.rws++[zs] }/\w2.cell? ⟨D,7,none⟩=some v.R/\w2.frozen? ⟨D,7,none⟩=false:=by
 obtain⟨h1,h2,h3⟩:=h.ob.Ta k1 hu ou hg (by rcases hb with e|e;exact .inl e;exact .inr (.inl e)) ho;have hs:=h.sm.size;have hs1:=k1.size;refine⟨⟨h1,fun i hi hb' k hk=>?_,(h.keep k1).put .rws trivial (by simp) hg 7 u'⟩,h2,h3⟩
 cases i with
 |bd=>exact absurd rfl hb'
 |rws=>
  have hk:u'.ownBlock=some k:=hk;rcases hb with e|e
  . exact h.lo .rws trivial (by simp) k (e.symm.trans hk)
  ·
   rw[e] at hk;have:=Option.some.inj hk;omega
 |rw q=>
  have hk:((rv++[u]).getD q AE).ownBlock=some k:=hk;rw[EO] at hk;by_cases e:q=rv.length
  . rw[if_pos e] at hk;have:=hu k hk;omega
  ·
   rw[if_neg e] at hk;have hq:q<(rv++[u]).length:=hi;rw[List.length_append] at hq;exact h.lo (.rw q) (show q<rv.length by simp at hq;omega) (by simp) k hk
 |nt q=>exact h.lo (.nt q) hi (by simp) k hk
 |AM=>exact h.lo .AM trivial (by simp) k hk
 |AQ=>exact h.lo .AQ trivial (by simp) k hk
 |AL=>exact h.lo .AL trivial (by simp) k hk
 |sn=>exact h.lo .sn trivial (by simp) k hk
 |fr=>exact h.lo .fr trivial (by simp) k hk
 |AH=>exact h.lo .AH trivial (by simp) k hk
theorem AR.all (ob:AR w m D v nv rv bs N AA b)(lw:Db w bs N v.W wv AA)(hm:m<=bs):Ek w m v nv rv wv AA b:=by
 have fo:∀i,i≠BI.bd->Ax 0 v nv rv b i=Ax D v nv rv b i:=fun i hi=>by cases i<;>first|rfl|exact absurd rfl hi
 have wl:∀o,FN wv.length o->∀k,(SG 52 RE v.W wv AA o).v.ownBlock=some k->bs<=k/\k<N:=fun o ho k hk=>⟨(lw.ll.Al.lt ho k hk).1,lw.lt o ho k hk⟩
 have cross:∀i,BN nv rv i->∀o,FN wv.length o->(Ax D v nv rv b i).v.ownBlock=none\/(Ax D v nv rv b i).v.ownBlock≠(SG 52 RE v.W wv AA o).v.ownBlock:=fun i hi o ho=>by
  cases e:(Ax D v nv rv b i).v.ownBlock with
  |none=>exact .inl rfl
  |some k=>exact .inr (fun q=>by have:=ob.out i hi k e;have:=wl o ho k q.symm;omega)
 have cross':∀o,FN wv.length o->∀i,BN nv rv i->(SG 52 RE v.W wv AA o).v.ownBlock=none\/(SG 52 RE v.W wv AA o).v.ownBlock≠(Ax D v nv rv b i).v.ownBlock:=fun o ho i hi=>by
  cases e:(SG 52 RE v.W wv AA o).v.ownBlock with
  |none=>exact .inl rfl
  |some k=>exact .inr (fun q=>by have:=ob.out i hi k q.symm;have:=wl o ho k e;omega)
 refine⟨⟨fun j hj=>?_,fun i j hi hj hij=>?_⟩,ob.ln,ob.lr,lw.ll.len⟩
 ·
  cases j with
  |b i=>
   show (Ax 0 v nv rv b i).own w m;rw[fo i hj.2];exact ob.Al.own i hj.1
  |wk=>exact DH (lw.ll.Al.own none trivial) hm
  |wd c=>exact DH (lw.ll.Al.own (some c) hj) hm
 ·
  cases i with
  |b i=>
   show (Ax 0 v nv rv b i).v.ownBlock=none\/(Ax 0 v nv rv b i).v.ownBlock≠_;rw[fo i hi.2]
   cases j with
   |b j=>
    show _\/_≠(Ax 0 v nv rv b j).v.ownBlock;rw[fo j hj.2];exact ob.Al.apart i j hi.1 hj.1 (fun e=>hij (by rw[e]))
   |wk=>exact cross i hi.1 none trivial
   |wd c=>exact cross i hi.1 (some c) hj
  |wk=>
   cases j with
   |b j=>
    show _\/_≠(Ax 0 v nv rv b j).v.ownBlock;rw[fo j hj.2];exact cross' none trivial j hj.1
   |wk=>exact absurd rfl hij
   |wd c=>exact lw.ll.Al.apart none (some c) trivial hj (by simp)
  |wd c=>
   cases j with
   |b j=>
    show _\/_≠(Ax 0 v nv rv b j).v.ownBlock;rw[fo j hj.2];exact cross' (some c) hi j hj.1
   |wk=>exact lw.ll.Al.apart (some c) none hi trivial (by simp)
   |wd d=>exact lw.ll.Al.apart (some c) (some d) hi hj (fun e=>hij (by have:=Option.some.inj e;rw[this]))
end
end
section
def Bt (rows:List Nat)(cnt:Nat->Nat)(B:Nat->Bool)(j:Nat×Nat):Prop:=j.1∈rows/\B j.1=true/\j.2<cnt j.1
def Qv (R:Nat×Nat->Rw)(o:Nat)(r:Nat->Rw):Nat×Nat->Rw:=fun j=>if j.1=o then r j.2 else R j
theorem Et {rows:List Nat}{cnt:Nat->Nat}{B:Nat->Bool}{i:Nat}{j:Nat×Nat}(h:Bt rows cnt (AY B i) j):Bt rows cnt B j\/j.1=i:=by
 obtain⟨h1,h2,h3⟩:=h;by_cases e:j.1=i
 . exact .inr e
 ·
  refine .inl ⟨h1,?_,h3⟩;unfold AY at h2;rw[if_neg e] at h2;exact h2
theorem C0 {rows:List Nat}{cnt:Nat->Nat}{B:Nat->Bool}{i:Nat}{j:Nat×Nat}(hi:i∉rows)(h:Bt rows cnt (AY B i) j):Bt rows cnt B j:=by
 rcases Et h with q|q
 . exact q
 . exact absurd h.1 (by rw[q];exact hi)
structure I4 (w:World)(m:Nat)(live:Nat×Nat->Prop)(R:Nat×Nat->Rw)(wk:Bool)(vW:Value)(wv:List Value)(bs N:Nat)(AA:List (List Dd)):Prop where
 Al:Fj w m live R
 work:wk=true->G3 w bs N vW AA/\Db w bs N vW wv AA/\N<=w.heap.size/\m<=bs
 out:wk=true->∀i,live i->∀k,(R i).v.ownBlock=some k->k<bs\/N<=k
section
variable {w w':World} {m:Nat} {rows:List Nat} {cnt:Nat->Nat} {B:Nat->Bool} {R:Nat×Nat->Rw} {wk:Bool} {vW:Value} {wv:List Value} {bs N:Nat} {AA:List (List Dd)}
theorem I4.start (w:World)(m:Nat)(rows:List Nat)(cnt:Nat->Nat)(R:Nat×Nat->Rw)(vW:Value)(wv:List Value)(bs N:Nat)(AA:List (List Dd)):I4 w m (Bt rows cnt (fun _=>false)) R false vW wv bs N AA:=
 ⟨⟨fun _ h=>(by cases h.2.1),fun _ _ h=>(by cases h.2.1)⟩,fun h=>(by cases h),fun h=>(by cases h)⟩
theorem I4.keep {live:Nat×Nat->Prop}(h:I4 w m live R wk vW wv bs N AA)(k:AC w w'):I4 w' m live R wk vW wv bs N AA:=
 ⟨h.Al.keep k,fun e=>⟨(h.work e).1.kept k.grownBy (by simp),(h.work e).2.1.keep k,Nat.le_trans (h.work e).2.2.1 k.size,(h.work e).2.2.2⟩,h.out⟩
theorem I4.pass (h:I4 w m (Bt rows cnt B) R wk vW wv bs N AA){i:Nat}(hi:i∉rows):I4 w m (Bt rows cnt (AY B i)) R wk vW wv bs N AA:=
 ⟨h.Al.congr (fun _ hj=>C0 hi hj) (fun _ _=>rfl),h.work,fun e j hj=>h.out e j (C0 hi hj)⟩
theorem I4.add (h:I4 w m (Bt rows cnt B) R wk vW wv bs N AA){i:Nat}(hi:B i=false){r:Nat->Rw}(k:AC w w')(ho:∀q,q<cnt i->(r q).own w' m)(ha:∀p q,p<cnt i->q<cnt i->p≠q->(r p).v.ownBlock=none\/(r p).v.ownBlock≠(r q).v.ownBlock)
  (hn:∀q,q<cnt i->∀b,(r q).v.ownBlock=some b->w.heap.size<=b):I4 w' m (Bt rows cnt (AY B i)) (Qv R i r) wk vW wv bs N AA:=by
 have hk:=h.keep k;have mY:∀j,Bt rows cnt B j->j.1≠i:=fun j hj e=>by have q:=hj.2.1;rw[e,hi] at q;cases q
 have eo:∀j:Nat×Nat,j.1≠i->Qv R i r j=R j:=fun j hj=>if_neg hj
 have es:∀j:Nat×Nat,j.1=i->Qv R i r j=r j.2:=fun j hj=>if_pos hj
 have cs:∀j:Nat×Nat,j.1=i->Bt rows cnt (AY B i) j->j.2<cnt i:=fun j e hj=>by have:=hj.2.2;rw[e] at this;exact this
 have old:∀j,Bt rows cnt B j->∀q,q<cnt i->(R j).v.ownBlock=none\/(R j).v.ownBlock≠(r q).v.ownBlock:=fun j hj q hq=>by
  cases e:(R j).v.ownBlock with
  |none=>exact .inl rfl
  |some b=>exact .inr (fun e'=>by have:=(h.Al.lt hj b e).2;have:=hn q hq b e'.symm;omega)
 refine⟨⟨fun j hj=>?_,fun j l hj hl hjl=>?_⟩,hk.work,fun e j hj b hb=>?_⟩
 ·
  rcases Et hj with q|q
  . rw[eo j (mY j q)];exact hk.Al.own j q
  . rw[es j q];exact ho _ (cs j q hj)
 ·
  rcases Et hj with q|q
  ·
   rw[eo j (mY j q)];rcases Et hl with p|p
   . rw[eo l (mY l p)];exact h.Al.apart j l q p hjl
   . rw[es l p];exact old j q _ (cs l p hl)
  ·
   rw[es j q];rcases Et hl with p|p
   ·
    rw[eo l (mY l p)];rcases old l p _ (cs j q hj) with x|x
    ·
     rw[x]
     cases (r j.2).v.ownBlock with
     |none=>exact .inl rfl
     |some b=>exact .inr (by simp)
    . exact .inr (fun e=>x e.symm)
   ·
    rw[es l p];refine ha _ _ (cs j q hj) (cs l p hl) (fun e=>hjl ?_);exact Prod.ext (q.trans p.symm) e
 ·
  rcases Et hj with q|q
  . rw[eo j (mY j q)] at hb;exact h.out e j q b hb
  ·
   rw[es j q] at hb;have:=hn _ (cs j q hj) b hb;have:=(h.work e).2.2.1;right;omega
theorem I4.one (h:I4 w m (Bt rows cnt B) R wk vW wv bs N AA){i:Nat}(hi:B i=false)(hc:cnt i=1){r:Rw}(k:AC w w')(ho:r.own w' m)(hn:∀b,r.v.ownBlock=some b->w.heap.size<=b):I4 w' m (Bt rows cnt (AY B i)) (Qv R i (fun _=>r)) wk vW wv bs N AA:=
 h.add hi k (fun _ _=>ho) (fun p q hp hq hne=>absurd (by omega:p=q) hne) (fun _ _=>hn)
theorem I4.copied (h:I4 w m (Bt rows cnt B) R false vW wv bs N AA){i:Nat}(hi:i∉rows){v':Value}{V:Nat->Value}(k:AC w w')(hx:Bz w' w.heap.size w'.heap.size v' V AA)(hm:m<=w.heap.size):I4 w' m (Bt rows cnt (AY B i)) R true v' ((List.range AA.length).map V) w.heap.size w'.heap.size AA:=
 ⟨(h.Al.keep k).congr (fun _ hj=>C0 hi hj) (fun _ _=>rfl),fun _=>⟨hx.qc.upto,hx.Z3,Nat.le_refl _,hm⟩,fun _ _ hj b hb => .inl (h.Al.lt (C0 hi hj) b hb).2⟩
theorem I4.grow (h:I4 w m (Bt rows cnt B) R wk vW wv bs N AA){i o:Nat}(hi:i∉rows)(hc:cnt o=1)(hj:Bt rows cnt B (o,0)){r:Rw}(hg:w.grownBy w' (R (o,0)).v.ownBlock)(hv:r.v.ownBlock=(R (o,0)).v.ownBlock\/r.v.ownBlock=some w.heap.size)(ho:r.own w' m):I4 w' m (Bt rows cnt (AY B i)) (Qv R o (fun _=>r)) wk vW wv bs N AA:=by
 have F:=h.Al.set hj (r:=r) hg (by rcases hv with e|e;exact .inl e;exact .inr (.inl e)) ho
 have eq:∀j,Bt rows cnt (AY B i) j->Qv R o (fun _=>r) j=Hy R (o,0) r j:=fun j q=>by
  unfold Qv Hy;by_cases e:j.1=o
  ·
   have h2:j.2=0:=by have:=q.2.2;rw[e,hc] at this;omega
   rw[if_pos e,if_pos (Prod.ext e h2)]
  . rw[if_neg e,if_neg (fun x=>e (by rw[x]))]
 refine⟨F.congr (fun _ q=>C0 hi q) eq,fun e=>⟨(h.work e).1.kept hg (fun g e'=>h.out e _ hj g e'),(h.work e).2.1.kept hg (fun g e'=>h.out e _ hj g e'),Nat.le_trans (h.work e).2.2.1 hg.size,(h.work e).2.2.2⟩,fun e q hq b hb=>?_⟩;rw[eq q hq] at hb;by_cases eq':q=(o,0)
 ·
  subst eq';rw[Am] at hb;rcases hv with e1|e1
  . rw[e1] at hb;exact h.out e _ hj b hb
  ·
   rw[e1] at hb;have:=Option.some.inj hb;have:=(h.work e).2.2.1;right;omega
 ·
  rw[AU _ _ eq'] at hb;exact h.out e q (C0 hi hq) b hb
theorem I4.far (h:I4 w m (Bt rows cnt B) R wk vW wv bs N AA){i:Nat}(hi:i∉rows){g:Nat}(hg:w.grownBy w' (some g))(hl:g<m):I4 w' m (Bt rows cnt (AY B i)) R wk vW wv bs N AA:=
  ⟨(h.Al.far hg (fun j hj=>by
    cases e:(R j).v.ownBlock with
    |none=>exact .inl rfl
    |some k=>exact .inr (fun e'=>by have:=(h.Al.lt hj k e).1;have:=Option.some.inj e';omega))).congr (fun _ q=>C0 hi q) (fun _ _=>rfl),
   fun e=>⟨(h.work e).1.kept hg (fun q e'=>by have:=Option.some.inj e';have:=(h.work e).2.2.2;omega),(h.work e).2.1.kept hg (fun q e'=>by have:=Option.some.inj e';have:=(h.work e).2.2.2;omega),Nat.le_trans (h.work e).2.2.1 hg.size,(h.work e).2.2.2⟩,fun e j hj=>h.out e j (C0 hi hj)⟩
theorem I4.Zn (h:I4 w m (Bt rows cnt B) R wk vW wv bs N AA){α:Type}{t:TypeId}{rowOf:List α->Value->Rw}{i:Nat}(hi:B i=false){v:Value}{hs:List Value}{xss:List (List α)}(hc:cnt i=xss.length+1)(k:AC w w')(hm:m<=w.heap.size)(o:Gr t rowOf w' w.heap.size v hs xss):
  I4 w' m (Bt rows cnt (AY B i)) (Qv R i (fun q=>SG t rowOf v hs xss (match q with|0=>none|q+1=>some q))) wk vW wv bs N AA:=by
 have lv:∀q,q<cnt i->FN hs.length (match q with|0=>none|q+1=>some q):=fun q hq=>by
  cases q with
  |zero=>trivial
  |succ q=>show q<hs.length;rw[o.len];omega
 refine h.add hi k (fun q hq=>DH (o.Al.own _ (lv q hq)) hm) (fun p q hp hq hne=>o.Al.apart _ _ (lv p hp) (lv q hq) (fun e=>hne ?_)) (fun q hq b hb=>(o.Al.lt (lv q hq) b hb).1);cases p<;>cases q<;>simp_all
end
end
section
section
variable {P:Program} {w:World}
theorem Dt {o:Oper}{a:Act}{K:Act->World->Prop}{Q:Exit->Act->World->Prop}(s x:Operand)(t:TypeId)
  (ho:o.op = .call { callee:= .builtin .append,args:=#[s,x],argTypes:=#[t,t] })
  (base:Nat) (e:TypeId) (i:TypeInfo) (z:Value) (size bytes:Nat) (ht:P.underlying t=some (.slice e)) (hi:P.info? e=some i) (hz:i.zero=some z)
  (hsize:i.size=size) (hby:i.bytes=bytes) (hzs:z.cells.size=size) (hsz:0<size)
  (v:Value) (n:Nat) (xs:List Value) (hs:a.eval s=v) (hown:w.ownsRow base e size v n xs)
  (ad:Addr) (m c:Nat) (news:List Value) (hx:a.eval x = .slice (some ad) m c) (hl:news.length=m*size) (hnews:∀j u,news[j]? = some u->w.cell? (ad.add j)=some u) (h1:∀u∈news,u.oneCell'=true)
  (h63:n+m<=maxLen) (hbytes:(n+m)*bytes<=140737488355328) (hbase:base<=w.heap.size)
  (h:∀v' w',w'.ownsRow base e size v' (n+m) (xs++news)->w.grownBy w' v.ownBlock->(v'.ownBlock=v.ownBlock\/v'.ownBlock=some w.heap.size)->K (a.put o.dst v') w'):o.wp P a w K Q:=by
 obtain⟨v',w',hr,h2,h3,_,h5⟩:=run_append_own_at (P:=P) w base t o.type e i z size bytes ht hi hz hsize hby hzs hsz v n xs hown ad m c news hl hnews h1 h63 hbytes hbase;unfold Oper.wp execOp;simp only[ho,resolve,invoke,builtin,Sem.run_bind,Sem.run_pure,Result.andThen_ok,List.map_toArray,List.map_cons,List.map_nil,hs,hx,hr];exact h v' w' h2 h3 h5
end
theorem Tryz.Rz:(Tryz.prog.info? 44).map (fun i=>(i.zero,i.size,i.bytes))=some (some (.agg #[.int .i64 0,.int .i64 0,.int .i64 0]),3,24):=by kernel_rfl
theorem TT (ns:List Nt):(ns.flatMap cN).length=ns.length*3:=by
 induction ns with
 |nil=>rfl
 |cons d r ih=>rw[List.flatMap_cons,List.length_append,ih,List.length_cons];simp[cN];omega
theorem ZB (ns:List Nt):∀u∈ns.flatMap cN,u.oneCell'=true:=fun u hu=>by
 obtain⟨x,_,hx⟩:=List.mem_flatMap.1 hu;simp only[cN,List.mem_cons,List.not_mem_nil,or_false] at hx;rcases hx with rfl|rfl|rfl<;>rfl
theorem gB (ns:List Nt):∀(i m:Nat),i<ns.length->m<3->(ns.flatMap cN)[i*3+m]? = (cN (ns.getD i zN))[m]?:=by
 induction ns with
 |nil=>intro i m hi _;simp at hi
 |cons d r ih=>
  intro i m hi hm;rw[List.flatMap_cons]
  cases i with
  |zero=>
   rw[List.getElem?_append_left (by rw[Dg];omega)];simp
  |succ i=>
   rw[List.getElem?_append_right (by rw[Dg];omega),Dg,show (i+1)*3+m-3=i*3+m by omega,ih i m (by simpa using hi) hm];simp
theorem UU {w:World}{b off:Nat}{ns:List Nt}(h:∀i x,ns[i]? = some x->Xh cN w b (off+i*3) x):∀j u,(ns.flatMap cN)[j]? = some u->w.cell? ((⟨b,off,none⟩:Addr).add j)=some u:=fun j u hj=>by
 have hl:j<ns.length*3:=by rw[<-TT];exact (List.getElem?_eq_some_iff.1 hj).1
 have hi:j / 3<ns.length:=by omega
 have hm:j % 3<3:=Nat.mod_lt _ (by omega);have e:j=j / 3*3+j % 3:=by omega
 have h1:=gB ns (j / 3) (j % 3) hi hm;rw[<-e] at h1;rw[h1] at hj;have ea:(⟨b,off,none⟩:Addr).add j=⟨b,off+j / 3*3+j % 3,none⟩:=by rw[show off+j / 3*3+j % 3=off+j by omega];simp[Addr.add]
 rw[ea];exact h (j / 3) _ (Gh hi) (j % 3) u hj
theorem Gv {w:World}{o:Oper}{a:Act}{K:Act->World->Prop}{Q:Exit->Act->World->Prop}(s x:Operand)
  (ho:o.op = .call { callee:= .builtin .append,args:=#[s,x],argTypes:=#[42,42] })
  (base g:Nat) (hs:a.eval s = .slice (some ⟨g,0,none⟩) 0 0) (hown:BW cN 44 3 w base (.slice (some ⟨g,0,none⟩) 0 0) [])
  (vx:Value) (hx:a.eval x=vx) (ns:List Nt) (hr:Zk w vx ns) (hn:ns.length<=1048576) (hb:base<=w.heap.size)
  (h:∀v' w',BW cN 44 3 w' base v' ns->w.grownBy w' (some g)->K (a.put o.dst v') w'):o.wp Tryz.prog a w K Q:=by
 obtain⟨i0,hi,hz0,hz1,hz2⟩:=info_parts Tryz.Rz;obtain⟨ax,cx,rfl,hr⟩:=hr;rcases hr with h0|⟨bx,ox,rfl,hbx,hcx⟩
 ·
  subst h0
  cases ax with
  |none=>
   have hh:=h (.slice (some ⟨g,0,none⟩) 0 0) w hown (World.grownBy.refl _ _);unfold Oper.wp execOp;simp only[ho,resolve,invoke,builtin,Sem.run_bind,Sem.run_pure,Result.andThen_ok,List.map_toArray,List.map_cons,List.map_nil,hs,hx];go_simp;exact hh
  |some y=>
   refine wp_append_own w s x 42 ho base 44 i0 _ 3 24 Tryz.underlying42 hi hz0 hz1 hz2 rfl (by decide) _ 0 [] hs hown y 0 _ [] hx rfl (by simp) (by simp) (by simp) (by simp) hb ?_;intro v' w' h1 h2 _;exact h v' w' h1 h2
 ·
  refine wp_append_own w s x 42 ho base 44 i0 _ 3 24 Tryz.underlying42 hi hz0 hz1 hz2 rfl (by decide) _ 0 [] hs hown ⟨bx,ox,none⟩ ns.length _ (ns.flatMap cN) hx (TT ns) (UU hcx) (ZB ns) (by unfold maxLen;omega) (by omega) hb ?_;intro v' w' h1 h2 _;refine h v' w' ?_ h2;unfold BW
  simpa using h1
theorem Cn {w:World}{o:Oper}{a:Act}{K:Act->World->Prop}{Q:Exit->Act->World->Prop}(s x:Operand)
  (ho:o.op = .call { callee:= .builtin .append,args:=#[s,x],argTypes:=#[26,26] })
  (base:Nat) (v:Value) (zs:List Int) (hs:a.eval s=v) (hown:A8 w base v zs)
  (vx:Value) (hx:a.eval x=vx) (ys:List Int) (hr:Rd w vx ys) (hz:zs.length<=1048576) (hy:ys.length<=1048576) (hb:base<=w.heap.size)
  (h:∀v' w',A8 w' base v' (zs++ys)->w.grownBy w' v.ownBlock->(v'.ownBlock=v.ownBlock\/v'.ownBlock=some w.heap.size)->K (a.put o.dst v') w'):o.wp Tryz.prog a w K Q:=by
 obtain⟨i0,hi,hz0,hz1,hz2⟩:=info_parts Tryz.FL
 have law:∀(ad:Addr) (c:Nat),a.eval x = .slice (some ad) ys.length c->(∀j u,(ys.map (Value.int .i64))[j]? = some u->w.cell? (ad.add j)=some u)->o.wp Tryz.prog a w K Q:=fun ad c hx hn=>by
  refine Dt s x 26 ho base 2 i0 _ 1 8 Tryz.underlying26 hi hz0 hz1 hz2 rfl (by decide) v zs.length (zs.map (Value.int .i64)) hs hown ad ys.length c (ys.map (Value.int .i64)) hx (by simp) hn (fun u hu=>?_) (by unfold maxLen;omega) (by omega) hb ?_
  . obtain⟨q,_,rfl⟩:=List.mem_map.1 hu;rfl
  ·
   intro v' w' h1 h2 h3;refine h v' w' ?_ h2 h3;unfold A8;rw[List.length_append,List.map_append];exact h1
 obtain⟨ax,cx,rfl,hr⟩:=hr;rcases hr with h0|⟨bx,ox,rfl,hbx,hcx⟩
 ·
  subst h0
  cases ax with
  |none=>
   have hh:=h v w (by rw[List.append_nil];exact hown) (World.grownBy.refl _ _) (.inl rfl);rcases hown.2 with ⟨rfl,hn0⟩|⟨g,cap,cur,rfl,-,-,hcap,-⟩
   ·
    unfold Oper.wp execOp;simp only[ho,resolve,invoke,builtin,Sem.run_bind,Sem.run_pure,Result.andThen_ok,List.map_toArray,List.map_cons,List.map_nil,hs,hx];go_simp;exact hh
   ·
    unfold Oper.wp execOp;simp only[ho,resolve,invoke,builtin,Sem.run_bind,Sem.run_pure,Result.andThen_ok,List.map_toArray,List.map_cons,List.map_nil,hs,hx];go_simp;exact hh
  |some y=>exact law y _ hx (fun j u hu=>by simp at hu)
 ·
  refine law _ _ hx (fun j u hu=>?_);have hj:j<ys.length:=by have:=(List.getElem?_eq_some_iff.1 hu).1;simpa using this
  have e:=hcx j hj;rw[List.getElem?_map,List.getElem?_eq_getElem hj] at hu;simp only[Option.map_some,Option.some.injEq] at hu;rw[List.getD_eq_getElem?_getD,List.getElem?_eq_getElem hj] at e;simp only[Option.getD_some] at e;rw[<-hu]
  have ea:(⟨bx,ox,none⟩:Addr).add j=⟨bx,ox+j,none⟩:=by
   by_cases hj0:j=0
   . subst hj0;simp[Addr.add]
   . simp[Addr.add,hj0]
  rw[ea];exact e
end
theorem Bx {w:World}{ops:Array Oper}{rest:List Oper}{o:Oper}{a:Act}{Q:Exit->Act->World->Prop}(hgd:o.guard=none)(s x:Operand)
  (ho:o.op = .call { callee:= .builtin .append,args:=#[s,x],argTypes:=#[26,26] })
  (base:Nat) (v:Value) (zs:List Int) (hs:a.eval s=v) (hown:A8 w base v zs)
  (vx:Value) (hx:a.eval x=vx) (ys:List Int) (hr:Rd w vx ys) (hz:zs.length<=1048576) (hy:ys.length<=1048576) (hb:base<=w.heap.size)
  (h:∀v' w',A8 w' base v' (zs++ys)->w.grownBy w' v.ownBlock->(v'.ownBlock=v.ownBlock\/v'.ownBlock=some w.heap.size)->wpList Tryz.prog ops Q rest (a.put o.dst v') w'):wpList Tryz.prog ops Q (o::rest) a w:=
 wpList_plain hgd fun _ hK=>Cn s x ho base v zs hs hown vx hx ys hr hz hy hb (fun v' w' h1 h2 h3=>hK _ _ (h v' w' h1 h2 h3))
end Go.Proofs.YtgakfkjjkobpiaaGreat
