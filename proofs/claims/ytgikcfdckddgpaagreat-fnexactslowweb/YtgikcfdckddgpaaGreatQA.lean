/- Gathered texts. -/
import Derived.Test.YtgikcfdckddgpaaGreatMB
import Derived.Test.YtgikcfdckddgpaaGreatRows
import Derived.Test.YtgikcfdckddgpaaGreatMA
import Derived.OpenShut
import Derived.Below
import Derived.WalkSmall
import Derived.Test.YtgikcfdckddgpaaGreatMF
import Derived.Deep.Slices
import Derived.Lib.SmallJoins
set_option maxRecDepth 100000
set_option maxHeartbeats 8000000
namespace Go.Proofs.YtgikcfdckddgpaaGreat
open Go.ChangeShapes Go.WideShapes Go.ChangeAt Go.RowKit
theorem rd_of_row {w:World}{a:Option Addr}{len cap:Nat}{ys:List Int}
  (h:(a=none∧len=0∧cap=0∧ys=[])∨∃x,a=some x∧len≤cap∧cap≤maxLen∧ys.length=cap∧(∀i,i<ys.length→w.cell? (x.add i)=some (.int .i64 (ys.getD i 0)))∧∀n∈ys,(Lit.int .i64 n).wf=true):
  ∃zs:List Int,zs.length=len∧Rd w (.slice a len cap) zs:=by
 rcases h with ⟨rfl,rfl,rfl,rfl⟩|⟨x,rfl,hl,hm,hy,hc,_⟩
 · exact⟨[],rfl,none,0,rfl,.inl rfl⟩
 ·
  have hzl:(ys.take len).length=len:=by rw[List.length_take];omega
  refine⟨ys.take len,hzl,some x,cap,by rw[hzl],?_⟩;by_cases h0:len=0
  · left;subst h0;simp
  ·
   right;obtain⟨b,off,spot⟩:=x;have hc0:=hc 0 (by omega);have hspot:spot=none:=by simpa [Addr.add] using World.cell?_spot hc0
   subst hspot
   have hcc:∀i,i<(ys.take len).length→w.cell? ⟨b,off+i,none⟩=some (.int .i64 ((ys.take len).getD i 0)):=by
    intro i hi;have h1:=hc i (by omega);have e1:(⟨b,off,none⟩:Addr).add i=⟨b,off+i,none⟩:=by unfold Addr.add;split<;>simp_all
    rw[e1] at h1;rw[h1,List.getD_eq_getElem?_getD,List.getD_eq_getElem?_getD,List.getElem?_take,if_pos (by omega)]
   refine⟨b,off,rfl,?_,hcc⟩;have h2:=hcc 0 (by omega);apply Classical.byContradiction;intro hnb;have h3:w.heap[b]? = none:=by simp;omega
   simp[World.cell?,h3] at h2
section
section
variable {H:Type} {enc:TypeId×Value→H} {w:World} {base:Nat} {held:Bool}
theorem open_deeds {fuel:Nat}{v:Value}{x:DataW H×List MemPlace}(h:DataW.trod enc Tryz.prog w base (fun _=>true) held fuel 101 [v]=some x):∃ds,RdD w v ds∧ds.length≤maxLen:=by
 have c4:Tryz.prog.cellsOf 145=4:=by kernel_rfl
 have c2:Tryz.prog.cellsOf 2=1:=by kernel_rfl
 rcases Deep.open_slice Tryz.underlying101 h with ⟨hcs,_⟩|⟨a,len,cap,m,n,D,Pl,hcs,hb,hl,hm,hmm,_,hx⟩
 ·
  simp only[List.cons.injEq,and_true] at hcs;subst hcs;exact⟨[],⟨none,0,rfl,.inl rfl⟩,by simp⟩
 ·
  simp only[List.cons.injEq,and_true] at hcs;subst hcs;have hlm:len≤m:=by rw[hmm];split<;>omega
  have each:∀i,i<len→∃d:Dd,w.cell? (a.add (i*4))=some (.int .i64 d.1)∧w.cell? (a.add (i*4+1))=some (.int .i64 d.2.1)∧w.cell? (a.add (i*4+2))=some (.int .i64 d.2.2.1)∧w.cell? (a.add (i*4+3))=some (.int .i64 d.2.2.2):=by
   intro i hi;obtain⟨cs',h1,h2⟩:=hx i (by omega);rw[c4] at h1;obtain⟨_,hlen,hcell⟩:=World.cells?_some h1;obtain⟨xs,k,hk,hxy,_,hxl,hf⟩:=DataW.trod_struct Tryz.underlying145 h2
   match xs,hxl,cs',hlen with
   | [y0,y1,y2,y3],_,[v0,v1,v2,v3],_=>
    have g0:=hf 0 _ rfl;have g1:=hf 1 _ rfl;have g2:=hf 2 _ rfl;have g3:=hf 3 _ rfl;simp[c2] at g0 g1 g2 g3;obtain⟨k0,e0,_,_⟩:=DataW.trod_int Tryz.underlying2 g0;obtain⟨k1,e1,_,_⟩:=DataW.trod_int Tryz.underlying2 g1;obtain⟨k2,e2,_,_⟩:=DataW.trod_int Tryz.underlying2 g2;obtain⟨k3,e3,_,_⟩:=DataW.trod_int Tryz.underlying2 g3;simp only[List.cons.injEq,and_true] at e0 e1 e2 e3;subst e0 e1 e2 e3;have f0:=hcell 0 (by omega);have f1:=hcell 1 (by omega);have f2:=hcell 2 (by omega);have f3:=hcell 3 (by omega);rw[Deep.add_add] at f0 f1 f2 f3;exact⟨(k0,k1,k2,k3),by simpa using f0,by simpa using f1,by simpa using f2,by simpa using f3⟩
  obtain⟨f,hf⟩:=Deep.choose_lt each;refine⟨(List.range len).map f,⟨some a,cap-len,by simp;omega,?_⟩,by simp;omega⟩;by_cases h0:len=0
  · left;subst h0;rfl
  ·
   right;obtain⟨b,off,spot⟩:=a;have hc0:=(hf 0 (by omega)).1;have hspot:spot=none:=by simpa [Addr.add] using World.cell?_spot hc0
   subst hspot
   have hbl:b<w.heap.size:=by
    rw[plain_add] at hc0;exact block_lt hc0
   refine⟨b,off,rfl,hbl,fun i hi=>?_⟩;have hi':i<len:=by simpa using hi
   rw[range_getD f len i zD hi'];obtain⟨q0,q1,q2,q3⟩:=hf i hi';rw[plain_add] at q0 q1 q2 q3;exact⟨q0,q1,q2,q3⟩
theorem open_work {r:Reach}{b0:Nat}{v:Value}{d:DataW H}{p:List MemPlace}(hv:Value.okWide Tryz.prog w r b0 51 v)(h:DataW.Trod enc Tryz.prog w base (fun _=>true) held 51 v d p):∃dss,RdW w v dss∧dss.length≤maxLen∧∀i,i<dss.length→(dss.getD i []).length≤maxLen:=by
 obtain⟨a0,len0,cap0,rfl⟩:=okWide_slice Tryz.underlying51 hv;obtain⟨fuel,hf⟩:=h;rcases Deep.open_slice1 Tryz.underlying51 (by kernel_rfl) hf with ⟨hcs,_⟩|⟨a,len,cap,m,n,V,D,Pl,hcs,hb,hl,hm,hmm,_,hx⟩
 ·
  simp[Value.cells] at hcs;obtain⟨rfl,rfl,rfl⟩:=hcs;exact⟨[],⟨none,0,rfl,.inl rfl⟩,by simp,by simp⟩
 ·
  simp[Value.cells] at hcs;obtain⟨rfl,rfl,rfl⟩:=hcs;have hlm:len0≤m:=by rw[hmm];split<;>omega
  have each:∀i,i<len0→∃ds:List Dd,w.cell? (a.add i)=some (V i)∧RdD w (V i) ds∧ds.length≤maxLen:=by
   intro i hi;obtain⟨h1,h2⟩:=hx i (by omega);obtain⟨ds,h3,h4⟩:=open_deeds h2;exact⟨ds,h1,h3,h4⟩
  obtain⟨f,hf⟩:=Deep.choose_lt each;refine⟨(List.range len0).map f,⟨some a,cap0,by simp,?_⟩,by simp;omega,fun i hi=>by rw[range_getD f len0 i [] (by simpa using hi)];exact (hf i (by simpa using hi)).2.2⟩;by_cases h0:len0=0
  · left;subst h0;rfl
  ·
   right;obtain⟨b,off,spot⟩:=a;have hc0:=(hf 0 (by omega)).1;have hspot:spot=none:=by simpa [Addr.add] using World.cell?_spot hc0
   subst hspot
   have hbl:b<w.heap.size:=by
    rw[plain_add] at hc0;exact block_lt hc0
   refine⟨b,off,rfl,hbl,fun i hi=>?_⟩;have hi':i<len0:=by simpa using hi
   rw[range_getD f len0 i [] hi'];obtain⟨q0,q1,_⟩:=hf i hi';rw[plain_add] at q0;exact⟨V i,q0,q1⟩
end
end
section
section
variable {H:Type} {enc:TypeId×Value→H} {w:World} {base:Nat} {held:Bool}
theorem open_num1 {n:Nat}{v:Value}{y:DataW H×List MemPlace}(h:DataW.trod enc Tryz.prog w base (fun _=>true) held n 25 [v]=some y):∃f:List Int,Rd w v f∧f.length≤maxLen:=by
 obtain⟨d,p⟩:=y;rcases open_ints Tryz.underlying25 Tryz.underlying2 (by kernel_rfl) h with ⟨hcs,_⟩|⟨x,l,c,zs,hcs,_,hl,hm,hz,_,hcell,hwz⟩
 ·
  simp at hcs;subst hcs;exact⟨[],⟨none,0,rfl,.inl rfl⟩,by simp⟩
 ·
  simp at hcs;subst hcs;obtain⟨f,hfl,hr⟩:=rd_of_row (w:=w) (a:=some x) (len:=l) (cap:=c) (ys:=zs) (.inr ⟨x,rfl,hl,hm,by simpa using hz,hcell,hwz⟩);exact⟨f,hr,by omega⟩
end
end
section
section
variable {H:Type} {enc:TypeId×Value→H} {w:World} {base:Nat} {held:Bool}
theorem open_tale {r:Reach}{b0:Nat}{v:Value}{d:DataW H}{p:List MemPlace}(hv:Value.okWide Tryz.prog w r b0 52 v)(h:DataW.Trod enc Tryz.prog w base (fun _=>true) held 52 v d p):
  ∃(vF vR:Value) (f rows:List Int),v = .agg #[vF,vR]∧Rd w vF f∧Rd w vR rows∧f.length≤maxLen∧rows.length≤maxLen:=by
 obtain⟨c0,c1,y0,y1,n,rfl,_,_,e0,e1⟩:=Joins.open_agg2 Tryz.underlying52 (by kernel_rfl) (by kernel_rfl) hv h;obtain⟨f,hf,lf⟩:=open_num1 e0;obtain⟨rows,hr,lr⟩:=open_num1 e1;exact⟨c0,c1,f,rows,rfl,hf,hr,lf,lr⟩
end
end
end Go.Proofs.YtgikcfdckddgpaaGreat
