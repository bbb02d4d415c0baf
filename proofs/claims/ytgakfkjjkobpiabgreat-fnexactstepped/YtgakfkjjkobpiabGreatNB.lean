/- Gathered texts. -/
import Derived.Test.YtgakfkjjkobpiabGreatNA
import Derived.Test.YtgakfkjjkobpiabGreatMM
set_option maxRecDepth 100000
set_option maxHeartbeats 8000000
namespace Go.Proofs.YtgakfkjjkobpiabGreat
open Go.ChangeShapes Go.WideShapes Go.ChangeAt Go.RowKit
section
section
variable {H:Type} {enc:TypeId×Value→H} {w:World} {base:Nat} {held:Bool}
theorem open_notes1 {fuel:Nat}{v:Value}{x:DataW H×List MemPlace}(h:DataW.trod enc Tryz.prog w base (fun _=>true) held fuel 79 [v]=some x):∃ns,RdN w v ns∧ns.length≤maxLen:=by
 have c4:Tryz.prog.cellsOf 111=3:=by kernel_rfl
 have c2:Tryz.prog.cellsOf 2=1:=by kernel_rfl
 rcases Deep.open_slice Tryz.underlying79 h with ⟨hcs,_⟩|⟨a,len,cap,m,n,D,Pl,hcs,hb,hl,hm,hmm,_,hx⟩
 ·
  simp only[List.cons.injEq,and_true] at hcs;subst hcs;exact⟨[],⟨none,0,rfl,.inl rfl⟩,by simp⟩
 ·
  simp only[List.cons.injEq,and_true] at hcs;subst hcs;have hlm:len≤m:=by rw[hmm];split<;>omega
  have each:∀i,i<len→∃d:Nt,w.cell? (a.add (i*3))=some (.int .i64 d.1)∧w.cell? (a.add (i*3+1))=some (.int .i64 d.2.1)∧w.cell? (a.add (i*3+2))=some (.int .i64 d.2.2):=by
   intro i hi;obtain⟨cs',h1,h2⟩:=hx i (by omega);rw[c4] at h1;obtain⟨_,hlen,hcell⟩:=World.cells?_some h1;obtain⟨xs,k,hk,hxy,_,hxl,hf⟩:=DataW.trod_struct Tryz.underlying111 h2
   match xs,hxl,cs',hlen with
   | [y0,y1,y2],_,[v0,v1,v2],_=>
    have g0:=hf 0 _ rfl;have g1:=hf 1 _ rfl;have g2:=hf 2 _ rfl;simp[c2] at g0 g1 g2;obtain⟨k0,e0,_,_⟩:=DataW.trod_int Tryz.underlying2 g0;obtain⟨k1,e1,_,_⟩:=DataW.trod_int Tryz.underlying2 g1;obtain⟨k2,e2,_,_⟩:=DataW.trod_int Tryz.underlying2 g2;simp only[List.cons.injEq,and_true] at e0 e1 e2;subst e0 e1 e2;have f0:=hcell 0 (by omega);have f1:=hcell 1 (by omega);have f2:=hcell 2 (by omega);rw[Deep.add_add] at f0 f1 f2;exact⟨(k0,k1,k2),by simpa using f0,by simpa using f1,by simpa using f2⟩
  obtain⟨f,hf⟩:=Deep.choose_lt each;refine⟨(List.range len).map f,⟨some a,cap-len,by simp;omega,?_⟩,by simp;omega⟩;by_cases h0:len=0
  · left;subst h0;rfl
  ·
   right;obtain⟨b,off,spot⟩:=a;have hc0:=(hf 0 (by omega)).1;have hspot:spot=none:=by simpa [Addr.add] using World.cell?_spot hc0
   subst hspot
   have hbl:b<w.heap.size:=by
    rw[plain_add] at hc0;exact block_lt hc0
   refine⟨b,off,rfl,hbl,fun i x hix=>?_⟩;have hi':i<len:=by have:=(List.getElem?_eq_some_iff.1 hix).1;simpa using this
   rw[List.getElem?_map,List.getElem?_range hi'] at hix;simp only[Option.map_some,Option.some.injEq] at hix;subst hix;obtain⟨q0,q1,q2⟩:=hf i hi';rw[plain_add] at q0 q1 q2;exact atN_mk q0 q1 q2
theorem open_notess {fuel:Nat}{v:Value}{x:DataW H×List MemPlace}(h:DataW.trod enc Tryz.prog w base (fun _=>true) held fuel 24 [v]=some x):∃nss,RdNN w v nss∧nss.length≤maxLen∧∀i,i<nss.length→(nss.getD i []).length≤maxLen:=by
 rcases Deep.open_slice1 Tryz.underlying24 (by kernel_rfl) h with ⟨hcs,_⟩|⟨a,len,cap,m,n,V,D,Pl,hcs,hb,hl,hm,hmm,_,hx⟩
 ·
  simp at hcs;subst hcs;exact⟨[],⟨none,0,rfl,.inl rfl⟩,by simp,by simp⟩
 ·
  simp at hcs;subst hcs;have hlm:len≤m:=by rw[hmm];split<;>omega
  have each:∀i,i<len→∃ds:List Nt,w.cell? (a.add i)=some (V i)∧RdN w (V i) ds∧ds.length≤maxLen:=by
   intro i hi;obtain⟨h1,h2⟩:=hx i (by omega);obtain⟨ds,h3,h4⟩:=open_notes1 h2;exact⟨ds,h1,h3,h4⟩
  obtain⟨f,hf⟩:=Deep.choose_lt each;refine⟨(List.range len).map f,⟨some a,cap,by simp,?_⟩,by simp;omega,fun i hi=>by rw[range_getD f len i [] (by simpa using hi)];exact (hf i (by simpa using hi)).2.2⟩;by_cases h0:len=0
  · left;subst h0;rfl
  ·
   right;obtain⟨b,off,spot⟩:=a;have hc0:=(hf 0 (by omega)).1;have hspot:spot=none:=by simpa [Addr.add] using World.cell?_spot hc0
   subst hspot
   have hbl:b<w.heap.size:=by
    rw[plain_add] at hc0;exact block_lt hc0
   refine⟨b,off,rfl,hbl,fun i hi=>?_⟩;have hi':i<len:=by simpa using hi
   rw[range_getD f len i [] hi'];obtain⟨q0,q1,_⟩:=hf i hi';rw[plain_add] at q0;exact⟨V i,q0,q1⟩
theorem open_numss {fuel:Nat}{v:Value}{x:DataW H×List MemPlace}(h:DataW.trod enc Tryz.prog w base (fun _=>true) held fuel 25 [v]=some x):∃zss,RdL w v zss∧zss.length≤maxLen∧∀i,i<zss.length→(zss.getD i []).length≤maxLen:=by
 rcases Deep.open_slice1 Tryz.underlying25 (by kernel_rfl) h with ⟨hcs,_⟩|⟨a,len,cap,m,n,V,D,Pl,hcs,hb,hl,hm,hmm,_,hx⟩
 ·
  simp at hcs;subst hcs;exact⟨[],⟨none,0,rfl,.inl rfl⟩,by simp,by simp⟩
 ·
  simp at hcs;subst hcs;have hlm:len≤m:=by rw[hmm];split<;>omega
  have each:∀i,i<len→∃ds:List Int,w.cell? (a.add i)=some (V i)∧Rd w (V i) ds∧ds.length≤maxLen:=by
   intro i hi;obtain⟨h1,h2⟩:=hx i (by omega);obtain⟨ds,h3,h4⟩:=open_num1 h2;exact⟨ds,h1,h3,h4⟩
  obtain⟨f,hf⟩:=Deep.choose_lt each;refine⟨(List.range len).map f,⟨some a,cap,by simp,?_⟩,by simp;omega,fun i hi=>by rw[range_getD f len i [] (by simpa using hi)];exact (hf i (by simpa using hi)).2.2⟩;by_cases h0:len=0
  · left;subst h0;rfl
  ·
   right;obtain⟨b,off,spot⟩:=a;have hc0:=(hf 0 (by omega)).1;have hspot:spot=none:=by simpa [Addr.add] using World.cell?_spot hc0
   subst hspot
   have hbl:b<w.heap.size:=by
    rw[plain_add] at hc0;exact block_lt hc0
   refine⟨b,off,rfl,hbl,fun i hi=>?_⟩;have hi':i<len:=by simpa using hi
   rw[range_getD f len i [] hi'];obtain⟨q0,q1,_⟩:=hf i hi';rw[plain_add] at q0;exact⟨V i,q0,q1⟩
theorem open_work1 {fuel:Nat}{v:Value}{x:DataW H×List MemPlace}(h:DataW.trod enc Tryz.prog w base (fun _=>true) held fuel 22 [v]=some x):∃dss,RdW w v dss∧dss.length≤maxLen∧∀i,i<dss.length→(dss.getD i []).length≤maxLen:=by
 rcases Deep.open_slice1 Tryz.underlying22 (by kernel_rfl) h with ⟨hcs,_⟩|⟨a,len,cap,m,n,V,D,Pl,hcs,hb,hl,hm,hmm,_,hx⟩
 ·
  simp at hcs;subst hcs;exact⟨[],⟨none,0,rfl,.inl rfl⟩,by simp,by simp⟩
 ·
  simp at hcs;subst hcs;have hlm:len≤m:=by rw[hmm];split<;>omega
  have each:∀i,i<len→∃ds:List Dd,w.cell? (a.add i)=some (V i)∧RdD w (V i) ds∧ds.length≤maxLen:=by
   intro i hi;obtain⟨h1,h2⟩:=hx i (by omega);obtain⟨ds,h3,h4⟩:=open_deeds h2;exact⟨ds,h1,h3,h4⟩
  obtain⟨f,hf⟩:=Deep.choose_lt each;refine⟨(List.range len).map f,⟨some a,cap,by simp,?_⟩,by simp;omega,fun i hi=>by rw[range_getD f len i [] (by simpa using hi)];exact (hf i (by simpa using hi)).2.2⟩;by_cases h0:len=0
  · left;subst h0;rfl
  ·
   right;obtain⟨b,off,spot⟩:=a;have hc0:=(hf 0 (by omega)).1;have hspot:spot=none:=by simpa [Addr.add] using World.cell?_spot hc0
   subst hspot
   have hbl:b<w.heap.size:=by
    rw[plain_add] at hc0;exact block_lt hc0
   refine⟨b,off,rfl,hbl,fun i hi=>?_⟩;have hi':i<len:=by simpa using hi
   rw[range_getD f len i [] hi'];obtain⟨q0,q1,_⟩:=hf i hi';rw[plain_add] at q0;exact⟨V i,q0,q1⟩
structure TopBd (dss:List (List Dd))(b:Bd):Prop where
 w1:dss.length≤maxLen
 w2:∀i,i<dss.length→(dss.getD i []).length≤maxLen
 plc:b.plc.length≤maxLen
 lst:b.lst.length≤maxLen
 n1:b.nts.length≤maxLen
 n2:∀i,i<b.nts.length→(b.nts.getD i []).length≤maxLen
 nxt:b.nxt.length≤maxLen
 sn:b.sn.length≤maxLen
 fr:b.fr.length≤maxLen
 r1:b.rws.length≤maxLen
 r2:∀i,i<b.rws.length→(b.rws.getD i []).length≤maxLen
theorem array8 {α:Type}{cs:Array α}(h:cs.size=8):∃c0 c1 c2 c3 c4 c5 c6 c7,cs=#[c0,c1,c2,c3,c4,c5,c6,c7]:=by
 obtain⟨l⟩:=cs
 match l,h with
 | [c0,c1,c2,c3,c4,c5,c6,c7],_=>exact⟨c0,c1,c2,c3,c4,c5,c6,c7,rfl⟩
theorem open_board {r:Reach}{b0:Nat}{v:Value}{d:DataW H}{p:List MemPlace}(hv:Value.okWide Tryz.prog w r b0 27 v)(h:DataW.Trod enc Tryz.prog w base (fun _=>true) held 27 v d p):
  ∃(bv:BV) (dss:List (List Dd)) (b:Bd),v=bv.agg∧RdBd w bv dss b∧TopBd dss b:=by
 have k1:Tryz.prog.cellsOf 22=1:=by kernel_rfl
 have k2:Tryz.prog.cellsOf 23=1:=by kernel_rfl
 have k3:Tryz.prog.cellsOf 24=1:=by kernel_rfl
 have k4:Tryz.prog.cellsOf 25=1:=by kernel_rfl
 obtain⟨cs,rfl,hsz⟩:=okWide_struct Tryz.underlying27 hv;obtain⟨c0,c1,c2,c3,c4,c5,c6,c7,rfl⟩:=array8 (hsz.trans (by kernel_rfl));obtain⟨fuel,hf⟩:=h;obtain⟨xs,n,_,_,_,hlen,hf⟩:=DataW.trod_struct Tryz.underlying27 hf
 match xs,hlen with
 | [y0,y1,y2,y3,y4,y5,y6,y7],_=>
  have g0:=hf 0 _ rfl;have g1:=hf 1 _ rfl;have g2:=hf 2 _ rfl;have g3:=hf 3 _ rfl;have g4:=hf 4 _ rfl;have g5:=hf 5 _ rfl;have g6:=hf 6 _ rfl;have g7:=hf 7 _ rfl;simp[k1,k2,k3,k4,Value.cells] at g0 g1 g2 g3 g4 g5 g6 g7;obtain⟨dss,h0,t0,u0⟩:=open_work1 g0;obtain⟨z1,h1,t1⟩:=open_num1 g1;obtain⟨z2,h2,t2⟩:=open_num1 g2;obtain⟨z3,h3,t3,u3⟩:=open_notess g3;obtain⟨z4,h4,t4⟩:=open_num1 g4;obtain⟨z5,h5,t5⟩:=open_num1 g5;obtain⟨z6,h6,t6⟩:=open_num1 g6;obtain⟨z7,h7,t7,u7⟩:=open_numss g7;exact⟨⟨c0,c1,c2,c3,c4,c5,c6,c7⟩,dss,⟨z1,z2,z3,z4,z5,z6,z7⟩,rfl,⟨h0,h1,h2,h3,h4,h5,h6,h7⟩,⟨t0,u0,t1,t2,t3,u3,t4,t5,t6,t7,u7⟩⟩
end
end
theorem sz_step (dss:List (List Dd))(b:Bd)(s:Int):SzBd (stpD dss b) (stpB dss b s)∧SumBd (stpD dss b) (stpB dss b s):=by
 unfold stpD stpB stepB
 cases hb:boardB dss b with
 |false=>rw[if_neg (by simp),if_neg (by simp)];exact⟨sz_zero,by simp[SumBd,lenW,lenG]⟩
 |true=>
  rw[if_pos rfl,if_pos rfl];split
  ·
   rename_i hs;exact ((RB.any hb).anyStep hs).sz (by omega) (by omega)
  · exact (RB.any hb).sz (by omega) (by omega)
end Go.Proofs.YtgakfkjjkobpiabGreat
