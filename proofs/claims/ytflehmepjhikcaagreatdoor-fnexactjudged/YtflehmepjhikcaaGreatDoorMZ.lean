/- Gathered texts. -/
import Derived.Test.YtflehmepjhikcaaGreatDoorMG
import Derived.Deep.Slices
import Derived.Lib.SmallJoins
set_option maxRecDepth 100000
set_option maxHeartbeats 8000000
namespace Go.Proofs.YtflehmepjhikcaaGreatDoor
open Go.ChangeShapes Go.WideShapes Go.ChangeAt Go.RowKit
abbrev KDQ:=@DataW.trod_int
section
section
variable {H:Type} {enc:TypeId×Value->H} {w:World} {base:Nat} {held:Bool}
theorem Ug {fuel:Nat}{v:Value}{x:DataW H×List MemPlace}(h:DataW.trod enc Tryz.prog w base (fun _=>true) held fuel 70 [v]=some x):∃ds,Jg w v ds/\ds.length<=maxLen:=by
 have c4:Tryz.prog.cellsOf 120=4:=by kernel_rfl
 have c2:Tryz.prog.cellsOf 2=1:=by kernel_rfl
 rcases Deep.open_slice Tryz.underlying70 h with ⟨hcs,_⟩|⟨a,len,cap,m,n,D,Pl,hcs,hb,hl,hm,hmm,_,hx⟩
 ·
  simp only[KCP,KBX] at hcs;subst hcs;exact⟨[],⟨none,0,rfl,.inl rfl⟩,by simp⟩
 ·
  simp only[KCP,KBX] at hcs;subst hcs;have hlm:len<=m:=by rw[hmm];split<;>omega
  have each:∀i,i<len->∃d:Dd,w.cell? (a.add (i*4))=some (.int .i64 d.1)/\w.cell? (a.add (i*4+1))=some (.int .i64 d.2.1)/\w.cell? (a.add (i*4+2))=some (.int .i64 d.2.2.1)/\w.cell? (a.add (i*4+3))=some (.int .i64 d.2.2.2):=by
   intro i hi;obtain⟨cs',h1,h2⟩:=hx i (by omega);rw[c4] at h1;obtain⟨_,hlen,hcell⟩:=World.cells?_some h1;obtain⟨xs,k,hk,hxy,_,hxl,hf⟩:=DataW.trod_struct Tryz.underlying120 h2
   match xs,hxl,cs',hlen with
   | [y0,y1,y2,y3],_,[v0,v1,v2,v3],_=>
    have g0:=hf 0 _ rfl;have g1:=hf 1 _ rfl;have g2:=hf 2 _ rfl;have g3:=hf 3 _ rfl;simp[c2] at g0 g1 g2 g3;obtain⟨k0,e0,_,_⟩:=KDQ Tryz.underlying2 g0;obtain⟨k1,e1,_,_⟩:=KDQ Tryz.underlying2 g1;obtain⟨k2,e2,_,_⟩:=KDQ Tryz.underlying2 g2;obtain⟨k3,e3,_,_⟩:=KDQ Tryz.underlying2 g3;simp only[KCP,KBX] at e0 e1 e2 e3;subst e0 e1 e2 e3;have f0:=hcell 0 (by omega);have f1:=hcell 1 (by omega);have f2:=hcell 2 (by omega);have f3:=hcell 3 (by omega);rw[Deep.add_add] at f0 f1 f2 f3;exact⟨(k0,k1,k2,k3),by simpa using f0,by simpa using f1,by simpa using f2,by simpa using f3⟩
  obtain⟨f,hf⟩:=Deep.choose_lt each;refine⟨(List.range len).map f,⟨some a,cap-len,by simp;omega,?_⟩,by simp;omega⟩;by_cases h0:len=0
  . left;subst h0;rfl
  ·
   right;obtain⟨b,off,spot⟩:=a;have hc0:=(hf 0 (by omega)).1;have hspot:spot=none:=by simpa [Addr.add] using KDC hc0
   subst hspot
   have hbl:b<w.heap.size:=by
    rw[A7] at hc0;exact R9 hc0
   refine⟨b,off,rfl,hbl,fun i hi=>?_⟩;have hi':i<len:=by simpa using hi
   rw[Jv f len i zD hi'];obtain⟨q0,q1,q2,q3⟩:=hf i hi';rw[A7] at q0 q1 q2 q3;exact⟨q0,q1,q2,q3⟩
theorem Xz {r:Reach}{b0:Nat}{v:Value}{d:DataW H}{p:List MemPlace}(hv:Value.okWide Tryz.prog w r b0 38 v)(h:DataW.Trod enc Tryz.prog w base (fun _=>true) held 38 v d p):∃AA,Fw w v AA/\AA.length<=maxLen/\∀i,i<AA.length->(AA.getD i []).length<=maxLen:=by
 obtain⟨a0,len0,cap0,rfl⟩:=okWide_slice Tryz.underlying38 hv;obtain⟨fuel,hf⟩:=h;rcases Deep.open_slice1 Tryz.underlying38 (by kernel_rfl) hf with ⟨hcs,_⟩|⟨a,len,cap,m,n,V,D,Pl,hcs,hb,hl,hm,hmm,_,hx⟩
 ·
  simp[Value.cells] at hcs;obtain⟨rfl,rfl,rfl⟩:=hcs;exact⟨[],⟨none,0,rfl,.inl rfl⟩,by simp,by simp⟩
 ·
  simp[Value.cells] at hcs;obtain⟨rfl,rfl,rfl⟩:=hcs;have hlm:len0<=m:=by rw[hmm];split<;>omega
  have each:∀i,i<len0->∃ds:List Dd,w.cell? (a.add i)=some (V i)/\Jg w (V i) ds/\ds.length<=maxLen:=by
   intro i hi;obtain⟨h1,h2⟩:=hx i (by omega);obtain⟨ds,h3,h4⟩:=Ug h2;exact⟨ds,h1,h3,h4⟩
  obtain⟨f,hf⟩:=Deep.choose_lt each;refine⟨(List.range len0).map f,⟨some a,cap0,by simp,?_⟩,by simp;omega,fun i hi=>by rw[Jv f len0 i [] (by simpa using hi)];exact (hf i (by simpa using hi)).2.2⟩;by_cases h0:len0=0
  . left;subst h0;rfl
  ·
   right;obtain⟨b,off,spot⟩:=a;have hc0:=(hf 0 (by omega)).1;have hspot:spot=none:=by simpa [Addr.add] using KDC hc0
   subst hspot
   have hbl:b<w.heap.size:=by
    rw[A7] at hc0;exact R9 hc0
   refine⟨b,off,rfl,hbl,fun i hi=>?_⟩;have hi':i<len0:=by simpa using hi
   rw[Jv f len0 i [] hi'];obtain⟨q0,q1,_⟩:=hf i hi';rw[A7] at q0;exact⟨V i,q0,q1⟩
end
end
end Go.Proofs.YtflehmepjhikcaaGreatDoor
