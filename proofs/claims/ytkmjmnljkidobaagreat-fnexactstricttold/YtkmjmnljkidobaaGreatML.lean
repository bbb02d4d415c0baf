/- Gathered texts. -/
import Derived.Test.YtkmjmnljkidobaaGreatRows
import Derived.OpenShut
import Derived.Deep.Slices
import Derived.Lib.SmallJoins
import Derived.Outline
import Derived.OwnWalk
import Derived.Lib.Hide
import Derived.BigRegion
import Derived.Test.YtkmjmnljkidobaaGreatMH
import Derived.Maps.AppendAt
import Derived.Laws.OwnMore
import Derived.Laws.Tables
import Derived.RegionTactic
import Derived.Deep.QuietTactic
import Derived.BigQuiet
set_option maxRecDepth 100000
set_option maxHeartbeats 8000000
namespace Go.Proofs.YtkmjmnljkidobaaGreat
open Go.ChangeShapes Go.WideShapes Go.ChangeAt Go.RowKit
open Go.RowKit
theorem l1In_any (x lo hi:Int)(w:World):
  Calls Tryz.prog 43 #[.int .i64 x,.int .i64 lo,.int .i64 hi] w fun e w'=>e = .returned (.bool (inB x lo hi))∧w'=w:=by
 go_enter Tryz.func43,Tryz.ntmps43
 go_wp2
 all_goals
  go_ret;exact⟨ret_bool (by rw[Bool.eq_iff_iff];unfold inB;simp;omega),rfl⟩
abbrev deedV (k p v g:Int):Value:= .agg #[.int .i64 k,.int .i64 p,.int .i64 v,.int .i64 g]
theorem specDeedOk_any (k p v g:Int)(w:World):
  Calls Tryz.prog 44 #[deedV k p v g] w fun e w'=>e = .returned (.bool (deedB k p v g))∧Keep w w':=by
 unfold deedV;go_enter Tryz.func44,Tryz.ntmps44
 go_wp2_with (go_at_call 43;refine (l1In_any _ _ _ _).mono ?_;rintro e w' ⟨rfl,rfl⟩)
 all_goals
  go_ret;refine⟨ret_bool ?_,(Keep.refl w).alloc _⟩;simp[inB] at *;rw[Bool.eq_iff_iff];simp[deedB];omega
abbrev dV (d:Dd):Value:=deedV d.1 d.2.1 d.2.2.1 d.2.2.2
def AtD (w:World)(b o:Nat)(d:Dd):Prop:=
 w.cell? ⟨b,o,none⟩=some (.int .i64 d.1)∧w.cell? ⟨b,o+1,none⟩=some (.int .i64 d.2.1)∧w.cell? ⟨b,o+2,none⟩=some (.int .i64 d.2.2.1)∧w.cell? ⟨b,o+3,none⟩=some (.int .i64 d.2.2.2)
def RdD (w:World)(v:Value)(ds:List Dd):Prop:=
 ∃(a:Option Addr) (cap:Nat),v = .slice a ds.length (ds.length+cap) ∧
  (ds=[]∨∃b off,a=some ⟨b,off,none⟩∧b<w.heap.size∧∀i,i<ds.length→AtD w b (off+i*4) (ds.getD i zD))
def RdW (w:World)(v:Value)(dss:List (List Dd)):Prop:=
 ∃(a:Option Addr) (cap:Nat),v = .slice a dss.length cap ∧
  (dss=[]∨∃b off,a=some ⟨b,off,none⟩∧b<w.heap.size∧∀i,i<dss.length→∃vi,w.cell? ⟨b,off+i,none⟩=some vi∧RdD w vi (dss.getD i []))
theorem AtD.keep {w w':World}{b o:Nat}{d:Dd}(h:AtD w b o d)(hb:b<w.heap.size)(k:Keep w w'):AtD w' b o d:=
 ⟨(k.cell hb).trans h.1,(k.cell hb).trans h.2.1,(k.cell hb).trans h.2.2.1,(k.cell hb).trans h.2.2.2⟩
theorem RdD.keep {w w':World}{v:Value}{ds:List Dd}(h:RdD w v ds)(k:Keep w w'):RdD w' v ds:=by
 obtain⟨a,cap,hv,h⟩:=h;refine⟨a,cap,hv,?_⟩;rcases h with h|⟨b,off,ha,hb,hc⟩
 · exact .inl h
 · exact .inr ⟨b,off,ha,Nat.lt_of_lt_of_le hb k.size,fun i hi=>(hc i hi).keep hb k⟩
theorem RdW.keep {w w':World}{v:Value}{dss:List (List Dd)}(h:RdW w v dss)(k:Keep w w'):RdW w' v dss:=by
 obtain⟨a,cap,hv,h⟩:=h;refine⟨a,cap,hv,?_⟩;rcases h with h|⟨b,off,ha,hb,hc⟩
 · exact .inl h
 ·
  refine .inr ⟨b,off,ha,Nat.lt_of_lt_of_le hb k.size,fun i hi=>?_⟩;obtain⟨vi,h1,h2⟩:=hc i hi;exact⟨vi,(k.cell hb).trans h1,h2.keep k⟩
theorem Keep.set {w wr:World}(h:Keep w wr){g:Nat}(hg:w.heap.size≤g)(i:Nat)(x:Value):Keep w (wr.setCell ⟨g,i,none⟩ x):=
 h.grown (row:=some g) ⟨rfl,rfl,rfl,by simp,fun k _ hk=>heap_setCell_other wr ⟨g,i,none⟩ k x (fun e=>hk (by simp[e]))⟩ (fun k hk=>by simp at hk;omega)
section
section
variable {H:Type} {enc:TypeId×Value→H} {w:World} {base:Nat} {held:Bool}
theorem open_deeds {fuel:Nat}{v:Value}{x:DataW H×List MemPlace}(h:DataW.trod enc Tryz.prog w base (fun _=>true) held fuel 69 [v]=some x):∃ds,RdD w v ds∧ds.length≤maxLen:=by
 have c4:Tryz.prog.cellsOf 143=4:=by kernel_rfl
 have c2:Tryz.prog.cellsOf 2=1:=by kernel_rfl
 rcases Deep.open_slice Tryz.underlying69 h with ⟨hcs,_⟩|⟨a,len,cap,m,n,D,Pl,hcs,hb,hl,hm,hmm,_,hx⟩
 ·
  simp only[List.cons.injEq,and_true] at hcs;subst hcs;exact⟨[],⟨none,0,rfl,.inl rfl⟩,by simp⟩
 ·
  simp only[List.cons.injEq,and_true] at hcs;subst hcs;have hlm:len≤m:=by rw[hmm];split<;>omega
  have each:∀i,i<len→∃d:Dd,w.cell? (a.add (i*4))=some (.int .i64 d.1)∧w.cell? (a.add (i*4+1))=some (.int .i64 d.2.1)∧w.cell? (a.add (i*4+2))=some (.int .i64 d.2.2.1)∧w.cell? (a.add (i*4+3))=some (.int .i64 d.2.2.2):=by
   intro i hi;obtain⟨cs',h1,h2⟩:=hx i (by omega);rw[c4] at h1;obtain⟨_,hlen,hcell⟩:=World.cells?_some h1;obtain⟨xs,k,hk,hxy,_,hxl,hf⟩:=DataW.trod_struct Tryz.underlying143 h2
   match xs,hxl,cs',hlen with
   | [y0,y1,y2,y3],_,[v0,v1,v2,v3],_=>
    have g0:=hf 0 _ rfl;have g1:=hf 1 _ rfl;have g2:=hf 2 _ rfl;have g3:=hf 3 _ rfl;simp[c2] at g0 g1 g2 g3;obtain⟨k0,e0,_,_⟩:=DataW.trod_int Tryz.underlying2 g0;obtain⟨k1,e1,_,_⟩:=DataW.trod_int Tryz.underlying2 g1;obtain⟨k2,e2,_,_⟩:=DataW.trod_int Tryz.underlying2 g2;obtain⟨k3,e3,_,_⟩:=DataW.trod_int Tryz.underlying2 g3;simp only[List.cons.injEq,and_true] at e0 e1 e2 e3;subst e0 e1 e2 e3;have f0:=hcell 0 (by omega);have f1:=hcell 1 (by omega);have f2:=hcell 2 (by omega);have f3:=hcell 3 (by omega);rw[Deep.add_add] at f0 f1 f2 f3;exact⟨(k0,k1,k2,k3),by simpa using f0,by simpa using f1,by simpa using f2,by simpa using f3⟩
  obtain⟨f,hf⟩:=Deep.choose_lt each;refine⟨(List.range len).map f,⟨some a,cap-len,by simp;omega,?_⟩,by simp;omega⟩;by_cases h0:len=0
  · left;subst h0;rfl
  ·
   right;obtain⟨b,off,spot⟩:=a;have hc0:=(hf 0 (by omega)).1;have hspot:spot=none:=by simpa [Addr.add] using World.cell?_spot hc0
   subst hspot
   have hbl:b<w.heap.size:=by
    rw[plain_add] at hc0;exact block_lt hc0
   refine⟨b,off,rfl,hbl,fun i hi=>?_⟩;have hi':i<len:=by simpa using hi
   rw[range_getD f len i zD hi'];obtain⟨q0,q1,q2,q3⟩:=hf i hi';rw[plain_add] at q0 q1 q2 q3;exact⟨q0,q1,q2,q3⟩
theorem open_work {r:Reach}{b0:Nat}{v:Value}{d:DataW H}{p:List MemPlace}(hv:Value.okWide Tryz.prog w r b0 30 v)(h:DataW.Trod enc Tryz.prog w base (fun _=>true) held 30 v d p):∃dss,RdW w v dss∧dss.length≤maxLen∧∀i,i<dss.length→(dss.getD i []).length≤maxLen:=by
 obtain⟨a0,len0,cap0,rfl⟩:=okWide_slice Tryz.underlying30 hv;obtain⟨fuel,hf⟩:=h;rcases Deep.open_slice1 Tryz.underlying30 (by kernel_rfl) hf with ⟨hcs,_⟩|⟨a,len,cap,m,n,V,D,Pl,hcs,hb,hl,hm,hmm,_,hx⟩
 ·
  simp[Value.cells] at hcs;obtain⟨rfl,rfl,rfl⟩:=hcs;exact⟨[],⟨none,0,rfl,.inl rfl⟩,by simp,by simp⟩
 ·
  simp[Value.cells] at hcs;obtain⟨rfl,rfl,rfl⟩:=hcs;have hlm:len0≤m:=by rw[hmm];split<;>omega
  have each:∀i,i<len0→∃ds:List Dd,w.cell? (a.add i)=some (V i)∧RdD w (V i) ds∧ds.length≤maxLen:=by
   intro i hi;obtain⟨h1,h2⟩:=hx i (by omega);obtain⟨ds,h3,h4⟩:=open_deeds h2;exact⟨ds,h1,h3,h4⟩
  obtain⟨f,hf⟩:=Deep.choose_lt each;refine⟨(List.range len0).map f,⟨some a,cap0,by simp,?_⟩,by simp;omega,fun i hi=>by rw[range_getD f len0 i [] (by simpa using hi)];exact (hf i (by simpa using hi)).2.2⟩;by_cases h0:len0=0
  · left;subst h0;rfl
  ·
   right;obtain⟨b,off,spot⟩:=a;have hc0:=(hf 0 (by omega)).1;have hspot:spot=none:=by simpa [Addr.add] using World.cell?_spot hc0
   subst hspot
   have hbl:b<w.heap.size:=by
    rw[plain_add] at hc0;exact block_lt hc0
   refine⟨b,off,rfl,hbl,fun i hi=>?_⟩;have hi':i<len0:=by simpa using hi
   rw[range_getD f len0 i [] hi'];obtain⟨q0,q1,_⟩:=hf i hi';rw[plain_add] at q0;exact⟨V i,q0,q1⟩
end
end
theorem Tryz.infoD:(Tryz.prog.info? 64).map (fun i=>(i.zero,i.size,i.bytes))=some (some (.agg #[.int .i64 0,.int .i64 0,.int .i64 0,.int .i64 0]),4,32):=by kernel_rfl
def Blk (w:World)(g n:Nat):Prop:=∃cur t,w.heap[g]? = some (.cells cur t (0,0))∧n≤cur.size
theorem Blk.free {w:World}{g n:Nat}(h:Blk w g n)(i:Nat):w.frozen? ⟨g,i,none⟩=false:=by
 obtain⟨cur,t,h,_⟩:=h;exact frozen_of_row w g i cur t h
theorem Blk.cell {w:World}{g n:Nat}(h:Blk w g n){i:Nat}(hi:i<n):∃u,w.cell? ⟨g,i,none⟩=some u:=by
 obtain⟨cur,t,h,hn⟩:=h;exact⟨cur[i]'(by omega),by rw[cell_of_row w g i cur t (0,0) h,Array.getElem?_eq_getElem (by omega)]⟩
theorem Blk.lt {w:World}{g n:Nat}(h:Blk w g n):g<w.heap.size:=by
 obtain⟨cur,t,h,_⟩:=h;exact (Array.getElem?_eq_some_iff.1 h).1
theorem Blk.set {w:World}{g n:Nat}(h:Blk w g n)(i:Nat)(x:Value):Blk (w.setCell ⟨g,i,none⟩ x) g n:=by
 obtain⟨cur,t,h,hn⟩:=h;exact⟨cur.setIfInBounds i x,t,heap_setCell_same w g i cur t x h,by simpa using hn⟩
theorem Blk.kept {w w':World}{g n:Nat}{row:Option Nat}(h:Blk w g n)(hg:w.grownBy w' row)(hne:row≠some g):Blk w' g n:=by
 have hl:=h.lt;obtain⟨cur,t,h,hn⟩:=h;exact⟨cur,t,(hg.block g hl (fun e=>hne e.symm)).trans h,hn⟩
def OwnD (w:World)(base:Nat)(v:Value)(ds:List Dd):Prop:=
 ∃(a:Option Addr) (cap:Nat),v = .slice a ds.length (ds.length+cap)∧(ds=[]∨∃g,a=some ⟨g,0,none⟩∧base≤g∧Blk w g (ds.length*4)∧∀i,i<ds.length→AtD w g (i*4) (ds.getD i zD))
theorem OwnD.rd {w:World}{base:Nat}{v:Value}{ds:List Dd}(h:OwnD w base v ds):RdD w v ds:=by
 obtain⟨a,cap,hv,h⟩:=h;refine⟨a,cap,hv,?_⟩;rcases h with h|⟨g,ha,_,hb,hc⟩
 · exact .inl h
 · exact .inr ⟨g,0,ha,hb.lt,fun i hi=>by rw[Nat.zero_add];exact hc i hi⟩
theorem putD {w:World}{g o:Nat}{d:Dd}{b' o':Nat}{d':Dd}(h:AtD w b' o' d')(hne:b'≠g∨o'+4≤o∨o+4≤o'):
  AtD ((((w.setCell ⟨g,o,none⟩ (.int .i64 d.1)).setCell ⟨g,o+1,none⟩ (.int .i64 d.2.1)).setCell ⟨g,o+2,none⟩ (.int .i64 d.2.2.1)).setCell ⟨g,o+3,none⟩ (.int .i64 d.2.2.2)) b' o' d':=by
 have key:∀(w:World) (j:Nat) (x:Value) (q:Nat),q<o'+4→o'≤q→o≤j→j<o+4→(w.setCell ⟨g,j,none⟩ x).cell? ⟨b',q,none⟩=w.cell? ⟨b',q,none⟩:=by
  intro w j x q h1 h2 h3 h4;refine World.cell?_setCell_other _ _ _ _ (fun e=>?_);have e1:g=b'∧j=q:=by simpa using e
  omega
 unfold AtD at *;refine⟨?_,?_,?_,?_⟩
 all_goals
  rw[key _ _ _ _ (by omega) (by omega) (by omega) (by omega),key _ _ _ _ (by omega) (by omega) (by omega) (by omega),key _ _ _ _ (by omega) (by omega) (by omega) (by omega),key _ _ _ _ (by omega) (by omega) (by omega) (by omega)]
 · exact h.1
 · exact h.2.1
 · exact h.2.2.1
 · exact h.2.2.2
theorem putD_same {w:World}{g o n:Nat}{d:Dd}(hb:Blk w g n)(ho:o+4≤n):
  AtD ((((w.setCell ⟨g,o,none⟩ (.int .i64 d.1)).setCell ⟨g,o+1,none⟩ (.int .i64 d.2.1)).setCell ⟨g,o+2,none⟩ (.int .i64 d.2.2.1)).setCell ⟨g,o+3,none⟩ (.int .i64 d.2.2.2)) g o d:=by
 have oth:∀(w:World) (j q:Nat) (x:Value),j≠q→(w.setCell ⟨g,j,none⟩ x).cell? ⟨g,q,none⟩=w.cell? ⟨g,q,none⟩:=by
  intro w j q x h;exact World.cell?_setCell_other _ _ _ _ (by intro e;apply h;injection e)
 have h1:=hb.set o (.int .i64 d.1);have h2:=h1.set (o+1) (.int .i64 d.2.1);have h3:=h2.set (o+2) (.int .i64 d.2.2.1);obtain⟨u0,e0⟩:=hb.cell (show o<n by omega);obtain⟨u1,e1⟩:=h1.cell (show o+1<n by omega);obtain⟨u2,e2⟩:=h2.cell (show o+2<n by omega);obtain⟨u3,e3⟩:=h3.cell (show o+3<n by omega);refine⟨?_,?_,?_,?_⟩
 · rw[oth _ _ _ _ (by omega),oth _ _ _ _ (by omega),oth _ _ _ _ (by omega),World.cell?_setCell_same _ _ _ e0]
 · rw[oth _ _ _ _ (by omega),oth _ _ _ _ (by omega),World.cell?_setCell_same _ _ _ e1]
 · rw[oth _ _ _ _ (by omega),World.cell?_setCell_same _ _ _ e2]
 · rw[World.cell?_setCell_same _ _ _ e3]
theorem Blk.ofOwn {w:World}{base e size g n:Nat}{xs:List Value}(h:w.ownsRow base e size (.slice (some ⟨g,0,none⟩) n n) n xs):Blk w g (n*size):=by
 rcases h.2 with ⟨hv,_⟩|⟨g',cap,cur,hv,_,hg,_,_,hs,_⟩
 · cases hv
 ·
  simp only[Value.slice.injEq,Option.some.injEq,Addr.mk.injEq,and_true,true_and] at hv;obtain⟨rfl,rfl⟩:=hv;exact⟨cur,e,hg,by rw[hs];exact Nat.le_refl _⟩
theorem OwnD.keep {w w':World}{base:Nat}{v:Value}{ds:List Dd}(h:OwnD w base v ds)(k:Keep w w'):OwnD w' base v ds:=by
 obtain⟨a,cap,hv,h⟩:=h;refine⟨a,cap,hv,?_⟩;rcases h with h|⟨g,ha,hb,hB,hc⟩
 · exact .inl h
 · exact .inr ⟨g,ha,hb,hB.kept k.grownBy (by simp),fun i hi=>(hc i hi).keep hB.lt k⟩
theorem OwnD.kept {w w':World}{base:Nat}{v:Value}{ds:List Dd}{row:Option Nat}(h:OwnD w base v ds)(hg:w.grownBy w' row)(hne:ds=[]∨v.ownBlock≠row):OwnD w' base v ds:=by
 obtain⟨a,cap,rfl,h⟩:=h;refine⟨a,cap,rfl,?_⟩;rcases h with h|⟨g,rfl,hb,hB,hc⟩
 · exact .inl h
 ·
  rcases hne with hne|hne
  · exact .inl hne
  ·
   have hne':row≠some g:=fun e=>hne (by simp[Value.ownBlock,e])
   have hcell:∀j,w'.cell? ⟨g,j,none⟩=w.cell? ⟨g,j,none⟩:=fun j=>World.cell?_of_block (w:=w) (hg.block g hB.lt (fun e=>hne' e.symm))
   exact .inr ⟨g,rfl,hb,hB.kept hg hne',fun i hi=>⟨(hcell _).trans (hc i hi).1,(hcell _).trans (hc i hi).2.1,(hcell _).trans (hc i hi).2.2.1,(hcell _).trans (hc i hi).2.2.2⟩⟩
theorem OwnD.mono {w:World}{base base':Nat}{v:Value}{ds:List Dd}(h:OwnD w base v ds)(hb:base'≤base):OwnD w base' v ds:=by
 obtain⟨a,cap,hv,h⟩:=h;refine⟨a,cap,hv,?_⟩;rcases h with h|⟨g,ha,hg,rest⟩
 · exact .inl h
 · exact .inr ⟨g,ha,Nat.le_trans hb hg,rest⟩
theorem OwnD.block {w:World}{base:Nat}{v:Value}{ds:List Dd}(h:OwnD w base v ds)(hne:ds≠[]):∃g,v.ownBlock=some g∧base≤g∧g<w.heap.size:=by
 obtain⟨a,cap,rfl,h⟩:=h;rcases h with h|⟨g,rfl,hb,hB,_⟩
 · exact absurd h hne
 · exact⟨g,rfl,hb,hB.lt⟩
def Apart (g n:Nat)(V:Nat→Value)(D:Nat→List Dd):Prop:=
 (∀i,i<n→D i≠[]→(V i).ownBlock≠some g)∧∀i j,i<j→j<n→D i≠[]→D j≠[]→(V i).ownBlock≠(V j).ownBlock
def OwnW (w:World)(base:Nat)(v:Value)(dss:List (List Dd)):Prop:=
 ∃(a:Option Addr) (cap:Nat),v = .slice a dss.length cap∧(dss=[]∨∃(g:Nat) (V:Nat→Value),a=some ⟨g,0,none⟩∧base≤g∧Blk w g dss.length ∧
  (∀i,i<dss.length→w.cell? ⟨g,i,none⟩=some (V i)∧OwnD w base (V i) (dss.getD i []))∧Apart g dss.length V (fun i=>dss.getD i []))
theorem OwnW.rd {w:World}{base:Nat}{v:Value}{dss:List (List Dd)}(h:OwnW w base v dss):RdW w v dss:=by
 obtain⟨a,cap,hv,h⟩:=h;refine⟨a,cap,hv,?_⟩;rcases h with h|⟨g,V,ha,_,hb,hc,_⟩
 · exact .inl h
 · exact .inr ⟨g,0,ha,hb.lt,fun i hi=>⟨V i,by rw[Nat.zero_add];exact (hc i hi).1,(hc i hi).2.rd⟩⟩
theorem Tryz.infoDS:(Tryz.prog.info? 61).map (fun i=>(i.zero,i.size,i.bytes))=some (some (.slice none 0 0),1,24):=by kernel_rfl
theorem grown_put (w:World)(g j:Nat)(v:Value):w.grownBy (w.setCell ⟨g,j,none⟩ v) (some g):=
 ⟨rfl,rfl,rfl,by simp,fun k _ hk=>heap_setCell_other w ⟨g,j,none⟩ k v (fun e=>hk (by simp[e]))⟩
def mkD (k:Int)(i:Nat):Dd:=(k+4*i,k+4*i+1,k+4*i+1+1,k+4*i+1+1+1)
def mksD (k:Int)(n:Nat):List Dd:=(List.range n).map (mkD k)
theorem mksD_len (k:Int)(n:Nat):(mksD k n).length=n:=by simp[mksD]
theorem mksD_get (k:Int)(n i:Nat)(h:i<n):(mksD k n).getD i zD=mkD k i:=range_getD _ _ _ _ h
def ownO (v:Value)(ds:List Dd):Option Nat:=if ds=[] then none else v.ownBlock
theorem cell_same {w w':World}{b:Nat}(h:w'.heap[b]? = w.heap[b]?)(o:Nat):w'.cell? ⟨b,o,none⟩=w.cell? ⟨b,o,none⟩:=by
 simp only[World.cell?,h]
theorem AtD.same {w w':World}{b o:Nat}{d:Dd}(h:AtD w b o d)(hh:w'.heap[b]? = w.heap[b]?):AtD w' b o d:=
 ⟨(cell_same hh _).trans h.1,(cell_same hh _).trans h.2.1,(cell_same hh _).trans h.2.2.1,(cell_same hh _).trans h.2.2.2⟩
theorem Blk.same {w w':World}{g n:Nat}(h:Blk w g n)(hh:w'.heap[g]? = w.heap[g]?):Blk w' g n:=by
 obtain⟨cur,t,h,hn⟩:=h;exact⟨cur,t,hh.trans h,hn⟩
theorem OwnD.same {w w':World}{base:Nat}{v:Value}{ds:List Dd}(h:OwnD w base v ds)(hh:∀g,ownO v ds=some g→g<w.heap.size→base≤g→w'.heap[g]? = w.heap[g]?):OwnD w' base v ds:=by
 obtain⟨a,cap,rfl,h⟩:=h;refine⟨a,cap,rfl,?_⟩;rcases h with h|⟨g,rfl,hb,hB,hA⟩
 · exact .inl h
 ·
  by_cases h0:ds=[]
  · exact .inl h0
  ·
   have e:=hh g (by rw[ownO,if_neg h0];rfl) hB.lt hb;exact .inr ⟨g,rfl,hb,hB.same e,fun i hi=>(hA i hi).same e⟩
structure Only (lo hi:Nat)(w w':World):Prop where
 os:w'.os=w.os
 tape:w'.tape=w.tape
 output:w'.output=w.output
 size:w.heap.size≤w'.heap.size
 block:∀b,b<w.heap.size→(b<lo∨hi≤b)→w'.heap[b]? = w.heap[b]?
theorem Only.refl (lo hi:Nat)(w:World):Only lo hi w w:=⟨rfl,rfl,rfl,Nat.le_refl _,fun _ _ _=>rfl⟩
theorem Only.grown {lo hi:Nat}{a w w':World}{row:Option Nat}(h:Only lo hi a w)(hg:w.grownBy w' row)(hr:∀k,row=some k→lo≤k∧k<hi):Only lo hi a w':=
 ⟨hg.os.trans h.os,hg.tape.trans h.tape,hg.output.trans h.output,Nat.le_trans h.size hg.size,fun b hb ho=>(hg.block b (Nat.lt_of_lt_of_le hb h.size) (fun e=>by have:=hr b e.symm;omega)).trans (h.block b hb ho)⟩
theorem Keep.only {a w w':World}{lo hi:Nat}(h:Keep a w)(k:Only lo hi w w')(hl:a.heap.size≤lo):Keep a w':=
 ⟨k.os.trans (Below.os h),k.tape.trans (Below.tape h),k.output.trans (Below.output h),Nat.le_trans (Below.size h) k.size,fun b hb=>(k.block b (Nat.lt_of_lt_of_le hb h.size) (.inl (Nat.lt_of_lt_of_le hb hl))).trans (Below.block h b hb)⟩
def mksW (k:Int):List (List Dd)→List (List Dd)
 | []=>[]
 |d::r=>mksD k d.length::mksW (k+4*d.length) r
theorem mksW_len (k:Int)(dss:List (List Dd)):(mksW k dss).length=dss.length:=by
 induction dss generalizing k with
 |nil=>rfl
 |cons d r ih=>simp[mksW,ih]
theorem mksW_get (k:Int):∀(dss:List (List Dd)) (i:Nat),i<dss.length→(mksW k dss).getD i []=mksD (k+4*(lenW (dss.take i):Nat)) (dss.getD i []).length
 | [],i,h=>by simp at h
 |d::r,0,h=>by simp[mksW,lenW]
 |d::r,i+1,h=>by
  have ih:=mksW_get (k+4*d.length) r i (by simpa using h);simp only[mksW,List.getD_cons_succ,List.take_succ_cons,lenW] at ih ⊢;rw[ih]
  congr 1
  omega
theorem lenW_snocM (d:List Dd):∀l:List (List Dd),lenW (l++[d])=lenW l+d.length
 | []=>by simp[lenW]
 |x::r=>by rw[List.cons_append,lenW,lenW,lenW_snocM d r];omega
theorem take_moreM {α:Type}(l:List α)(k:Nat)(z:α)(h:k<l.length):l.take (k+1)=l.take k++[l.getD k z]:=by
 rw[List.take_add_one,List.getElem?_eq_getElem h,List.getD_eq_getElem?_getD,List.getElem?_eq_getElem h];rfl
theorem lenW_take_le (dss:List (List Dd)):∀i,i≤dss.length→lenW (dss.take i)≤lenW dss:=by
 induction dss with
 |nil=>intro i _;simp
 |cons d r ih=>
  intro i hi
  cases i with
  |zero=>simp[lenW]
  |succ i=>simp only[List.take_succ_cons,lenW];have:=ih i (by simpa using hi);omega
theorem lenW_one (dss:List (List Dd))(i:Nat)(h:i<dss.length):lenW (dss.take i)+(dss.getD i []).length≤lenW dss:=by
 have:=lenW_take_le dss (i+1) h;rw[take_moreM dss i [] h,lenW_snocM] at this;exact this
theorem mksD_nil {k:Int}{n:Nat}:mksD k n=[]↔n=0:=by
 constructor
 · intro h;have:=mksD_len k n;rw[h] at this;simpa using this.symm
 · rintro rfl;rfl
theorem eventsB_len9 (dss:List (List Dd)):(eventsB dss).length≤9:=by
 unfold eventsB;split
 ·
  rename_i h;simp only[workB,Bool.and_eq_true,decide_eq_true_eq] at h;obtain⟨⟨⟨⟨_,h2⟩,_⟩,h4⟩,_⟩:=h;have:=evsW_len (fun i hi=>all_get [] h2 i hi) dss.length (Nat.le_refl _);omega
 · simp
def clsK (l:List Ev):Nat→List Int
 | 0=>[]
 |k+1=>clsK l k++[csE (l.getD k zE)]
theorem clsK_len (l:List Ev):∀k:Nat,(clsK l k).length=k
 | 0=>rfl
 |k+1=>by rw[clsK,List.length_append,clsK_len l k];rfl
theorem clsK_take (l:List Ev):∀k:Nat,k≤l.length→clsK l k=(l.take k).map csE
 | 0,_=>rfl
 |k+1,h=>by rw[clsK,clsK_take l k (by omega),List.take_add_one,evs_get (by omega:k<l.length)];simp
theorem clsK_all (l:List Ev):clsK l l.length=l.map csE:=by rw[clsK_take l _ (Nat.le_refl _),List.take_length]
theorem specClassesOf_any (w:World)(v:Value)(es:List Ev)(h:RdE w v es)(hx:es.length≤1048576):
  Calls Tryz.prog 93 #[v] w fun e w'=>∃v',e = .returned v'∧Own w' w.heap.size v' (clsB es)∧Keep w w':=by
 have hown0:Own (w.alloc (.cells #[] 2)) w.heap.size (.slice (some ⟨w.heap.size,0,none⟩) 0 0) []:=World.ownsRow_lit w #[] 0 (Nat.le_refl _) (by decide) rfl;obtain⟨a,cap,rfl,h⟩:=h;by_cases hl:12<es.length
 ·
  have HE:Hid (clsB es=[]):=Lib.hid (by unfold clsB;rw[if_neg (by omega)]);have l1:(12:Int)<(es.length:Int):=by omega
  go_enter Tryz.func93,Tryz.ntmps93
  go_wp2;refine wp_loop_rounds 1 ?_;rw[rounds_succ];go_wp2;go_ret;exact⟨_,rfl,by rw[HE.out];exact hown0,(Keep.refl _).alloc _⟩
 have l1:es.length≤12:=by omega
 clear hl;have HE:Hid (clsB es=clsK es es.length):=Lib.hid (by unfold clsB;rw[if_pos l1];exact (clsK_all es).symm);obtain⟨i0,hi,hz0,hz1,hz2⟩:=info_parts Tryz.infoI;go_enter Tryz.func93,Tryz.ntmps93
 go_wp2;go_loopw [3,4] (fun v i wr=>∃k:Nat,k≤es.length∧i = .int .i64 k∧Own wr w.heap.size v (clsK es k)∧Keep w wr) (fun _ i _=>es.length-(intOf i).toNat)
 case atStart=>exact⟨0,Nat.zero_le _,rfl,hown0,(Keep.refl _).alloc _⟩
 case round=>
  obtain⟨k,hk,rfl,ho,hK⟩:=hrel;clear hown0;by_cases hlt:k<es.length
  ·
   rcases h with h|⟨b,off,rfl,hb,hc⟩
   · exfalso;rw[h] at hlt;simp at hlt
   have AT:=(hc k _ (evs_get hlt)).keep hb hK;have hbw:b<wr.heap.size:=Nat.lt_of_lt_of_le hb hK.size;clear hc;have hml:(clsK es k).length≤k:=by rw[clsK_len];omega
   have hsz:=hK.size;have i1:(0:Int)≤(k:Int):=Int.natCast_nonneg _;have i2:(k:Int)<(es.length:Int):=by omega
   have l2:(es.length:Int)≤12:=by omega
   have HP:Hid (clsK es (k+1)=clsK es k++[csE (es.getD k zE)]):=Lib.hid rfl;obtain⟨e,he⟩:∃e,e=es.getD k zE:=⟨_,rfl⟩;rw[←he] at AT HP;clear he;obtain⟨x0,x1,x2,x3,x4,x5⟩:=e;obtain⟨-,-,-,-,-,A5⟩:=atE AT;clear AT;have HM:Hid (clsK es (k+1)=clsK es k++[x5]):=Lib.hid (by rw[HP.out];rfl);clear HP;go_wp2_with (at_builtin;refine wpList_append_own _ rfl _ _ 50 rfl w.heap.size 2 i0 (.int .i64 0) 1 8 Tryz.underlying50 hi hz0 hz1 hz2 rfl (by decide) _ _ _ rfl (World.ownsRow.alloc ho _) ⟨_,0,none⟩ 1 1 [.int .i64 x5] rfl rfl ?c1 ?c2 ?c3 ?c4 ?c5 ?_)
   case c1=>
    intro j u hj
    match j,hj with
    | 0,hj=>simp at hj;subst hj;simp[Addr.add]
   case c2=>intro u hu;simp at hu;subst hu;rfl
   case c3=>unfold maxLen;omega
   case c4=>omega
   case c5=>simp;omega
   intro v' w1 hown' hgrow _;have hK1:Keep w w1:=(hK.alloc _).grown hgrow ho.ge;clear hgrow;go_wp2;go_roundw;case rel=>exact⟨k+1,by omega,by go_num,by rw[HM.out];exact own_hit hown',hK1⟩
   case measure=>simp[intOf];omega
  ·
   obtain rfl:k=es.length:=by omega
   go_wp2;go_ret;exact⟨_,rfl,by rw[HE.out];exact ho,hK⟩
structure BV where
 W:Value
 P:Value
 L:Value
 N:Value
 X:Value
 S:Value
 F:Value
 R:Value
section
def rowsV (s:Nat)(V:Nat→Value)(ln:Nat→Nat):Nat→List (Value×Nat)
 | 0=>[]
 |n+1=>rowsV s V ln n++[(V n,s*ln n)]
theorem rowsV_sub (s:Nat)(V:Nat→Value)(ln:Nat→Nat):∀n j,j≤n→(rowsV s V ln j).Sublist (rowsV s V ln n)
 | 0,j,h=>by
  obtain rfl:j=0:=by omega
  exact List.Sublist.refl _
 |n+1,j,h=>by
  by_cases e:j=n+1
  · subst e;exact List.Sublist.refl _
  · exact (rowsV_sub s V ln n j (by omega)).trans (List.sublist_append_left _ _)
theorem rowsV_mem (s:Nat)(V:Nat→Value)(ln:Nat→Nat):∀n (r:Value×Nat),r∈rowsV s V ln n↔∃i,i<n∧r=(V i,s*ln i)
 | 0,r=>by simp[rowsV]
 |n+1,r=>by
  rw[rowsV,List.mem_append,rowsV_mem s V ln n r,List.mem_singleton];constructor
  ·
   rintro (⟨i,hi,e⟩|e)
   · exact⟨i,by omega,e⟩
   · exact⟨n,by omega,e⟩
  ·
   rintro⟨i,hi,e⟩;by_cases h:i=n
   · subst h;exact .inr e
   · exact .inl ⟨i,by omega,e⟩
theorem rowsV_tot (s:Nat)(V:Nat→Value)(ln:Nat→Nat)(n:Nat):totR (rowsV s V ln (n+1))=totR (rowsV s V ln n)+s*ln n:=by
 rw[rowsV,totR_append];simp[totR]
theorem rowsV_mono (s:Nat)(V:Nat→Value)(ln:Nat→Nat):∀n j,j≤n→totR (rowsV s V ln j)≤totR (rowsV s V ln n)
 | 0,j,h=>by
  obtain rfl:j=0:=by omega
  exact Nat.le_refl _
 |n+1,j,h=>by
  by_cases e:j=n+1
  · subst e;exact Nat.le_refl _
  ·
   have:=rowsV_mono s V ln n j (by omega);rw[rowsV_tot];omega
def SlV (v:Value)(n:Nat):Prop:=∃a c,v = .slice a n c∧(n=0∨∃b o,a=some ⟨b,o,none⟩)
theorem rowsV_mk (s:Nat)(V:Nat→Value)(ln:Nat→Nat){w:World}{k:Int}:∀n,mkR w k (rowsV s V ln n)→∀j,j<n→Mkd w (V j) (s*ln j) (k+totR (rowsV s V ln j))
 | 0,_,j,hj=>absurd hj (Nat.not_lt_zero j)
 |n+1,h,j,hj=>by
  rw[rowsV,mkR_append] at h;by_cases e:j=n
  · subst e;exact h.2.1
  · exact rowsV_mk s V ln n h.1 j (by omega)
section
variable (v:BV) (Vw Vn Vr:Nat→Value) (dss:List (List Dd)) (b:Bd)
end
def HdL (w:World)(v:Value)(V:Nat→Value)(n:Nat)(S:Addr→Prop):Prop:=
 ∃a c,v = .slice a n c∧(n=0∨∃b o,a=some ⟨b,o,none⟩∧b<w.heap.size∧∀i,i<n→w.cell? ⟨b,o+i,none⟩=some (V i)∧¬S ⟨b,o+i,none⟩)
theorem HdL.keep {w w':World}{v:Value}{V:Nat→Value}{n:Nat}{S:Addr→Prop}(h:HdL w v V n S)(k:Keep w w'):HdL w' v V n S:=by
 obtain⟨a,c,e,h⟩:=h;refine⟨a,c,e,?_⟩;rcases h with h|⟨b,o,ea,hb,hc⟩
 · exact .inl h
 · exact .inr ⟨b,o,ea,Nat.lt_of_lt_of_le hb k.size,fun i hi=>⟨(k.cell hb).trans (hc i hi).1,(hc i hi).2⟩⟩
section
variable {w w':World} {v:BV} {Vw Vn Vr:Nat→Value} {dss:List (List Dd)} {b:Bd}
end
end
section
section
variable {w w':World} {m D:Nat} {v:BV} {nv rv:List Value} {bs N:Nat} {dss:List (List Dd)} {b:Bd}
end
end
theorem grown_row3 (w:World)(g:Nat)(cs:Array Value):w.grownBy (w.setRow g cs) (some g):=
 ⟨rfl,rfl,rfl,by simp,fun k _ hk=>by
  unfold World.setRow;have hk':k≠g:=fun e=>hk (by rw[e])
  rw[Array.getElem?_modify]
  simp[hk'.symm]⟩
section
section
variable {w w':World} {m:Nat} {v:BV} {nv rv wv:List Value} {dss:List (List Dd)} {b:Bd}
end
end
section
def HdM (v:Value)(n m:Nat):Prop:=∀b o l c,v = .slice (some ⟨b,o,none⟩) l c→0<n→m≤b
theorem rowsV_map (s:Nat)(V:Nat→Value)(ln:Nat→Nat):∀n,rowsV s V ln n=(List.range n).map (fun i=>(V i,s*ln i))
 | 0=>rfl
 |n+1=>by rw[rowsV,rowsV_map s V ln n,List.range_succ,List.map_append];rfl
theorem Rw.wb {w:World}{m:Nat}{r:Rw}(h:r.own w m){n:Nat}(hn:n≤r.n*r.size){x:Addr}(hx:rowS r.v n x):Wb w x∧m≤x.block∧r.v.ownBlock=some x.block:=by
 obtain⟨b,o,l,c,i,e,hi,rfl⟩:=hx;unfold Rw.own at h;rcases h.2 with ⟨h1,_⟩|⟨g,cap,cur,h1,hb,hg,hc,_,hs,_⟩
 · rw[h1] at e;simp at e
 ·
  rw[h1] at e;simp only[Value.slice.injEq,Option.some.injEq,Addr.mk.injEq,and_true] at e;obtain⟨⟨rfl,rfl⟩,rfl,rfl⟩:=e;refine⟨⟨cur,r.e,hg,?_⟩,hb,by rw[h1];rfl⟩;rw[hs];have:r.n*r.size≤cap*r.size:=Nat.mul_le_mul_right _ hc;show 0+i<cap*r.size;omega
theorem Rw.slv {w:World}{m:Nat}{r:Rw}(h:r.own w m):SlV r.v r.n:=by
 unfold Rw.own at h;rcases h.2 with ⟨h1,h2⟩|⟨g,cap,cur,h1,_⟩
 · exact⟨none,0,by rw[h1,h2],.inl h2⟩
 · exact⟨_,cap,h1,.inr ⟨g,0,rfl⟩⟩
section
variable {w:World} {m:Nat} {v:BV} {nv rv wv:List Value} {dss:List (List Dd)} {b:Bd}
end
theorem rd_above {w w':World}{m:Nat}(hh:∀q,m≤q→q<w.heap.size→w'.heap[q]? = w.heap[q]?)(hs:w.heap.size≤w'.heap.size){v:Value}{zs:List Int}(h:Rd w v zs)(hr:∀x,rowS v zs.length x→m≤x.block):Rd w' v zs:=by
 obtain⟨a,c,rfl,h⟩:=h;refine⟨a,c,rfl,?_⟩;rcases h with h|⟨b,o,rfl,hb,hc⟩
 · exact .inl h
 ·
  by_cases hz:zs.length=0
  · exact .inl (List.eq_nil_of_length_eq_zero hz)
  have hm:=hr ⟨b,o+0,none⟩ ⟨b,o,_,c,0,rfl,by omega,rfl⟩;exact .inr ⟨b,o,rfl,Nat.lt_of_lt_of_le hb hs,fun i hi=>(World.cell?_of_block (a:=⟨b,o+i,none⟩) (hh b hm hb)).trans (hc i hi)⟩
end
abbrev lnL (zss:List (List Int))(i:Nat):Nat:=(zss.getD i []).length
abbrev rwsL (V:Nat→Value)(zss:List (List Int)):List (Value×Nat):=rowsV 1 V (lnL zss) zss.length
structure FreeL (w:World)(m M:Nat)(v:Value)(zss:List (List Int)):Prop where
 rd:RdL w v zss
 ex:∃V:Nat→Value,HdL w v V zss.length (rowsS (rwsL V zss))∧(∀i,i<zss.length→SlV (V i) (lnL zss i))∧Loose w (rwsL V zss)∧∀x,rowsS (rwsL V zss) x→m≤x.block∧x.block<M
 hd:HdM v zss.length m
theorem FreeL.keep {w w':World}{m M:Nat}{v:Value}{zss:List (List Int)}(h:FreeL w m M v zss)(k:Keep w w'):FreeL w' m M v zss:=by
 obtain⟨V,h1,h2,h3,h4⟩:=h.ex;exact⟨h.rd.keep k,⟨V,h1.keep k,h2,h3.keep k,h4⟩,h.hd⟩
theorem FreeL.above {w w':World}{m M:Nat}{v:Value}{zss:List (List Int)}(h:FreeL w m M v zss)(hh:∀q,m≤q→q<w.heap.size→w'.heap[q]? = w.heap[q]?)(hs:w.heap.size≤w'.heap.size):FreeL w' m M v zss:=by
 obtain⟨V,H,hV,L,G⟩:=h.ex;have d:=h.hd;have gr:∀i,i<zss.length→∀x,rowS (V i) (lnL zss i) x→m≤x.block:=fun i hi x hx=>(G x ⟨(V i,1*lnL zss i),(rowsV_mem 1 V (lnL zss) _ _).2 ⟨i,hi,rfl⟩,by rw[Nat.one_mul];exact hx⟩).1
 refine⟨?_,⟨V,?_,hV,⟨fun x hx=>?_,L.ap⟩,G⟩,d⟩
 ·
  obtain⟨a,c,e,hw⟩:=h.rd;refine⟨a,c,e,?_⟩;rcases hw with hw|⟨q,o,rfl,hq,hc⟩
  · exact .inl hw
  ·
   by_cases hz:zss.length=0
   · exact .inl (List.eq_nil_of_length_eq_zero hz)
   obtain⟨a',c',e',H1⟩:=H;rw[e] at e';simp only[Value.slice.injEq,true_and] at e';obtain⟨rfl,rfl⟩:=e';rcases H1 with H1|⟨q',o',e2,_,H2⟩
   · exact absurd H1 hz
   simp only[Option.some.injEq,Addr.mk.injEq,and_true] at e2;obtain⟨rfl,rfl⟩:=e2;refine .inr ⟨q,o,rfl,Nat.lt_of_lt_of_le hq hs,fun i hi=>?_⟩;obtain⟨vi,h1,h2⟩:=hc i hi;have ev:vi=V i:=by have:=h1.symm.trans (H2 i hi).1;exact Option.some.inj this
   subst ev;exact⟨_,(World.cell?_of_block (a:=⟨q,o+i,none⟩) (hh q (d q o _ _ e (by omega)) hq)).trans h1,rd_above hh hs h2 (gr i hi)⟩
 ·
  obtain⟨a,c,e,H1⟩:=H;refine⟨a,c,e,?_⟩;rcases H1 with H1|⟨q,o,e2,hq,H2⟩
  · exact .inl H1
  ·
   by_cases hz:zss.length=0
   · exact .inl hz
   ·
    subst e2;exact .inr ⟨q,o,rfl,Nat.lt_of_lt_of_le hq hs,fun i hi=>⟨(World.cell?_of_block (a:=⟨q,o+i,none⟩) (hh q (d q o _ _ e (by omega)) hq)).trans (H2 i hi).1,(H2 i hi).2⟩⟩
 ·
  have hx2:=L.wb x hx;have hl:=hx2.lt;obtain⟨cur,t,q1,q2⟩:=hx2;exact⟨cur,t,(hh x.block (G x hx).1 hl).trans q1,q2⟩
theorem rowsV_rows {V:Nat→Value}{zss:List (List Int)}{x:Addr}(h:rowsS (rwsL V zss) x):∃i,i<zss.length∧rowS (V i) (lnL zss i) x:=by
 obtain⟨r,hr,hx⟩:=h;obtain⟨i,hi,rfl⟩:=(rowsV_mem 1 V (lnL zss) _ _).1 hr;exact⟨i,hi,by rw[Nat.one_mul] at hx;exact hx⟩
theorem OwnLL.free {w:World}{m:Nat}{v:Value}{hs:List Value}{xss:List (List Int)}(h:OwnLL 50 ivR w m v hs xss):FreeL w m w.heap.size v xss:=by
 have o0:(hdR 50 hs v).own w m:=h.fam.own none trivial;have oi:∀i,i<xss.length→(ivR (xss.getD i []) (hs.getD i nilS)).own w m:=fun i hi=>h.fam.own (some i) (show i<hs.length by rw[h.len];exact hi)
 have ni:∀i,i<xss.length→llLive hs.length (some i):=fun i hi=>show i<hs.length by rw[h.len];exact hi
 have bl:∀i,i<xss.length→∀x,rowS (hs.getD i nilS) (lnL xss i) x→Wb w x∧m≤x.block∧(hs.getD i nilS).ownBlock=some x.block:=fun i hi x hx=>Rw.wb (oi i hi) (n:=lnL xss i) (by show (xss.getD i []).length≤(xss.getD i []).length*1;omega) hx
 obtain⟨a,c,e,H⟩:=own_head o0;refine⟨⟨a,c,by rw[←h.len];exact e,?_⟩,⟨fun i=>hs.getD i nilS,⟨a,c,by rw[←h.len];exact e,?_⟩,fun i hi=>Rw.slv (oi i hi),⟨fun x hx=>?_,?_⟩,fun x hx=>?_⟩,?_⟩
 ·
  rcases H with H|⟨g,rfl,hg,hc⟩
  · exact .inl (List.eq_nil_of_length_eq_zero (by rw[←h.len,H];rfl))
  · exact .inr ⟨g,0,rfl,hg,fun i hi=>⟨_,by rw[Nat.zero_add];exact hc i (by rw[h.len];exact hi),Own.rd (oi i hi)⟩⟩
 ·
  rcases H with H|⟨g,rfl,hg,hc⟩
  · exact .inl (by rw[←h.len,H];rfl)
  ·
   refine .inr ⟨g,0,rfl,hg,fun i hi=>⟨by rw[Nat.zero_add];exact hc i (by rw[h.len];exact hi),fun hr=>?_⟩⟩;obtain⟨j,hj,hx⟩:=rowsV_rows hr;have q:=(bl j hj _ hx).2.2;rcases h.fam.apart (some j) none (ni j hj) trivial (by simp) with h1|h1
   · rw[show (llR 50 ivR v hs xss (some j)).v=hs.getD j nilS from rfl,q] at h1;cases h1
   · exact h1 (by rw[show (llR 50 ivR v hs xss (some j)).v=hs.getD j nilS from rfl,q,show (llR 50 ivR v hs xss none).v=v from rfl,e];rfl)
 ·
  obtain⟨i,hi,q⟩:=rowsV_rows hx;exact (bl i hi x q).1
 ·
  rw[show rwsL (fun i=>hs.getD i nilS) xss=(List.range xss.length).map (fun i=>(hs.getD i nilS,1*lnL xss i)) from rowsV_map 1 _ _ _,List.pairwise_map];refine (List.nodup_range (n:=xss.length)).imp_of_mem ?_;intro i j hi hj hne x hx hy;rw[Nat.one_mul] at hx hy;have hi:=List.mem_range.1 hi;have hj:=List.mem_range.1 hj;have q1:=(bl i hi x hx).2.2;have q2:=(bl j hj x hy).2.2;rcases h.fam.apart (some i) (some j) (ni i hi) (ni j hj) (by simpa using hne) with h1|h1
  · rw[show (llR 50 ivR v hs xss (some i)).v=hs.getD i nilS from rfl,q1] at h1;cases h1
  · exact h1 (by rw[show (llR 50 ivR v hs xss (some i)).v=hs.getD i nilS from rfl,q1,show (llR 50 ivR v hs xss (some j)).v=hs.getD j nilS from rfl,q2])
 ·
  obtain⟨i,hi,q⟩:=rowsV_rows hx;have q1:=bl i hi x q;exact⟨q1.2.1,q1.1.lt⟩
 ·
  intro b o l c' e' hn;have:=h.fam.lt (i:=none) trivial b (by show v.ownBlock=some b;rw[e'];rfl);exact this.1
theorem tot_lists (V:Nat→Value)(zss:List (List Int))(c:Nat)(hm:∀i,i<zss.length→lnL zss i≤c):∀k,k≤zss.length→totR (rowsV 1 V (lnL zss) k)≤k*c
 | 0,_=>by simp[rowsV,totR]
 |k+1,h=>by
  rw[rowsV_tot,Nat.add_mul];have h1:=tot_lists V zss c hm k (by omega);have h2:=hm k (by omega);omega
section
section
variable {w w':World} {m D:Nat} {v:BV} {nv rv:List Value} {bs N:Nat} {dss:List (List Dd)} {b:Bd}
end
end
section
section
variable {w w':World} {m:Nat} {v:BV} {rv:List Value} {b:Bd}
end
end
section
section
variable {w w1 w2 w':World} {m D:Nat} {v:BV} {nv rv:List Value} {bs N:Nat} {dss:List (List Dd)} {b:Bd}
end
end
section
section
variable {w w1 w2 w':World} {m D:Nat} {v:BV} {nv rv:List Value} {bs N:Nat} {dss:List (List Dd)} {b:Bd}
end
section
variable {wb w w1 w2 w':World} {m D:Nat} {v:BV} {nv rv wv:List Value} {bs N:Nat} {dss:List (List Dd)} {b:Bd}
end
end
section
theorem own_same {w w':World}{m:Nat}{r:Rw}(h:r.own w m)(hb:∀g,r.v.ownBlock=some g→w'.heap[g]? = w.heap[g]?):r.own w' m:=by
 unfold Rw.own at h ⊢;refine⟨h.1,?_⟩;rcases h.2 with q|⟨g,cap,cur,e,hm,hg,rest⟩
 · exact .inl q
 · exact .inr ⟨g,cap,cur,e,hm,(hb g (by rw[e];rfl)).trans hg,rest⟩
section
variable {w w':World} {m D:Nat} {v:BV} {nv rv rv' wv:List Value} {bs N:Nat} {dss:List (List Dd)} {b b':Bd}
end
end
def numB (D:Nat):List Nat→Nat
 | []=>0
 |x::l=>x+D*numB D l
theorem numB_lt {D:Nat}:∀l:List Nat,(∀x∈l,x<D)→numB D l<D ^ l.length
 | [],_=>by simp[numB]
 |x::l,h=>by
  have h1:=numB_lt l (fun y hy=>h y (List.mem_cons_of_mem _ hy));have h2:=h x (by simp);rw[numB,List.length_cons,Nat.pow_succ];have h3:D*(numB D l+1)≤D*D ^ l.length:=Nat.mul_le_mul_left D h1;rw[Nat.mul_add,Nat.mul_comm D (D ^ l.length)] at h3;omega
theorem numB_inj {D:Nat}:∀l l':List Nat,l.length=l'.length→(∀x∈l,x<D)→(∀x∈l',x<D)→numB D l=numB D l'→l=l'
 | [],[],_,_,_,_=>rfl
 | [],_::_,h,_,_,_=>by simp at h
 |_::_,[],h,_,_,_=>by simp at h
 |x::l,x'::l',h,h1,h2,e=>by
  rw[numB,numB] at e;have a1:=h1 x (by simp);have a2:=h2 x' (by simp)
  have e1:x=x':=by
   have:=congrArg (· % D) e;simp only[Nat.add_mul_mod_self_left] at this
   rwa [Nat.mod_eq_of_lt a1,Nat.mod_eq_of_lt a2] at this
  subst e1;have e2:numB D l=numB D l':=Nat.eq_of_mul_eq_mul_left (by omega:0<D) (by omega);rw[numB_inj l l' (by simpa using h) (fun y hy=>h1 y (List.mem_cons_of_mem _ hy)) (fun y hy=>h2 y (List.mem_cons_of_mem _ hy)) e2]
theorem pigeon {α:Type}(M:Nat)(P:α→Nat→Prop)(l:List α)(hn:l.Nodup)(h:∀k∈l,∃c,c<M∧P k c)(hi:∀k k' c,P k c→P k' c→k=k'):l.length≤M:=by
 have hf:∃f:α→Nat,∀k∈l,f k<M∧P k (f k):=by
  classical
  refine⟨fun k=>if hk:k∈l then (h k hk).choose else 0,fun k hk=>?_⟩;simp only[dif_pos hk];exact (h k hk).choose_spec
 obtain⟨f,hf⟩:=hf
 have h1:(l.map (fun k=>(f k:Int))).Nodup:=by
  unfold List.Nodup;rw[List.pairwise_map];refine hn.imp_of_mem ?_;intro a b ha hb hab e;have e':f a=f b:=by omega
  exact hab (hi a b (f a) (hf a ha).2 (by rw[e'];exact (hf b hb).2))
 have h2:=nodup_sub_len (b:=(List.range M).map (fun (c:Nat)=>(c:Int))) h1 (by
  intro x hx;obtain⟨k,hk,rfl⟩:=List.mem_map.1 hx
  exact List.mem_map.2 ⟨f k,List.mem_range.2 (hf k hk).1,rfl⟩)
 simpa using h2
theorem idxK_is (f:Ev→Bool)(l:List Ev):∀(k:Nat) (r:Int),r∈idxK f l k→∃j:Nat,r=(j:Int)∧j<k∧f (l.getD j zE)=true
 | 0,r,h=>by simp[idxK] at h
 |k+1,r,h=>by
  rw[idxK] at h;split at h
  ·
   rename_i hf;rcases List.mem_append.1 h with h|h
   ·
    obtain⟨j,e,hj,hr⟩:=idxK_is f l k r h;exact⟨j,e,by omega,hr⟩
   · exact⟨k,List.mem_singleton.1 h,by omega,hf⟩
  ·
   obtain⟨j,e,hj,hr⟩:=idxK_is f l k r h;exact⟨j,e,by omega,hr⟩
theorem idx_mem {es:List Ev}{r:Int}(h:r∈idxB rdE es):∃j:Nat,r=(j:Int)∧j<es.length∧rdE (es.getD j zE)=true:=by
 unfold idxB at h;split at h
 · exact idxK_is rdE es _ r h
 · cases h
def rkW (es:List Ev):Nat→Nat
 | 0=>0
 |k+1=>rkW es k+if rdE (es.getD k zE)=true then 0 else 1
theorem rkW_mono (es:List Ev):∀ {j k:Nat},j≤k→rkW es j≤rkW es k
 |j,0,h=>by
  obtain rfl:j=0:=by omega
  exact Nat.le_refl _
 |j,k+1,h=>by
  rcases Nat.lt_or_ge j (k+1) with h1|h1
  ·
   have:=rkW_mono es (j:=j) (k:=k) (by omega);rw[rkW];omega
  ·
   obtain rfl:j=k+1:=by omega
   exact Nat.le_refl _
theorem rkW_lt (es:List Ev){j k:Nat}(h:j<k)(hj:rdE (es.getD j zE)=false):rkW es j<rkW es k:=by
 have h1:=rkW_mono es (j:=j+1) (k:=k) h;rw[rkW,hj] at h1;simp at h1;omega
theorem rkW_inj (es:List Ev){j k:Nat}(hj:rdE (es.getD j zE)=false)(hk:rdE (es.getD k zE)=false)(h:rkW es j=rkW es k):j=k:=by
 rcases Nat.lt_trichotomy j k with h1|h1|h1
 · have:=rkW_lt es h1 hj;omega
 · exact h1
 · have:=rkW_lt es h1 hk;omega
theorem rk_sum (es:List Ev):∀k:Nat,(idxK rdE es k).length+rkW es k=k
 | 0=>rfl
 |k+1=>by
  have ih:=rk_sum es k;rw[idxK,rkW];by_cases h:rdE (es.getD k zE)=true
  · rw[if_pos h,if_pos h,List.length_append,List.length_singleton];omega
  · rw[if_neg h,if_neg h];omega
def codeE (dss:List (List Dd))(a:Ab):Nat:=
 numB (rkW (eventsB dss) (eventsB dss).length) ((idxB rdE (eventsB dss)).map (fun r=>rkW (eventsB dss) (a.F r.toNat))++(List.range 3).map (fun p=>rkW (eventsB dss) (lastA a p)))
theorem pow_few {m r:Nat}(h3:3≤m)(h:m+r≤9):m ^ (r+3)≤78125:=by
 have h1:m ^ (r+3)≤m ^ (12-m):=Nat.pow_le_pow_right (by omega) (by omega);refine Nat.le_trans h1 ?_;have:m=3∨m=4∨m=5∨m=6∨m=7∨m=8∨m=9:=by omega
 rcases this with rfl|rfl|rfl|rfl|rfl|rfl|rfl<;>decide
structure EC (dss:List (List Dd))(a:Ab)(b:Bd):Prop where
 f:∀r∈idxB rdE (eventsB dss),a.F r.toNat<(eventsB dss).length∧rdE ((eventsB dss).getD (a.F r.toNat) zE)=false
 l:∀p,p<3→lastA a p<(eventsB dss).length∧rdE ((eventsB dss).getD (lastA a p) zE)=false
 sn:b.sn=(idxB rdE (eventsB dss)).map (fun r=>vlN dss (a.F r.toNat))
 plc:b.plc=(List.range 3).map (fun p=>vlN dss (lastA a p))
 m:3≤rkW (eventsB dss) (eventsB dss).length
theorem ec_of {dss:List (List Dd)}(hb:workB dss=true){b:Bd}{a:Ab}{τ:Nat→Nat}{T:Nat}{z:Int}(M:MI dss b a τ T z)(he:endM dss b=true):EC dss a b:=by
 have FN:=fin_of hb M he;have h3:3≤(eventsB dss).length:=M.inv.lt 2 (M.inv.beg 2 (by omega)).1;refine⟨fun r hr=>?_,fun p hp=>?_,FN.frs.2,M.rep.plc,Nat.le_trans ?_ (rkW_mono (eventsB dss) h3)⟩
 ·
  obtain⟨j,rfl,hj,hrd⟩:=idx_mem hr;rw[Int.toNat_natCast];have hs:=M.inv.src j (FN.all j hj).1 hrd;exact⟨M.inv.lt _ hs.1,hs.2.1⟩
 ·
  unfold lastA
  cases e:(a.R p).getLast? with
  |none=>exact⟨by simp;omega,(M.inv.beg p hp).2.1⟩
  |some y=>
   have hy:=(M.inv.rows p y).1 (List.mem_of_getLast? e);exact⟨M.inv.lt y hy.1.1,hy.2.1⟩
 ·
  have r0:rdE ((eventsB dss).getD 0 zE)=false:=(M.inv.beg 0 (by omega)).2.1;have r1:rdE ((eventsB dss).getD 1 zE)=false:=(M.inv.beg 1 (by omega)).2.1;have r2:rdE ((eventsB dss).getD 2 zE)=false:=(M.inv.beg 2 (by omega)).2.1;simp only[rkW,r0,r1,r2];decide
theorem codeE_digits {dss:List (List Dd)}{a:Ab}{b:Bd}(h:EC dss a b):∀x∈(idxB rdE (eventsB dss)).map (fun r=>rkW (eventsB dss) (a.F r.toNat))++(List.range 3).map (fun p=>rkW (eventsB dss) (lastA a p)),x<rkW (eventsB dss) (eventsB dss).length:=by
 intro x hx;rcases List.mem_append.1 hx with hx|hx
 ·
  obtain⟨r,hr,rfl⟩:=List.mem_map.1 hx;have:=h.f r hr;exact rkW_lt _ this.1 this.2
 ·
  obtain⟨p,hp,rfl⟩:=List.mem_map.1 hx;have:=h.l p (List.mem_range.1 hp);exact rkW_lt _ this.1 this.2
theorem codeE_lt {dss:List (List Dd)}{a:Ab}{b:Bd}(h:EC dss a b):codeE dss a<78125:=by
 have h9:=eventsB_len9 dss;have h1:=numB_lt _ (codeE_digits h);have h2:=rk_sum (eventsB dss) (eventsB dss).length;have e:idxB rdE (eventsB dss)=idxK rdE (eventsB dss) (eventsB dss).length:=by unfold idxB;rw[if_pos (by omega)]
 have h3:=h.m;rw[List.length_append,List.length_map,List.length_map,List.length_range,e] at h1;have h4:=pow_few (m:=rkW (eventsB dss) (eventsB dss).length) (r:=(idxK rdE (eventsB dss) (eventsB dss).length).length) h3 (by omega);unfold codeE;rw[e];omega
theorem ends_len {dss:List (List Dd)}(hb:workB dss=true){quick:Bool}{l:List (List Int)}(h:IsEnds dss quick l):l.length≤78125:=by
 refine pigeon 78125 (fun x c=>∃a b,EC dss a b∧shownM b=x∧codeE dss a=c) _ (ord_nodup h.1) (fun x hx=>?_) ?_
 ·
  obtain⟨b,hr,he,e⟩:=(h.2 x).1 hx;obtain⟨a,τ,T,z,M,-⟩:=reach_rep hb hr;have C:=ec_of hb M he;exact⟨_,codeE_lt C,a,b,C,e.symm,rfl⟩
 ·
  rintro x x' c ⟨a,b,C,rfl,ec⟩ ⟨a',b',C',rfl,ec'⟩;have e:=ec.trans ec'.symm;unfold codeE at e;have e2:=numB_inj _ _ (by simp) (codeE_digits C) (codeE_digits C') e;obtain⟨e3,e4⟩:=List.append_inj e2 (by simp)
  have f1:b.sn=b'.sn:=by
   rw[C.sn,C'.sn];refine List.map_congr_left (fun r hr=>?_);have:=(List.map_inj_left.1 e3) r hr;rw[rkW_inj _ (C.f r hr).2 (C'.f r hr).2 this]
  have f2:b.plc=b'.plc:=by
   rw[C.plc,C'.plc];refine List.map_congr_left (fun p hp=>?_);have:=(List.map_inj_left.1 e4) p hp;rw[rkW_inj _ (C.l p (List.mem_range.1 hp)).2 (C'.l p (List.mem_range.1 hp)).2 this]
  unfold shownM;rw[f1,f2]
theorem reads_9 (dss:List (List Dd)):(idxB rdE (eventsB dss)).length≤9:=by
 have h9:=eventsB_len9 dss;unfold idxB;rw[if_pos (by omega)];have:=idxK_len rdE (eventsB dss) (eventsB dss).length;omega
theorem IsEnds.lens {dss:List (List Dd)}(hb:workB dss=true){quick:Bool}{l:List (List Int)}(h:IsEnds dss quick l):∀i,i<l.length→(l.getD i []).length≤15:=fun i hi=>by
 have hm:l.getD i []∈l:=by rw[List.getD_eq_getElem?_getD,List.getElem?_eq_getElem hi];exact List.getElem_mem hi
 obtain⟨b,hr,_,e⟩:=(h.2 _).1 hm;obtain⟨a,_,_,_,M,_⟩:=reach_rep hb hr;have S:=Shp.of (mi_board hb M);have:=reads_9 dss;rw[e];unfold shownM;rw[List.length_append,S.sn,S.plc];omega
structure EndsOf (dss:List (List Dd))(quick:Bool)(l:List (List Int)):Prop where
 is:workB dss=true→IsEnds dss quick l
 no:workB dss=false→l=[]
theorem EndsOf.one {dss:List (List Dd)}{quick:Bool}{l l':List (List Int)}(h:EndsOf dss quick l)(h':EndsOf dss quick l'):l=l':=by
 cases hb:workB dss
 · rw[h.no hb,h'.no hb]
 · exact ends_one (h.is hb) (h'.is hb)
theorem EndsOf.lens {dss:List (List Dd)}{quick:Bool}{l:List (List Int)}(h:EndsOf dss quick l):∀i,i<l.length→(l.getD i []).length≤15:=by
 cases hb:workB dss
 · rw[h.no hb];intro i hi;simp at hi
 · exact (h.is hb).lens hb
theorem EndsOf.len {dss:List (List Dd)}{quick:Bool}{l:List (List Int)}(h:EndsOf dss quick l):l.length≤78125:=by
 cases hb:workB dss
 · rw[h.no hb];simp
 · exact ends_len hb (h.is hb)
theorem tld_ends {dss:List (List Dd)}{strict:Bool}{l:List (List Int)}(ho:Ord l)(hm:∀x,x∈l↔x∈tlI dss strict (tcB dss).toNat):EndsOf dss strict l where
 is hb:=by
  have e:l=toldB dss strict:=ord_ext ho (told_mem hb strict).1 (fun x=>(hm x).trans (tlI_mem hb strict x));rw[e];exact told_ends hb strict
 no hb:=by
  have e:(tcB dss).toNat=0:=by unfold tcB;rw[if_neg (by rw[hb];simp)];rfl
  rw[e] at hm;exact List.eq_nil_iff_forall_not_mem.2 (fun x hx=>by have:=(hm x).1 hx;simp[tlI] at this)
theorem take_one_moreL {xs ys:List Int}{k:Nat}(hx:k<xs.length)(hy:k<ys.length)(h:xs.take k=ys.take k)(e:xs.getD k 0=ys.getD k 0):xs.take (k+1)=ys.take (k+1):=by
 rw[take_snoc xs k hx,take_snoc ys k hy,h,e]
theorem ne_atL {xs ys:List Int}{k:Nat}(h:xs.getD k 0≠ys.getD k 0):xs≠ys:=by
 intro e;subst e;exact h rfl
theorem less_diff:∀(k:Nat) (a b:List Int),k<a.length→k<b.length→a.take k=b.take k→a.getD k 0≠b.getD k 0→lessB a b=decide (a.getD k 0<b.getD k 0)
 |_,[],_,h,_,_,_=>by simp at h
 |_,_::_,[],_,h,_,_=>by simp at h
 | 0,x::a,y::b,_,_,_,hne=>by
  simp only[List.getD_cons_zero] at hne ⊢;rw[less_cons,if_pos hne]
 |k+1,x::a,y::b,h1,h2,ht,hne=>by
  simp only[List.take_succ_cons,List.cons.injEq,List.getD_cons_succ,List.length_cons] at *;rw[less_cons,if_neg (by simp[ht.1])];exact less_diff k a b (by omega) (by omega) ht.2 hne
theorem less_end:∀(k:Nat) (a b:List Int),a.take k=b.take k→k≤a.length→k≤b.length→(k=a.length∨k=b.length)→lessB a b=decide (a.length<b.length)
 |_,[],b,_,_,_,_=>by rw[less_nil];simp
 |_,x::a,[],_,_,_,_=>by rw[less_to_nil];simp
 | 0,_::_,_::_,_,_,_,h=>by simp at h
 |k+1,x::a,y::b,ht,h1,h2,h=>by
  simp only[List.take_succ_cons,List.cons.injEq,List.length_cons] at *;rw[less_cons,if_neg (by simp[ht.1]),less_end k a b ht.2 (by omega) (by omega) (by omega)];simp
theorem same_any (w:World)(v1 v2:Value)(xs ys:List Int)(h1:Rd w v1 xs)(h2:Rd w v2 ys)(hx:xs.length≤1048576):
  Calls Tryz.prog 123 #[v1,v2] w fun e w'=>e = .returned (.bool (decide (xs=ys)))∧Keep w w':=by
 obtain⟨a1,c1,rfl,h1⟩:=h1;obtain⟨a2,c2,rfl,h2⟩:=h2;by_cases hl:xs.length=ys.length
 ·
  have hlb:((xs.length:Int) != (ys.length:Int))=false:=by simp[hl]
  have hl1:xs.length≤ys.length:=by omega
  have hl2:ys.length≤xs.length:=by omega
  clear hl;go_enter Tryz.func123,Tryz.ntmps123
  go_wp2;go_loopw [5] (fun i wr=>∃k:Nat,k≤xs.length∧i = .int .i64 k∧xs.take k=ys.take k∧Keep w wr) (fun i _=>xs.length-(intOf i).toNat)
  case atStart=>exact⟨0,Nat.zero_le _,rfl,by simp,Keep.refl _⟩
  case round=>
   obtain⟨k,hk,rfl,ht,hK⟩:=hrel;by_cases hlt:k<xs.length
   ·
    rcases h1 with h|⟨b1,o1,rfl,hb1,hc1⟩
    · subst h;simp at hlt
    rcases h2 with h|⟨b2,o2,rfl,hb2,hc2⟩
    · exfalso;rw[h] at hl1;simp only[List.length_nil] at hl1;omega
    have hy2:k<ys.length:=by omega
    have d1:=(hK.cell hb1).trans (hc1 k hlt);have d2:=(hK.cell hb2).trans (hc2 k hy2);clear hc1 hc2;obtain⟨p,hp⟩:∃p,p=xs.getD k 0:=⟨_,rfl⟩;obtain⟨q,hq⟩:∃q,q=ys.getD k 0:=⟨_,rfl⟩;rw[←hp] at d1;rw[←hq] at d2;have HP:Hid (p=xs.getD k 0):=hp;have HQ:Hid (q=ys.getD k 0):=hq;have HT:Hid (xs.take k=ys.take k):=ht;clear hp hq ht;by_cases he:p=q
    ·
     have hne:(p != q)=false:=by simp[he]
     have HE:Hid (p=q):=he;clear he;go_wp2;go_quiet (fail)
     go_wp2;go_roundw;case rel=>exact⟨k+1,by omega,by go_num,take_one_moreL hlt hy2 HT.out (by rw[←HP.out,←HQ.out];exact HE.out),hK.drewN _⟩
     case measure=>simp[intOf];omega
    ·
     have hne:(p != q)=true:=by simp[he]
     have HE:Hid (p≠q):=he;clear he;go_wp2;go_quiet (fail)
     go_wp2;go_ret;refine⟨ret_bool ?_,?_⟩
     ·
      have:=ne_atL (xs:=xs) (ys:=ys) (k:=k) (by rw[←HP.out,←HQ.out];exact HE.out);simp[this]
     · exact hK.drewN _
   ·
    go_wp2;go_ret;refine⟨ret_bool ?_,hK⟩;rw[List.take_of_length_le (by omega),List.take_of_length_le (by omega)] at ht;simp[ht]
 ·
  have hlb:((xs.length:Int) != (ys.length:Int))=true:=by simp;omega
  have HL:Hid (¬xs.length=ys.length):=hl;clear hl;go_enter Tryz.func123,Tryz.ntmps123
  go_wp2;go_ret;refine⟨ret_bool ?_,Keep.refl _⟩;have:xs≠ys:=fun e=>HL.out (by rw[e])
  simp[this]
theorem l16Less_any (w:World)(v1 v2:Value)(xs ys:List Int)(h1:Rd w v1 xs)(h2:Rd w v2 ys)(hx:xs.length≤1048576):
  Calls Tryz.prog 236 #[v1,v2] w fun e w'=>e = .returned (.bool (lessB xs ys))∧Keep w w':=by
 obtain⟨a1,c1,rfl,h1⟩:=h1;obtain⟨a2,c2,rfl,h2⟩:=h2;go_enter Tryz.func236,Tryz.ntmps236
 go_wp2;go_loopw [5] (fun i wr=>∃k:Nat,k≤xs.length∧k≤ys.length∧i = .int .i64 k∧xs.take k=ys.take k∧Keep w wr) (fun i _=>xs.length-(intOf i).toNat)
 case atStart=>exact⟨0,Nat.zero_le _,Nat.zero_le _,rfl,by simp,Keep.refl _⟩
 case round=>
  obtain⟨k,hk1,hk2,rfl,ht,hK⟩:=hrel;by_cases hlt:k<xs.length
  ·
   by_cases hly:k<ys.length
   ·
    rcases h1 with h|⟨b1,o1,rfl,hb1,hc1⟩
    · subst h;simp at hlt
    rcases h2 with h|⟨b2,o2,rfl,hb2,hc2⟩
    · exfalso;rw[h] at hly;simp at hly
    have d1:=(hK.cell hb1).trans (hc1 k hlt);have d2:=(hK.cell hb2).trans (hc2 k hly);clear hc1 hc2;have HL:=Lib.hid (less_diff k xs ys hlt hly ht);obtain⟨p,hp⟩:∃p,p=xs.getD k 0:=⟨_,rfl⟩;obtain⟨q,hq⟩:∃q,q=ys.getD k 0:=⟨_,rfl⟩;rw[←hp] at d1;rw[←hq] at d2;rw[←hp,←hq] at HL;have HP:Hid (p=xs.getD k 0):=hp;have HQ:Hid (q=ys.getD k 0):=hq;have HT:Hid (xs.take k=ys.take k):=ht;clear hp hq ht;by_cases he:p=q
    ·
     have hne:(p != q)=false:=by simp[he]
     have HE:Hid (p=q):=he;clear he HL;go_wp2;go_quiet (fail)
     go_wp2;go_roundw;case rel=>exact⟨k+1,by omega,by omega,by go_num,take_one_moreL hlt hly HT.out (by rw[←HP.out,←HQ.out];exact HE.out),hK.drewN _⟩
     case measure=>simp[intOf];omega
    ·
     have hne:(p != q)=true:=by simp[he]
     have HE:=Lib.hid (HL.out he);clear he HL;go_wp2;go_quiet (fail)
     go_wp2;go_quiet (fail)
     go_wp2;go_ret;exact⟨ret_bool HE.out.symm,(hK.drewN _).drewN _⟩
   ·
    have HE:=Lib.hid (less_end k xs ys ht hk1 hk2 (by omega));clear ht;go_wp2;go_ret;exact⟨ret_bool (by rw[HE.out]),hK⟩
  ·
   have HE:=Lib.hid (less_end k xs ys ht hk1 hk2 (by omega));clear ht;go_wp2;go_ret;exact⟨ret_bool (by rw[HE.out]),hK⟩
theorem l16Find_any (w:World)(v vo:Value)(zss:List (List Int))(x:List Int)(h:RdL w v zss)(hx:Rd w vo x)(hO:Ord zss)(hl:zss.length≤1099511627776)(hm:∀i,i<zss.length→(zss.getD i []).length≤1048576):
  Calls Tryz.prog 177 #[v,vo] w fun e w'=>e = .returned (.tuple #[.int .i64 (rankL zss x:Int),.bool (isL zss x)])∧Keep w w':=by
 obtain⟨a,c,rfl,h⟩:=h;have HR:=Lib.hid (ord_rank hO x);have hrl:=rank_le zss x;obtain⟨R,hR⟩:∃R,R=rankL zss x:=⟨_,rfl⟩;rw[←hR] at HR hrl;have HI:Hid (isL zss x=(decide (R<zss.length)&&(zss.getD R []==x))):=Lib.hid (by rw[hR];rfl);rw[←hR];clear hR hO;go_enter Tryz.func177,Tryz.ntmps177
 go_wp2;go_loopw [6,7,8] (fun lo hi _ wr=>∃l r:Nat,l≤R∧R≤r∧r≤zss.length∧lo = .int .i64 l∧hi = .int .i64 r∧Keep w wr) (fun lo hi _ _=>(intOf hi).toNat-(intOf lo).toNat)
 case atStart=>exact⟨0,zss.length,Nat.zero_le _,hrl,Nat.le_refl _,rfl,rfl,Keep.refl _⟩
 case round=>
  obtain⟨l,r,h1,h2,h3,rfl,rfl,hK⟩:=hrel;by_cases hlt:l<r
  ·
   obtain⟨p,hp1,hp2⟩:∃p:Nat,Int.tdiv ((l:Int)+(r:Int)) 2=(p:Int)∧p=(l+r) / 2:=⟨(l+r) / 2,by rw[Int.tdiv_eq_ediv_of_nonneg (by omega)];omega,rfl⟩;have hpl:p<zss.length:=by omega
   rcases h with h|⟨b,o,rfl,hb,hc⟩
   · exfalso;rw[h] at hpl;simp at hpl
   obtain⟨vi,d1,rd⟩:=hc p hpl;have d1:=(hK.cell hb).trans d1;have CL:=l16Less_any wr vi vo _ x (rd.keep hK) (hx.keep hK) (hm p hpl);have HP:=HR.out p hpl;rw[show lessB (zss.getD p []) x=lessB zss[p] x from by rw[List.getD_eq_getElem?_getD,List.getElem?_eq_getElem hpl];rfl,HP] at CL;clear hc rd HP hm hx;have i1:(0:Int)≤(p:Int):=Int.natCast_nonneg _;have i2:(p:Int)<(zss.length:Int):=by omega
   have HP2:=Lib.hid hp2;clear hp2;go_wp2_with fail
   refine CL.mono ?_;rintro e wz ⟨rfl,kk⟩;by_cases hR:p<R
   ·
    have hb:decide (p<R)=true:=by simpa using hR
    go_wp2;go_roundw;case rel=>exact⟨p+1,r,by omega,h2,h3,by go_num,rfl,hK.trans kk⟩
    case measure=>
     have:=HP2.out;simp[intOf];omega
   ·
    have hb:decide (p<R)=false:=by simpa using hR
    go_wp2;go_roundw;case rel=>exact⟨l,p,h1,by omega,by omega,rfl,rfl,hK.trans kk⟩
    case measure=>
     have:=HP2.out;simp[intOf];omega
  ·
   obtain rfl:l=R:=by omega
   by_cases hR:l<zss.length
   ·
    rcases h with h|⟨b,o,rfl,hb,hc⟩
    · exfalso;rw[h] at hR;simp at hR
    obtain⟨vi,d1,rd⟩:=hc l hR;have d1:=(hK.cell hb).trans d1;have CS:=same_any wr vi vo _ x (rd.keep hK) (hx.keep hK) (hm l hR);rw[decide_eq_true hR,Bool.true_and,show (zss.getD l []==x)=decide (zss.getD l []=x) from by rw[Bool.eq_iff_iff];simp] at HI;generalize decide (zss.getD l []=x)=E at *;have i1:(0:Int)≤(l:Int):=Int.natCast_nonneg _;have i2:(l:Int)<(zss.length:Int):=by omega
    clear hc rd hm hx;go_wp2_with fail
    refine CS.mono ?_;rintro e wz ⟨rfl,kk⟩;go_wp2;go_ret2
    exact⟨by rw[HI.out];rfl,hK.trans kk⟩
   ·
    rw[decide_eq_false hR,Bool.false_and] at HI;go_wp2;go_ret2
    exact⟨by rw[HI.out];rfl,hK⟩
structure OwnP (w:World)(P:Nat→Prop)(base:Nat)(v:Value)(vs:List Value)(zss:List (List Int)):Prop where
 row:w.ownsRow base 50 1 v zss.length vs
 np:∀g,v.ownBlock=some g→¬P g
 each:∀i,i<zss.length→Rd w (vs.getD i nilS) (zss.getD i [])∧∀g,(vs.getD i nilS).ownBlock=some g→P g
theorem grown_anyP {w w':World}(h:w.grownBy w' none)(row:Option Nat):w.grownBy w' row:=⟨h.os,h.tape,h.output,h.size,fun k hk _=>h.block k hk (by simp)⟩
theorem grown_newP {a b c:World}{r:Option Nat}{g:Nat}(h:a.grownBy b r)(k:b.grownBy c (some g))(hg:a.heap.size≤g):a.grownBy c r:=
 ⟨k.os.trans h.os,k.tape.trans h.tape,k.output.trans h.output,Nat.le_trans h.size k.size,fun q hq hr=>(k.block q (Nat.lt_of_lt_of_le hq h.size) (fun e=>by have:=Option.some.inj e;omega)).trans (h.block q hq hr)⟩
theorem rd_blk {w w':World}{v:Value}{zs:List Int}(h:Rd w v zs)(hs:w.heap.size≤w'.heap.size)(hb:∀g,v.ownBlock=some g→g<w.heap.size→w'.heap[g]? = w.heap[g]?):Rd w' v zs:=by
 obtain⟨a,c,rfl,h⟩:=h;refine⟨a,c,rfl,?_⟩;rcases h with h|⟨b,o,rfl,hb',hc⟩
 · exact .inl h
 ·
  refine .inr ⟨b,o,rfl,Nat.lt_of_lt_of_le hb' hs,fun i hi=>?_⟩;rw[World.cell?_of_block (w:=w) (hb b rfl hb')];exact hc i hi
theorem OwnP.lt {w:World}{P:Nat→Prop}{base:Nat}{v:Value}{vs:List Value}{zss:List (List Int)}(h:OwnP w P base v vs zss):∀g,v.ownBlock=some g→base≤g∧g<w.heap.size:=World.ownsRow.lt h.row
theorem OwnP.kept {w w':World}{P:Nat→Prop}{base:Nat}{v:Value}{vs:List Value}{zss:List (List Int)}{r:Option Nat}(h:OwnP w P base v vs zss)(hg:w.grownBy w' r)(hr:∀g,r=some g→¬P g∧v.ownBlock≠some g):OwnP w' P base v vs zss:=by
 refine⟨World.ownsRow.kept h.row hg ?_,h.np,fun i hi=>⟨rd_blk (h.each i hi).1 hg.size (fun g hv hl=>hg.block g hl (fun e=>(hr g e.symm).1 ((h.each i hi).2 g hv))),(h.each i hi).2⟩⟩
 cases hv:v.ownBlock with
 |none=>exact .inl rfl
 |some g=>exact .inr (fun e=>(hr g e.symm).2 hv)
theorem OwnP.mono {w:World}{P P':Nat→Prop}{base:Nat}{v:Value}{vs:List Value}{zss:List (List Int)}(h:OwnP w P base v vs zss)(hp:∀g,P g→P' g)(hn:∀g,v.ownBlock=some g→¬P' g):OwnP w P' base v vs zss:=
 ⟨h.row,hn,fun i hi=>⟨(h.each i hi).1,fun g hg=>hp g ((h.each i hi).2 g hg)⟩⟩
theorem OwnP.rdL {w:World}{P:Nat→Prop}{base:Nat}{v:Value}{vs:List Value}{zss:List (List Int)}(h:OwnP w P base v vs zss):RdL w v zss:=by
 have hl:=h.row.1;have h2:=h.row;rcases h.row.2 with ⟨rfl,hz⟩|⟨g,cap,cur,rfl,hb,hg,_⟩
 · exact⟨none,0,by rw[hz],.inl (List.eq_nil_of_length_eq_zero hz)⟩
 ·
  refine⟨_,_,rfl,.inr ⟨g,0,rfl,(h.lt g rfl).2,fun i hi=>?_⟩⟩;have hi':i<vs.length:=by omega
  refine⟨vs.getD i nilS,?_,(h.each i hi).1⟩;rw[Nat.zero_add,World.ownsRow.cellAt h2 i (by omega),List.getD_eq_getElem?_getD,List.getElem?_eq_getElem hi'];rfl
theorem getD_ins {α:Type}(l:List α)(k i:Nat)(u z:α)(hk:k≤l.length):(l.take k++u::l.drop k).getD i z=if i<k then l.getD i z else if i=k then u else l.getD (i-1) z:=by
 simp only[List.getD_eq_getElem?_getD];by_cases h1:i<k
 · rw[if_pos h1,List.getElem?_append_left (by simp;omega),List.getElem?_take_of_lt h1]
 ·
  rw[if_neg h1,List.getElem?_append_right (by simp;omega),List.length_take,Nat.min_eq_left hk];by_cases h2:i=k
  · rw[if_pos h2,h2];simp
  ·
   rw[if_neg h2,show i-k=(i-k-1)+1 by omega,List.getElem?_cons_succ,List.getElem?_drop]
   congr 2
   omega
theorem set_ins {α:Type}(l:List α)(k:Nat)(y u:α)(hk:k≤l.length):(l.take k++y::l.drop k).set k u=l.take k++u::l.drop k:=by
 rw[List.set_append_right _ _ (by simp;omega),List.length_take,Nat.min_eq_left hk,Nat.sub_self,List.set_cons_zero]
theorem shift_ins {α:Type}(l:List α)(k:Nat)(y z:α)(hk:k+1≤l.length):(l.take (k+1)++y::l.drop (k+1)).set (k+1) (l.getD k z)=l.take k++l.getD k z::l.drop k:=by
 rw[set_ins _ _ _ _ hk]
 have e:l.drop k=l.getD k z::l.drop (k+1):=by
  rw[List.getD_eq_getElem?_getD,List.getElem?_eq_getElem (by omega),Option.getD_some,List.drop_eq_getElem_cons (by omega)]
 have e2:l.take (k+1)=l.take k++[l.getD k z]:=by
  rw[List.take_add_one,List.getD_eq_getElem?_getD,List.getElem?_eq_getElem (by omega)];rfl
 rw[e2,e];simp
theorem l16Put_any (w:World)(P:Nat→Prop)(base:Nat)(v u:Value)(vs:List Value)(zss:List (List Int))(x:List Int)(h:OwnP w P base v vs zss)(hP:∀g,P g→g<w.heap.size)(hu:Rd w u x)(hup:∀g,u.ownBlock=some g→P g)(hO:Ord zss)(hl:zss.length≤1099511627776)(hm:∀i,i<zss.length→(zss.getD i []).length≤1048576)(hb:base≤w.heap.size):
  Calls Tryz.prog 107 #[v,u] w fun e w'=>∃v' vs',e = .returned (.tuple #[v',.bool (!(isL zss x))])∧OwnP w' P base v' vs' (putL zss x)∧w.grownBy w' v.ownBlock∧(v'.ownBlock=v.ownBlock∨∃g,v'.ownBlock=some g∧w.heap.size≤g):=by
 obtain⟨j0,hj,hy0,hy1,hy2⟩:=info_parts Tryz.infoL;have CF:=l16Find_any w v u zss x h.rdL hu hO hl hm;obtain⟨R,hR⟩:∃R,R=rankL zss x:=⟨_,rfl⟩;have hrl:=rank_le zss x;have HPU:Hid (putL zss x=if isL zss x=true then zss else zss.take R++x::zss.drop R):=Lib.hid (by rw[hR];rfl);rw[←hR] at CF hrl;clear hR hO hm;obtain⟨a0,c0,rfl⟩:∃a c,v = .slice a zss.length c:=by obtain⟨a,c,e,-⟩:=h.rdL;exact⟨a,c,e⟩
 obtain⟨au,cu,rfl,-⟩:=id hu;go_enter Tryz.func107,Tryz.ntmps107
 go_wp2_with fail
 refine CF.mono ?_;rintro e w1 ⟨rfl,k1⟩;have H1:=h.kept k1.grownBy (by simp);have s1:=k1.size;have U1:=hu.keep k1;have HU:=Lib.hid hu;clear CF hu;cases hi:isL zss x
 ·
  rw[hi,if_neg (by simp)] at HPU;have k2:Keep w1 (w1.alloc (.cells #[.slice au x.length cu] 50)):=(Keep.refl w1).alloc _;have H2:=H1.kept k2.grownBy (by simp);have U2:=U1.keep k2;go_wp2_with (at_builtin;refine wpList_append_own_at _ rfl _ _ 26 rfl base 50 j0 (.slice none 0 0) 1 24 Tryz.underlying26 hj hy0 hy1 hy2 rfl (by decide) _ _ _ rfl H2.row ⟨_,0,none⟩ 1 1 [.slice au x.length cu] rfl rfl ?e1 ?e2 ?e3 ?e4 ?e5 ?_)
  case e1=>
   intro j u hj
   match j,hj with
   | 0,hj=>simp at hj;subst hj;simp[Addr.add]
  case e2=>intro u hu;simp at hu;subst hu;rfl
  case e3=>unfold maxLen;omega
  case e4=>omega
  case e5=>simp;omega
  intro v3 w3 hown3 hgrow3 _ hblk3
  obtain⟨g,c3,rfl⟩:∃g c,v3 = .slice (some ⟨g,0,none⟩) (zss.length+1) c:=by
   rcases hown3.2 with ⟨_,hz⟩|⟨g,cap,cur,e,_⟩
   · omega
   · exact⟨g,cap,e⟩
  have hlv:vs.length=zss.length:=by have:=h.row.1;omega
  have G13:w1.grownBy w3 (Value.slice a0 zss.length c0).ownBlock:=grown_trans (grown_anyP k2.grownBy _) hgrow3
  have hgP:¬P g∧(some g=(Value.slice a0 zss.length c0).ownBlock∨w1.heap.size≤g):=by
   rcases hblk3 with q|q
   · exact⟨h.np g q.symm,.inl q⟩
   ·
    have q:g=w1.heap.size+1:=Option.some.inj q;exact⟨fun hp=>by have:=hP g hp;omega,.inr (by omega)⟩
  have HG:=Lib.hid G13;have HGP:=Lib.hid hgP;have HO3:=Lib.hid hown3;have H1':=Lib.hid H1;have HH:=Lib.hid h;have U1':=Lib.hid U1;have s3:=hgrow3.size;rw[heap_size] at s3;clear hown3 hgrow3 hblk3 H2 U2 k2 G13 hgP H1 h U1;go_wp2;go_loopw [8] (fun i wr=>∃(k:Nat) (y:Value),i = .int .i64 (k:Int)∧R≤k∧k≤zss.length∧World.ownsRow wr base 50 1 (.slice (some ⟨g,0,none⟩) (zss.length+1) c3) (zss.length+1) (vs.take k++y::vs.drop k)∧w3.grownBy wr (some g)) (fun i _=>(intOf i).toNat)
  case atStart=>
   refine⟨zss.length,.slice au x.length cu,by go_num,hrl,Nat.le_refl _,?_,World.grownBy.refl _ _⟩;rw[←hlv,List.take_length,List.drop_length,hlv];exact HO3.out
  case round=>
   obtain⟨k,y,rfl,hk1,hk2,ho,hg⟩:=hrel;by_cases hgt:R<k
   ·
    obtain⟨m,rfl⟩:∃m,k=m+1:=⟨k-1,by omega⟩;obtain⟨am,nm,cm,em⟩:∃a n c,vs.getD m nilS = .slice a n c:=by obtain⟨a,c,e,-⟩:=(H1'.out.each m (by omega)).1;exact⟨_,_,_,e⟩
    obtain⟨z1,z2,z3⟩:=Rw.put (r:=hdR 50 (vs.take (m+1)++y::vs.drop (m+1)) (.slice (some ⟨g,0,none⟩) (zss.length+1) c3)) (g:=g) (cap:=c3) (k:=m+1) (show Rw.own wr base _ from by unfold Rw.own;rw[show (hdR 50 (vs.take (m+1)++y::vs.drop (m+1)) (.slice (some ⟨g,0,none⟩) (zss.length+1) c3)).n=zss.length+1 from by simp;omega];exact ho) (by simp;omega) (vs.getD m nilS)
    have d1:wr.cell? ⟨g,m,none⟩=some (.slice am nm cm):=by
     rw[World.ownsRow.cellAt ho m (by omega),←em];have:=getD_ins vs (m+1) m y nilS (by omega);rw[if_pos (by omega),List.getD_eq_getElem?_getD,List.getElem?_eq_getElem (by simp;omega),Option.getD_some] at this;rw[List.getElem?_eq_getElem (by simp;omega),this]
    have d2:wr.cell? ⟨g,m+1,none⟩=some y:=by
     rw[World.ownsRow.cellAt ho (m+1) (by omega)];have:=getD_ins vs (m+1) (m+1) y nilS (by omega);rw[if_neg (by omega),if_pos rfl,List.getD_eq_getElem?_getD,List.getElem?_eq_getElem (by simp;omega),Option.getD_some] at this;rw[List.getElem?_eq_getElem (by simp;omega),this]
    have Z1:=Lib.hid z1;have Z2:=Lib.hid z2;have EM:=Lib.hid em;clear z1 z2 em ho;rw[show ((m+1:Nat):Int)=(m:Int)+1 from rfl];have i1:(0:Int)≤(m:Int):=Int.natCast_nonneg _;have i2:(m:Int)+1<(zss.length:Int)+1:=by omega
    go_wp2;go_roundw
    case rel=>
     refine⟨m,vs.getD m nilS,by go_num,by omega,by omega,?_,?_⟩
     ·
      have q:=Z1.out;unfold Rw.own at q;simp only[shift_ins vs m y nilS (by omega)] at q;rw[show (vs.take (m+1)++y::vs.drop (m+1)).length=zss.length+1 from by simp;omega] at q;rw[←EM.out];exact q
     ·
      rw[←EM.out];exact grown_trans hg Z2.out
    case measure=>simp[intOf]
   ·
    obtain rfl:k=R:=by omega
    obtain⟨z1,z2,z3⟩:=Rw.put (r:=hdR 50 (vs.take k++y::vs.drop k) (.slice (some ⟨g,0,none⟩) (zss.length+1) c3)) (g:=g) (cap:=c3) (k:=k) (show Rw.own wr base _ from by unfold Rw.own;rw[show (hdR 50 (vs.take k++y::vs.drop k) (.slice (some ⟨g,0,none⟩) (zss.length+1) c3)).n=zss.length+1 from by simp;omega];exact ho) (by simp;omega) (.slice au x.length cu)
    have d2:wr.cell? ⟨g,k,none⟩=some y:=by
     rw[World.ownsRow.cellAt ho k (by omega)];have:=getD_ins vs k k y nilS (by omega);rw[if_neg (by omega),if_pos rfl,List.getD_eq_getElem?_getD,List.getElem?_eq_getElem (by simp;omega),Option.getD_some] at this;rw[List.getElem?_eq_getElem (by simp;omega),this]
    have Z1:=Lib.hid z1;have Z2:=Lib.hid z2;clear z1 z2 ho;have i1:(0:Int)≤(k:Int):=Int.natCast_nonneg _;have i2:(k:Int)<(zss.length:Int)+1:=by omega
    go_wp2;go_ret2
    have GT:w.grownBy (wr.setCell ⟨g,k,none⟩ (.slice au x.length cu)) (Value.slice a0 zss.length c0).ownBlock:=by
     have q1:=grown_trans (grown_anyP k1.grownBy (Value.slice a0 zss.length c0).ownBlock) HG.out;have q2:=grown_trans hg Z2.out;rcases HGP.out.2 with e|e
     ·
      rw[e] at q2;exact grown_trans q1 q2
     · exact grown_newP q1 q2 (by omega)
    have EA:∀(y:Value) (zs:List Int),Rd w y zs→(∀q,y.ownBlock=some q→P q)→Rd (wr.setCell ⟨g,k,none⟩ (.slice au x.length cu)) y zs:=fun y zs hy hp=>rd_blk hy GT.size (fun q hq hl=>GT.block q hl (fun e=>HH.out.np q e.symm (hp q hq)))
    refine⟨_,rfl,⟨vs.take k++.slice au x.length cu::vs.drop k,?_⟩,GT,?_⟩
    ·
     rw[HPU.out];refine⟨?_,fun q hq=>?_,fun i hi'=>?_⟩
     ·
      have q:=Z1.out;unfold Rw.own at q;simp only[set_ins vs k y (.slice au x.length cu) (by omega)] at q;rw[show (vs.take k++y::vs.drop k).length=zss.length+1 from by simp;omega] at q;rw[show (zss.take k++x::zss.drop k).length=zss.length+1 from by simp;omega];exact q
     ·
      have q:=Option.some.inj hq;exact q ▸ HGP.out.1
     ·
      have hi':i<zss.length+1:=by rw[show (zss.take k++x::zss.drop k).length=zss.length+1 from by simp;omega] at hi';exact hi'
      rw[getD_ins _ _ _ _ _ (by omega),getD_ins _ _ _ _ _ (by omega)];by_cases h1:i<k
      ·
       rw[if_pos h1,if_pos h1];have q:=HH.out.each i (by omega);exact⟨EA _ _ q.1 q.2,q.2⟩
      ·
       rw[if_neg h1,if_neg h1];by_cases h2:i=k
       ·
        rw[if_pos h2,if_pos h2];exact⟨EA _ _ HU.out hup,hup⟩
       ·
        rw[if_neg h2,if_neg h2];have q:=HH.out.each (i-1) (by omega);exact⟨EA _ _ q.1 q.2,q.2⟩
    ·
     rcases HGP.out.2 with e|e
     · exact .inl e
     · exact .inr ⟨g,rfl,by omega⟩
 ·
  rw[hi,if_pos rfl] at HPU;go_wp2;go_ret2
  exact⟨_,_,by rw[hi];rfl,by rw[HPU.out];exact H1,grown_anyP k1.grownBy _,.inl rfl⟩
structure PStay (P:Nat→Prop)(w w':World):Prop where
 size:w.heap.size≤w'.heap.size
 blk:∀g,g<w.heap.size→P g→w'.heap[g]? = w.heap[g]?
theorem PStay.trans {P:Nat→Prop}{a b c:World}(h:PStay P a b)(k:PStay P b c):PStay P a c:=
 ⟨Nat.le_trans h.size k.size,fun g hg hp=>(k.blk g (Nat.lt_of_lt_of_le hg h.size) hp).trans (h.blk g hg hp)⟩
theorem PStay.mono {P P':Nat→Prop}{a b:World}(h:PStay P' a b)(hp:∀g,P g→P' g):PStay P a b:=⟨h.size,fun g hg hq=>h.blk g hg (hp g hq)⟩
theorem PStay.of_keep {P:Nat→Prop}{a b:World}(k:Keep a b):PStay P a b:=⟨k.size,fun g hg _=>Below.block k g hg⟩
theorem PStay.of_grown {P:Nat→Prop}{a b:World}{r:Option Nat}(k:a.grownBy b r)(hr:∀g,r=some g→¬P g):PStay P a b:=⟨k.size,fun g hg hp=>k.block g hg (fun e=>hr g e.symm hp)⟩
def HeldL (m:Nat)(w:World)(v:Value)(zss:List (List Int)):Prop:=∀w':World,PStay (fun g=>m≤g) w w'→RdL w' v zss
theorem HeldL.rd {m:Nat}{w:World}{v:Value}{zss:List (List Int)}(h:HeldL m w v zss):RdL w v zss:=h w ⟨Nat.le_refl _,fun _ _ _=>rfl⟩
theorem HeldL.on {m:Nat}{w w':World}{v:Value}{zss:List (List Int)}(h:HeldL m w v zss)(k:PStay (fun g=>m≤g) w w'):HeldL m w' v zss:=fun w'' k'=>h w'' (k.trans k')
theorem HeldL.low {m m':Nat}{w:World}{v:Value}{zss:List (List Int)}(h:HeldL m w v zss)(hm:m'≤m):HeldL m' w v zss:=fun w' k=>h w' (k.mono (fun _ hg=>Nat.le_trans hm hg))
theorem heldL_nil (m:Nat)(w:World)(a:Option Addr)(c:Nat):HeldL m w (.slice a 0 c) []:=fun _ _=>⟨a,c,rfl,.inl rfl⟩
theorem OwnP.heldL {w:World}{P:Nat→Prop}{base:Nat}{v:Value}{vs:List Value}{zss:List (List Int)}(h:OwnP w P base v vs zss)(hP:∀g,P g→base≤g∧g<w.heap.size):HeldL base w v zss:=by
 intro w' k;have h':OwnP w' P base v vs zss:=⟨own_same (r:=⟨50,1,v,zss.length,vs⟩) h.row (fun _ hg=>k.blk _ (h.lt _ hg).2 (h.lt _ hg).1),h.np,fun i hi=>⟨rd_blk (h.each i hi).1 k.size (fun _ hg hl=>k.blk _ hl (hP _ ((h.each i hi).2 _ hg)).1),(h.each i hi).2⟩⟩;exact h'.rdL
section
structure TO (w0 w:World)(P:Nat→Prop)(vo:Value)(ho:List Value)(out:List (List Int)):Prop where
 low:∀g,P g→w0.heap.size≤g∧g<w.heap.size
 o:OwnP w P w0.heap.size vo ho out
 K:Keep w0 w
section
variable {w0 w w':World} {P:Nat→Prop} {vo v':Value} {ho h':List Value} {out out':List (List Int)}
theorem TO.keep (h:TO w0 w P vo ho out)(k:Keep w w'):TO w0 w' P vo ho out:=
 ⟨fun g hg=>⟨(h.low g hg).1,Nat.lt_of_lt_of_le (h.low g hg).2 k.size⟩,h.o.kept k.grownBy (by simp),h.K.trans k⟩
theorem TO.wide (h:TO w0 w P vo ho out)(k:Keep w w'):TO w0 w' (fun g=>P g∨(w.heap.size≤g∧g<w'.heap.size)) vo ho out:=by
 have h1:=h.keep k;refine⟨fun g hg=>?_,h1.o.mono (fun _ => .inl) (fun g hg hp=>?_),h1.K⟩
 ·
  rcases hg with hg|hg
  · exact h1.low g hg
  · exact⟨Nat.le_trans h.K.size hg.1,hg.2⟩
 ·
  rcases hp with hp|hp
  · exact h.o.np g hg hp
  · have:=(h.o.lt g hg).2;omega
theorem TO.put (h:TO w0 w P vo ho out)(o:OwnP w' P w0.heap.size v' h' out')(hg:w.grownBy w' vo.ownBlock):TO w0 w' P v' h' out'∧PStay P w w':=
 ⟨⟨fun g hp=>⟨(h.low g hp).1,Nat.lt_of_lt_of_le (h.low g hp).2 hg.size⟩,o,h.K.grown hg (fun g hr=>(h.o.lt g hr).1)⟩,PStay.of_grown hg h.o.np⟩
theorem to_new (w:World):TO w (w.alloc (.cells #[] 50)) (fun _=>False) (.slice (some ⟨w.heap.size,0,none⟩) 0 0) [] []:=
 ⟨fun _ h=>h.elim,⟨World.ownsRow_lit w #[] 0 (Nat.le_refl _) (by decide) rfl,fun _ _ h=>h,fun i hi=>by simp at hi⟩,(Keep.refl w).alloc _⟩
end
structure TS (dss:List (List Dd))(strict:Bool)(out:List (List Int)):Prop where
 ord:Ord out
 sub:∀x,x∈out→x∈toldB dss strict
theorem TS.len {dss:List (List Dd)}(hb:workB dss=true){strict:Bool}{out:List (List Int)}(h:TS dss strict out):out.length≤78125:=
 Nat.le_trans (nodup_lenT (ord_nodup h.ord) h.sub) (ends_len hb (told_ends hb strict))
theorem TS.lens {dss:List (List Dd)}(hb:workB dss=true){strict:Bool}{out:List (List Int)}(h:TS dss strict out):∀i,i<out.length→(out.getD i []).length≤1048576:=fun i hi=>by
 have hm:out.getD i []∈out:=by rw[List.getD_eq_getElem?_getD,List.getElem?_eq_getElem hi];exact List.getElem_mem hi
 obtain⟨i',hi',e⟩:=List.getElem_of_mem (h.sub _ hm);have:=(told_ends hb strict).lens hb i' hi';rw[List.getD_eq_getElem?_getD,List.getElem?_eq_getElem hi',Option.getD_some,e] at this;omega
abbrev cnS (dss:List (List Dd)):Nat:=srcN (chcL (eventsB dss)) (chcL (eventsB dss)).length
abbrev rnS (dss:List (List Dd)):Nat:=(rcntL (eventsB dss)).toNat
theorem told_step {dss:List (List Dd)}(hb:workB dss=true){strict:Bool}{n k:Nat}(hn:n<cnS dss)(hk:k≤rnS dss):TS dss strict (toldR dss strict (atL (chcL (eventsB dss)) (n:Int)) (toldK dss strict n) k):=by
 obtain⟨h1,h2⟩:=toldK_spec (dss:=dss) (strict:=strict) n;obtain⟨r1,r2⟩:=toldR_spec (dss:=dss) (strict:=strict) (f:=atL (chcL (eventsB dss)) (n:Int)) h1 k;obtain⟨t1,t2⟩:=toldK_spec (dss:=dss) (strict:=strict) (cnS dss);refine⟨r1,fun x hx=>?_⟩;unfold toldB;rw[if_pos hb,t2];rcases (r2 x).1 hx with h|⟨i,hi,h⟩
 ·
  obtain⟨m,i,hm,hi,h⟩:=(h2 x).1 h;exact⟨m,i,by omega,hi,h⟩
 · exact⟨n,i,hn,by have hk':k≤(rcntL (eventsB dss)).toNat:=hk;omega,h⟩
theorem told_tale {dss:List (List Dd)}(hb:workB dss=true)(n:Nat){k:Nat}(hk:k<rnS dss):taleB dss (atL (chcL (eventsB dss)) (n:Int)) (ratL (eventsB dss) (k:Int))=true:=by
 have hk':k<(rcntL (eventsB dss)).toNat:=hk;unfold taleB sourceB rowsB;rw[hb,at_src (chc_full hb).1,rat_ok hb (by omega) (by omega)];rfl
end
section
def HeldR (w:World)(P:Nat→Prop)(v:Value)(zs:List Int):Prop:=∀w':World,PStay P w w'→Rd w' v zs
def HeldE (w:World)(P:Nat→Prop)(v:Value)(es:List Ev):Prop:=∀w':World,PStay P w w'→RdE w' v es
section
variable {w w':World} {P P':Nat→Prop} {v:Value} {zs:List Int} {es:List Ev}
theorem HeldR.rd (h:HeldR w P v zs):Rd w v zs:=h w ⟨Nat.le_refl _,fun _ _ _=>rfl⟩
theorem HeldR.on (h:HeldR w P v zs)(k:PStay P w w'):HeldR w' P v zs:=fun w'' k'=>h w'' (k.trans k')
theorem HeldR.mono (h:HeldR w P v zs)(hp:∀g,P g→P' g):HeldR w P' v zs:=fun w' k=>h w' (k.mono hp)
theorem HeldE.rd (h:HeldE w P v es):RdE w v es:=h w ⟨Nat.le_refl _,fun _ _ _=>rfl⟩
theorem HeldE.on (h:HeldE w P v es)(k:PStay P w w'):HeldE w' P v es:=fun w'' k'=>h w'' (k.trans k')
theorem HeldE.mono (h:HeldE w P v es)(hp:∀g,P g→P' g):HeldE w P' v es:=fun w' k=>h w' (k.mono hp)
theorem held_rd (h:Rd w v zs)(hp:∀g,v.ownBlock=some g→P g):HeldR w P v zs:=fun _ k=>rd_blk h k.size (fun g hg hl=>k.blk g hl (hp g hg))
theorem held_own {b:Nat}(h:Own w b v zs)(hp:∀g,b≤g→g<w.heap.size→P g):HeldR w P v zs:=held_rd h.rd (fun g hg=>hp g (h.ge g hg) (World.ownsRow.lt h g hg).2)
theorem held_row {b:Nat}(h:Row w b v zs)(hp:∀g,b≤g→g<w.heap.size→P g):HeldR w P v zs:=by
 refine held_rd h.rd (fun g hg=>?_);rcases h with ⟨rfl,_⟩|⟨q,cap,rfl,hb,hr⟩
 · simp[Value.ownBlock] at hg
 ·
  have e:q=g:=Option.some.inj hg;subst e;exact hp q hb hr.lt
theorem held_ev {b:Nat}(h:AppE w b v es)(hp:∀g,b≤g→g<w.heap.size→P g):HeldE w P v es:=by
 intro w' k;obtain⟨a,c,rfl,hr⟩:=h.rd;refine⟨a,c,rfl,?_⟩;rcases hr with hr|⟨q,o,rfl,hq,hc⟩
 · exact .inl hr
 ·
  have hb:=h.lt q rfl;exact .inr ⟨q,o,rfl,Nat.lt_of_lt_of_le hq k.size,fun i x hx=>(hc i x hx).same (k.blk q hq (hp q hb.1 hq))⟩
end
end
theorem specReadsOf_any (w:World)(v:Value)(es:List Ev)(h:RdE w v es)(hx:es.length≤1048576):
  Calls Tryz.prog 168 #[v] w fun e w'=>∃v',e = .returned v'∧Own w' w.heap.size v' (idxB rdE es)∧Keep w w':=by
 have hown0:Own (w.alloc (.cells #[] 2)) w.heap.size (.slice (some ⟨w.heap.size,0,none⟩) 0 0) []:=World.ownsRow_lit w #[] 0 (Nat.le_refl _) (by decide) rfl;obtain⟨a,cap,rfl,h⟩:=h;by_cases hl:12<es.length
 ·
  have HE:Hid (idxB rdE es=[]):=Lib.hid (by unfold idxB;rw[if_neg (by omega)]);have l1:(12:Int)<(es.length:Int):=by omega
  go_enter Tryz.func168,Tryz.ntmps168
  go_wp2;refine wp_loop_rounds 1 ?_;rw[rounds_succ];go_wp2;go_ret;exact⟨_,rfl,by rw[HE.out];exact hown0,(Keep.refl _).alloc _⟩
 have l1:es.length≤12:=by omega
 clear hl;have HE:Hid (idxB rdE es=idxK rdE es es.length):=Lib.hid (by unfold idxB;rw[if_pos l1]);obtain⟨i0,hi,hz0,hz1,hz2⟩:=info_parts Tryz.infoI;go_enter Tryz.func168,Tryz.ntmps168
 go_wp2;go_loopw [3,4] (fun v i wr=>∃k:Nat,k≤es.length∧i = .int .i64 k∧Own wr w.heap.size v (idxK rdE es k)∧Keep w wr) (fun _ i _=>es.length-(intOf i).toNat)
 case atStart=>exact⟨0,Nat.zero_le _,rfl,hown0,(Keep.refl _).alloc _⟩
 case round=>
  obtain⟨k,hk,rfl,ho,hK⟩:=hrel;clear hown0;by_cases hlt:k<es.length
  ·
   rcases h with h|⟨b,off,rfl,hb,hc⟩
   · exfalso;rw[h] at hlt;simp at hlt
   have AT:=(hc k _ (evs_get hlt)).keep hb hK;have hbw:b<wr.heap.size:=Nat.lt_of_lt_of_le hb hK.size;clear hc;have hml:(idxK rdE es k).length≤k:=idxK_len rdE es k;have hsz:=hK.size;have i1:(0:Int)≤(k:Int):=Int.natCast_nonneg _;have i2:(k:Int)<(es.length:Int):=by omega
   have l2:(es.length:Int)≤12:=by omega
   have HP:Hid (idxK rdE es (k+1)=if rdE (es.getD k zE)=true then idxK rdE es k++[(k:Int)] else idxK rdE es k):=Lib.hid rfl;obtain⟨e,he⟩:∃e,e=es.getD k zE:=⟨_,rfl⟩;rw[←he] at AT HP;clear he;obtain⟨x0,x1,x2,x3,x4,x5⟩:=e;obtain⟨-,-,A2,-,-,-⟩:=atE AT;clear AT;cases x2
   ·
    have HM:Hid (idxK rdE es (k+1)=idxK rdE es k):=Lib.hid (by rw[HP.out];rfl);clear HP;go_wp2;go_roundw;case rel=>exact⟨k+1,by omega,by go_num,by rw[HM.out];exact ho,hK⟩
    case measure=>simp[intOf];omega
   ·
    have HM:Hid (idxK rdE es (k+1)=idxK rdE es k++[(k:Int)]):=Lib.hid (by rw[HP.out];rfl);clear HP;go_wp2_with (at_builtin;refine wpList_append_own _ rfl _ _ 50 rfl w.heap.size 2 i0 (.int .i64 0) 1 8 Tryz.underlying50 hi hz0 hz1 hz2 rfl (by decide) _ _ _ rfl (World.ownsRow.alloc ho _) ⟨_,0,none⟩ 1 1 [.int .i64 k] rfl rfl ?c1 ?c2 ?c3 ?c4 ?c5 ?_)
    case c1=>
     intro j u hj
     match j,hj with
     | 0,hj=>simp at hj;subst hj;simp[Addr.add]
    case c2=>intro u hu;simp at hu;subst hu;rfl
    case c3=>unfold maxLen;omega
    case c4=>omega
    case c5=>simp;omega
    intro v' w1 hown' hgrow _;have hK1:Keep w w1:=(hK.alloc _).grown hgrow ho.ge;clear hgrow;go_wp2;go_roundw;case rel=>exact⟨k+1,by omega,by go_num,by rw[HM.out];exact own_hit hown',hK1⟩
    case measure=>simp[intOf];omega
  ·
   obtain rfl:k=es.length:=by omega
   go_wp2;go_ret;exact⟨_,rfl,by rw[HE.out];exact ho,hK⟩
theorem specWritesTo_any (w:World)(v:Value)(es:List Ev)(p:Int)(h:RdE w v es)(hx:es.length≤1048576):
  Calls Tryz.prog 169 #[v,.int .i64 p] w fun e w'=>∃v',e = .returned v'∧Own w' w.heap.size v' (idxB (toE p) es)∧Keep w w':=by
 have hown0:Own (w.alloc (.cells #[] 2)) w.heap.size (.slice (some ⟨w.heap.size,0,none⟩) 0 0) []:=World.ownsRow_lit w #[] 0 (Nat.le_refl _) (by decide) rfl;obtain⟨a,cap,rfl,h⟩:=h;by_cases hl:12<es.length
 ·
  have HE:Hid (idxB (toE p) es=[]):=Lib.hid (by unfold idxB;rw[if_neg (by omega)]);have l1:(12:Int)<(es.length:Int):=by omega
  go_enter Tryz.func169,Tryz.ntmps169
  go_wp2;refine wp_loop_rounds 1 ?_;rw[rounds_succ];go_wp2;go_ret;exact⟨_,rfl,by rw[HE.out];exact hown0,(Keep.refl _).alloc _⟩
 have l1:es.length≤12:=by omega
 clear hl;have HE:Hid (idxB (toE p) es=idxK (toE p) es es.length):=Lib.hid (by unfold idxB;rw[if_pos l1]);obtain⟨i0,hi,hz0,hz1,hz2⟩:=info_parts Tryz.infoI;go_enter Tryz.func169,Tryz.ntmps169
 go_wp2;go_loopw [5,6] (fun v i wr=>∃k:Nat,k≤es.length∧i = .int .i64 k∧Own wr w.heap.size v (idxK (toE p) es k)∧Keep w wr) (fun _ i _=>es.length-(intOf i).toNat)
 case atStart=>exact⟨0,Nat.zero_le _,rfl,hown0,(Keep.refl _).alloc _⟩
 case round=>
  obtain⟨k,hk,rfl,ho,hK⟩:=hrel;clear hown0;by_cases hlt:k<es.length
  ·
   rcases h with h|⟨b,off,rfl,hb,hc⟩
   · exfalso;rw[h] at hlt;simp at hlt
   have AT:=(hc k _ (evs_get hlt)).keep hb hK;have hbw:b<wr.heap.size:=Nat.lt_of_lt_of_le hb hK.size;clear hc;have hml:(idxK (toE p) es k).length≤k:=idxK_len (toE p) es k;have hsz:=hK.size;have i1:(0:Int)≤(k:Int):=Int.natCast_nonneg _;have i2:(k:Int)<(es.length:Int):=by omega
   have l2:(es.length:Int)≤12:=by omega
   have HP:Hid (idxK (toE p) es (k+1)=if toE p (es.getD k zE)=true then idxK (toE p) es k++[(k:Int)] else idxK (toE p) es k):=Lib.hid rfl;obtain⟨e,he⟩:∃e,e=es.getD k zE:=⟨_,rfl⟩;rw[←he] at AT HP;clear he;obtain⟨x0,x1,x2,x3,x4,x5⟩:=e;obtain⟨-,-,A2,A3,-,-⟩:=atE AT;clear AT;cases x2
   ·
    by_cases hp:x3=p
    ·
     subst hp;have HM:Hid (idxK (toE x3) es (k+1)=idxK (toE x3) es k++[(k:Int)]):=Lib.hid (by rw[HP.out];simp[toE]);clear HP;go_wp2_with (at_builtin;refine wpList_append_own _ rfl _ _ 50 rfl w.heap.size 2 i0 (.int .i64 0) 1 8 Tryz.underlying50 hi hz0 hz1 hz2 rfl (by decide) _ _ _ rfl (World.ownsRow.alloc ho _) ⟨_,0,none⟩ 1 1 [.int .i64 k] rfl rfl ?c1 ?c2 ?c3 ?c4 ?c5 ?_)
     case c1=>
      intro j u hj
      match j,hj with
      | 0,hj=>simp at hj;subst hj;simp[Addr.add]
     case c2=>intro u hu;simp at hu;subst hu;rfl
     case c3=>unfold maxLen;omega
     case c4=>omega
     case c5=>simp;omega
     intro v' w1 hown' hgrow _;have hK1:Keep w w1:=(hK.alloc _).grown hgrow ho.ge;clear hgrow;go_wp2;go_roundw;case rel=>exact⟨k+1,by omega,by go_num,by rw[HM.out];exact own_hit hown',hK1⟩
     case measure=>simp[intOf];omega
    ·
     have HM:Hid (idxK (toE p) es (k+1)=idxK (toE p) es k):=Lib.hid (by rw[HP.out];simp[toE,hp]);clear HP;go_wp2;go_roundw;case rel=>exact⟨k+1,by omega,by go_num,by rw[HM.out];exact ho,hK⟩
     case measure=>simp[intOf];omega
   ·
    have HM:Hid (idxK (toE p) es (k+1)=idxK (toE p) es k):=Lib.hid (by rw[HP.out];simp[toE]);clear HP;go_wp2;go_roundw;case rel=>exact⟨k+1,by omega,by go_num,by rw[HM.out];exact ho,hK⟩
    case measure=>simp[intOf];omega
  ·
   obtain rfl:k=es.length:=by omega
   go_wp2;go_ret;exact⟨_,rfl,by rw[HE.out];exact ho,hK⟩
end Go.Proofs.YtkmjmnljkidobaaGreat
