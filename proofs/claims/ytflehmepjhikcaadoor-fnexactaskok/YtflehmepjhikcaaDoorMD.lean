/- Gathered texts. -/
import Derived.Test.YtflehmepjhikcaaDoorRows
import Derived.Test.YtflehmepjhikcaaDoorMA
import Derived.OpenShut
import Derived.Deep.Slices
import Derived.Lib.SmallJoins
import Derived.Outline
import Derived.OwnWalk
import Derived.Lib.Hide
import Derived.BigRegion
import Derived.Deep.CutRange
import Derived.BigQuiet
set_option maxRecDepth 100000
set_option maxHeartbeats 8000000
namespace Go.Proofs.YtflehmepjhikcaaDoor
open Go.ChangeShapes Go.WideShapes Go.ChangeAt Go.RowKit
theorem l1In_any (x lo hi:Int)(w:World):
  Calls Tryd.prog 37 #[.int .i64 x,.int .i64 lo,.int .i64 hi] w fun e w'=>e = .returned (.bool (inB x lo hi))∧w'=w:=by
 go_enter Tryd.func37,Tryd.ntmps37
 go_wp2
 all_goals
  go_ret;exact⟨ret_bool (by rw[Bool.eq_iff_iff];unfold inB;simp;omega),rfl⟩
abbrev deedV (k p v g:Int):Value:= .agg #[.int .i64 k,.int .i64 p,.int .i64 v,.int .i64 g]
theorem specDeedOk_any (k p v g:Int)(w:World):
  Calls Tryd.prog 60 #[deedV k p v g] w fun e w'=>e = .returned (.bool (deedB k p v g))∧Keep w w':=by
 unfold deedV;go_enter Tryd.func60,Tryd.ntmps60
 go_wp2_with (go_at_call 37;refine (l1In_any _ _ _ _).mono ?_;rintro e w' ⟨rfl,rfl⟩)
 all_goals
  go_ret;refine⟨ret_bool ?_,(Keep.refl w).alloc _⟩;simp[inB] at *;rw[Bool.eq_iff_iff];simp[deedB];omega
abbrev dV (d:Dd):Value:=deedV d.1 d.2.1 d.2.2.1 d.2.2.2
def AtD (w:World)(b o:Nat)(d:Dd):Prop:=
 w.cell? ⟨b,o,none⟩=some (.int .i64 d.1)∧w.cell? ⟨b,o+1,none⟩=some (.int .i64 d.2.1)∧w.cell? ⟨b,o+2,none⟩=some (.int .i64 d.2.2.1)∧w.cell? ⟨b,o+3,none⟩=some (.int .i64 d.2.2.2)
def RdD (w:World)(v:Value)(ds:List Dd):Prop:=
 ∃(a:Option Addr) (cap:Nat),v = .slice a ds.length (ds.length+cap) ∧
  (ds=[]∨∃b off,a=some ⟨b,off,none⟩∧b<w.heap.size∧∀i,i<ds.length→AtD w b (off+i*4) (ds.getD i zD))
def RdW (w:World)(v:Value)(dss:List (List Dd)):Prop:=
 ∃(a:Option Addr) (cap:Nat),v = .slice a dss.length cap ∧
  (dss=[]∨∃b off,a=some ⟨b,off,none⟩∧b<w.heap.size∧∀i,i<dss.length→∃vi,w.cell? ⟨b,off+i,none⟩=some vi∧RdD w vi (dss.getD i []))
theorem AtD.keep {w w':World}{b o:Nat}{d:Dd}(h:AtD w b o d)(hb:b<w.heap.size)(k:Keep w w'):AtD w' b o d:=
 ⟨(k.cell hb).trans h.1,(k.cell hb).trans h.2.1,(k.cell hb).trans h.2.2.1,(k.cell hb).trans h.2.2.2⟩
theorem RdD.keep {w w':World}{v:Value}{ds:List Dd}(h:RdD w v ds)(k:Keep w w'):RdD w' v ds:=by
 obtain⟨a,cap,hv,h⟩:=h;refine⟨a,cap,hv,?_⟩;rcases h with h|⟨b,off,ha,hb,hc⟩
 · exact .inl h
 · exact .inr ⟨b,off,ha,Nat.lt_of_lt_of_le hb k.size,fun i hi=>(hc i hi).keep hb k⟩
theorem RdW.keep {w w':World}{v:Value}{dss:List (List Dd)}(h:RdW w v dss)(k:Keep w w'):RdW w' v dss:=by
 obtain⟨a,cap,hv,h⟩:=h;refine⟨a,cap,hv,?_⟩;rcases h with h|⟨b,off,ha,hb,hc⟩
 · exact .inl h
 ·
  refine .inr ⟨b,off,ha,Nat.lt_of_lt_of_le hb k.size,fun i hi=>?_⟩;obtain⟨vi,h1,h2⟩:=hc i hi;exact⟨vi,(k.cell hb).trans h1,h2.keep k⟩
theorem Keep.set {w wr:World}(h:Keep w wr){g:Nat}(hg:w.heap.size≤g)(i:Nat)(x:Value):Keep w (wr.setCell ⟨g,i,none⟩ x):=
 h.grown (row:=some g) ⟨rfl,rfl,rfl,by simp,fun k _ hk=>heap_setCell_other wr ⟨g,i,none⟩ k x (fun e=>hk (by simp[e]))⟩ (fun k hk=>by simp at hk;omega)
section
section
variable {H:Type} {enc:TypeId×Value→H} {w:World} {base:Nat} {held:Bool}
theorem open_deeds {fuel:Nat}{v:Value}{x:DataW H×List MemPlace}(h:DataW.trod enc Tryd.prog w base (fun _=>true) held fuel 66 [v]=some x):∃ds,RdD w v ds∧ds.length≤maxLen:=by
 have c4:Tryd.prog.cellsOf 101=4:=by kernel_rfl
 have c2:Tryd.prog.cellsOf 2=1:=by kernel_rfl
 rcases Deep.open_slice Tryd.underlying66 h with ⟨hcs,_⟩|⟨a,len,cap,m,n,D,Pl,hcs,hb,hl,hm,hmm,_,hx⟩
 ·
  simp only[List.cons.injEq,and_true] at hcs;subst hcs;exact⟨[],⟨none,0,rfl,.inl rfl⟩,by simp⟩
 ·
  simp only[List.cons.injEq,and_true] at hcs;subst hcs;have hlm:len≤m:=by rw[hmm];split<;>omega
  have each:∀i,i<len→∃d:Dd,w.cell? (a.add (i*4))=some (.int .i64 d.1)∧w.cell? (a.add (i*4+1))=some (.int .i64 d.2.1)∧w.cell? (a.add (i*4+2))=some (.int .i64 d.2.2.1)∧w.cell? (a.add (i*4+3))=some (.int .i64 d.2.2.2):=by
   intro i hi;obtain⟨cs',h1,h2⟩:=hx i (by omega);rw[c4] at h1;obtain⟨_,hlen,hcell⟩:=World.cells?_some h1;obtain⟨xs,k,hk,hxy,_,hxl,hf⟩:=DataW.trod_struct Tryd.underlying101 h2
   match xs,hxl,cs',hlen with
   | [y0,y1,y2,y3],_,[v0,v1,v2,v3],_=>
    have g0:=hf 0 _ rfl;have g1:=hf 1 _ rfl;have g2:=hf 2 _ rfl;have g3:=hf 3 _ rfl;simp[c2] at g0 g1 g2 g3;obtain⟨k0,e0,_,_⟩:=DataW.trod_int Tryd.underlying2 g0;obtain⟨k1,e1,_,_⟩:=DataW.trod_int Tryd.underlying2 g1;obtain⟨k2,e2,_,_⟩:=DataW.trod_int Tryd.underlying2 g2;obtain⟨k3,e3,_,_⟩:=DataW.trod_int Tryd.underlying2 g3;simp only[List.cons.injEq,and_true] at e0 e1 e2 e3;subst e0 e1 e2 e3;have f0:=hcell 0 (by omega);have f1:=hcell 1 (by omega);have f2:=hcell 2 (by omega);have f3:=hcell 3 (by omega);rw[Deep.add_add] at f0 f1 f2 f3;exact⟨(k0,k1,k2,k3),by simpa using f0,by simpa using f1,by simpa using f2,by simpa using f3⟩
  obtain⟨f,hf⟩:=Deep.choose_lt each;refine⟨(List.range len).map f,⟨some a,cap-len,by simp;omega,?_⟩,by simp;omega⟩;by_cases h0:len=0
  · left;subst h0;rfl
  ·
   right;obtain⟨b,off,spot⟩:=a;have hc0:=(hf 0 (by omega)).1;have hspot:spot=none:=by simpa [Addr.add] using World.cell?_spot hc0
   subst hspot
   have hbl:b<w.heap.size:=by
    rw[plain_add] at hc0;exact block_lt hc0
   refine⟨b,off,rfl,hbl,fun i hi=>?_⟩;have hi':i<len:=by simpa using hi
   rw[range_getD f len i zD hi'];obtain⟨q0,q1,q2,q3⟩:=hf i hi';rw[plain_add] at q0 q1 q2 q3;exact⟨q0,q1,q2,q3⟩
theorem open_work {r:Reach}{b0:Nat}{v:Value}{d:DataW H}{p:List MemPlace}(hv:Value.okWide Tryd.prog w r b0 33 v)(h:DataW.Trod enc Tryd.prog w base (fun _=>true) held 33 v d p):∃dss,RdW w v dss∧dss.length≤maxLen∧∀i,i<dss.length→(dss.getD i []).length≤maxLen:=by
 obtain⟨a0,len0,cap0,rfl⟩:=okWide_slice Tryd.underlying33 hv;obtain⟨fuel,hf⟩:=h;rcases Deep.open_slice1 Tryd.underlying33 (by kernel_rfl) hf with ⟨hcs,_⟩|⟨a,len,cap,m,n,V,D,Pl,hcs,hb,hl,hm,hmm,_,hx⟩
 ·
  simp[Value.cells] at hcs;obtain⟨rfl,rfl,rfl⟩:=hcs;exact⟨[],⟨none,0,rfl,.inl rfl⟩,by simp,by simp⟩
 ·
  simp[Value.cells] at hcs;obtain⟨rfl,rfl,rfl⟩:=hcs;have hlm:len0≤m:=by rw[hmm];split<;>omega
  have each:∀i,i<len0→∃ds:List Dd,w.cell? (a.add i)=some (V i)∧RdD w (V i) ds∧ds.length≤maxLen:=by
   intro i hi;obtain⟨h1,h2⟩:=hx i (by omega);obtain⟨ds,h3,h4⟩:=open_deeds h2;exact⟨ds,h1,h3,h4⟩
  obtain⟨f,hf⟩:=Deep.choose_lt each;refine⟨(List.range len0).map f,⟨some a,cap0,by simp,?_⟩,by simp;omega,fun i hi=>by rw[range_getD f len0 i [] (by simpa using hi)];exact (hf i (by simpa using hi)).2.2⟩;by_cases h0:len0=0
  · left;subst h0;rfl
  ·
   right;obtain⟨b,off,spot⟩:=a;have hc0:=(hf 0 (by omega)).1;have hspot:spot=none:=by simpa [Addr.add] using World.cell?_spot hc0
   subst hspot
   have hbl:b<w.heap.size:=by
    rw[plain_add] at hc0;exact block_lt hc0
   refine⟨b,off,rfl,hbl,fun i hi=>?_⟩;have hi':i<len0:=by simpa using hi
   rw[range_getD f len0 i [] hi'];obtain⟨q0,q1,_⟩:=hf i hi';rw[plain_add] at q0;exact⟨V i,q0,q1⟩
end
end
theorem Tryd.infoD:(Tryd.prog.info? 96).map (fun i=>(i.zero,i.size,i.bytes))=some (some (.agg #[.int .i64 0,.int .i64 0,.int .i64 0,.int .i64 0]),4,32):=by kernel_rfl
def Blk (w:World)(g n:Nat):Prop:=∃cur t,w.heap[g]? = some (.cells cur t (0,0))∧n≤cur.size
theorem Blk.free {w:World}{g n:Nat}(h:Blk w g n)(i:Nat):w.frozen? ⟨g,i,none⟩=false:=by
 obtain⟨cur,t,h,_⟩:=h;exact frozen_of_row w g i cur t h
theorem Blk.cell {w:World}{g n:Nat}(h:Blk w g n){i:Nat}(hi:i<n):∃u,w.cell? ⟨g,i,none⟩=some u:=by
 obtain⟨cur,t,h,hn⟩:=h;exact⟨cur[i]'(by omega),by rw[cell_of_row w g i cur t (0,0) h,Array.getElem?_eq_getElem (by omega)]⟩
theorem Blk.lt {w:World}{g n:Nat}(h:Blk w g n):g<w.heap.size:=by
 obtain⟨cur,t,h,_⟩:=h;exact (Array.getElem?_eq_some_iff.1 h).1
theorem Blk.set {w:World}{g n:Nat}(h:Blk w g n)(i:Nat)(x:Value):Blk (w.setCell ⟨g,i,none⟩ x) g n:=by
 obtain⟨cur,t,h,hn⟩:=h;exact⟨cur.setIfInBounds i x,t,heap_setCell_same w g i cur t x h,by simpa using hn⟩
theorem Blk.kept {w w':World}{g n:Nat}{row:Option Nat}(h:Blk w g n)(hg:w.grownBy w' row)(hne:row≠some g):Blk w' g n:=by
 have hl:=h.lt;obtain⟨cur,t,h,hn⟩:=h;exact⟨cur,t,(hg.block g hl (fun e=>hne e.symm)).trans h,hn⟩
def OwnD (w:World)(base:Nat)(v:Value)(ds:List Dd):Prop:=
 ∃(a:Option Addr) (cap:Nat),v = .slice a ds.length (ds.length+cap)∧(ds=[]∨∃g,a=some ⟨g,0,none⟩∧base≤g∧Blk w g (ds.length*4)∧∀i,i<ds.length→AtD w g (i*4) (ds.getD i zD))
theorem OwnD.rd {w:World}{base:Nat}{v:Value}{ds:List Dd}(h:OwnD w base v ds):RdD w v ds:=by
 obtain⟨a,cap,hv,h⟩:=h;refine⟨a,cap,hv,?_⟩;rcases h with h|⟨g,ha,_,hb,hc⟩
 · exact .inl h
 · exact .inr ⟨g,0,ha,hb.lt,fun i hi=>by rw[Nat.zero_add];exact hc i hi⟩
theorem putD {w:World}{g o:Nat}{d:Dd}{b' o':Nat}{d':Dd}(h:AtD w b' o' d')(hne:b'≠g∨o'+4≤o∨o+4≤o'):
  AtD ((((w.setCell ⟨g,o,none⟩ (.int .i64 d.1)).setCell ⟨g,o+1,none⟩ (.int .i64 d.2.1)).setCell ⟨g,o+2,none⟩ (.int .i64 d.2.2.1)).setCell ⟨g,o+3,none⟩ (.int .i64 d.2.2.2)) b' o' d':=by
 have key:∀(w:World) (j:Nat) (x:Value) (q:Nat),q<o'+4→o'≤q→o≤j→j<o+4→(w.setCell ⟨g,j,none⟩ x).cell? ⟨b',q,none⟩=w.cell? ⟨b',q,none⟩:=by
  intro w j x q h1 h2 h3 h4;refine World.cell?_setCell_other _ _ _ _ (fun e=>?_);have e1:g=b'∧j=q:=by simpa using e
  omega
 unfold AtD at *;refine⟨?_,?_,?_,?_⟩
 all_goals
  rw[key _ _ _ _ (by omega) (by omega) (by omega) (by omega),key _ _ _ _ (by omega) (by omega) (by omega) (by omega),key _ _ _ _ (by omega) (by omega) (by omega) (by omega),key _ _ _ _ (by omega) (by omega) (by omega) (by omega)]
 · exact h.1
 · exact h.2.1
 · exact h.2.2.1
 · exact h.2.2.2
theorem putD_same {w:World}{g o n:Nat}{d:Dd}(hb:Blk w g n)(ho:o+4≤n):
  AtD ((((w.setCell ⟨g,o,none⟩ (.int .i64 d.1)).setCell ⟨g,o+1,none⟩ (.int .i64 d.2.1)).setCell ⟨g,o+2,none⟩ (.int .i64 d.2.2.1)).setCell ⟨g,o+3,none⟩ (.int .i64 d.2.2.2)) g o d:=by
 have oth:∀(w:World) (j q:Nat) (x:Value),j≠q→(w.setCell ⟨g,j,none⟩ x).cell? ⟨g,q,none⟩=w.cell? ⟨g,q,none⟩:=by
  intro w j q x h;exact World.cell?_setCell_other _ _ _ _ (by intro e;apply h;injection e)
 have h1:=hb.set o (.int .i64 d.1);have h2:=h1.set (o+1) (.int .i64 d.2.1);have h3:=h2.set (o+2) (.int .i64 d.2.2.1);obtain⟨u0,e0⟩:=hb.cell (show o<n by omega);obtain⟨u1,e1⟩:=h1.cell (show o+1<n by omega);obtain⟨u2,e2⟩:=h2.cell (show o+2<n by omega);obtain⟨u3,e3⟩:=h3.cell (show o+3<n by omega);refine⟨?_,?_,?_,?_⟩
 · rw[oth _ _ _ _ (by omega),oth _ _ _ _ (by omega),oth _ _ _ _ (by omega),World.cell?_setCell_same _ _ _ e0]
 · rw[oth _ _ _ _ (by omega),oth _ _ _ _ (by omega),World.cell?_setCell_same _ _ _ e1]
 · rw[oth _ _ _ _ (by omega),World.cell?_setCell_same _ _ _ e2]
 · rw[World.cell?_setCell_same _ _ _ e3]
theorem Blk.ofOwn {w:World}{base e size g n:Nat}{xs:List Value}(h:w.ownsRow base e size (.slice (some ⟨g,0,none⟩) n n) n xs):Blk w g (n*size):=by
 rcases h.2 with ⟨hv,_⟩|⟨g',cap,cur,hv,_,hg,_,_,hs,_⟩
 · cases hv
 ·
  simp only[Value.slice.injEq,Option.some.injEq,Addr.mk.injEq,and_true,true_and] at hv;obtain⟨rfl,rfl⟩:=hv;exact⟨cur,e,hg,by rw[hs];exact Nat.le_refl _⟩
theorem OwnD.keep {w w':World}{base:Nat}{v:Value}{ds:List Dd}(h:OwnD w base v ds)(k:Keep w w'):OwnD w' base v ds:=by
 obtain⟨a,cap,hv,h⟩:=h;refine⟨a,cap,hv,?_⟩;rcases h with h|⟨g,ha,hb,hB,hc⟩
 · exact .inl h
 · exact .inr ⟨g,ha,hb,hB.kept k.grownBy (by simp),fun i hi=>(hc i hi).keep hB.lt k⟩
theorem OwnD.kept {w w':World}{base:Nat}{v:Value}{ds:List Dd}{row:Option Nat}(h:OwnD w base v ds)(hg:w.grownBy w' row)(hne:ds=[]∨v.ownBlock≠row):OwnD w' base v ds:=by
 obtain⟨a,cap,rfl,h⟩:=h;refine⟨a,cap,rfl,?_⟩;rcases h with h|⟨g,rfl,hb,hB,hc⟩
 · exact .inl h
 ·
  rcases hne with hne|hne
  · exact .inl hne
  ·
   have hne':row≠some g:=fun e=>hne (by simp[Value.ownBlock,e])
   have hcell:∀j,w'.cell? ⟨g,j,none⟩=w.cell? ⟨g,j,none⟩:=fun j=>World.cell?_of_block (w:=w) (hg.block g hB.lt (fun e=>hne' e.symm))
   exact .inr ⟨g,rfl,hb,hB.kept hg hne',fun i hi=>⟨(hcell _).trans (hc i hi).1,(hcell _).trans (hc i hi).2.1,(hcell _).trans (hc i hi).2.2.1,(hcell _).trans (hc i hi).2.2.2⟩⟩
theorem OwnD.mono {w:World}{base base':Nat}{v:Value}{ds:List Dd}(h:OwnD w base v ds)(hb:base'≤base):OwnD w base' v ds:=by
 obtain⟨a,cap,hv,h⟩:=h;refine⟨a,cap,hv,?_⟩;rcases h with h|⟨g,ha,hg,rest⟩
 · exact .inl h
 · exact .inr ⟨g,ha,Nat.le_trans hb hg,rest⟩
theorem OwnD.block {w:World}{base:Nat}{v:Value}{ds:List Dd}(h:OwnD w base v ds)(hne:ds≠[]):∃g,v.ownBlock=some g∧base≤g∧g<w.heap.size:=by
 obtain⟨a,cap,rfl,h⟩:=h;rcases h with h|⟨g,rfl,hb,hB,_⟩
 · exact absurd h hne
 · exact⟨g,rfl,hb,hB.lt⟩
def Apart (g n:Nat)(V:Nat→Value)(D:Nat→List Dd):Prop:=
 (∀i,i<n→D i≠[]→(V i).ownBlock≠some g)∧∀i j,i<j→j<n→D i≠[]→D j≠[]→(V i).ownBlock≠(V j).ownBlock
def OwnW (w:World)(base:Nat)(v:Value)(dss:List (List Dd)):Prop:=
 ∃(a:Option Addr) (cap:Nat),v = .slice a dss.length cap∧(dss=[]∨∃(g:Nat) (V:Nat→Value),a=some ⟨g,0,none⟩∧base≤g∧Blk w g dss.length ∧
  (∀i,i<dss.length→w.cell? ⟨g,i,none⟩=some (V i)∧OwnD w base (V i) (dss.getD i []))∧Apart g dss.length V (fun i=>dss.getD i []))
theorem OwnW.rd {w:World}{base:Nat}{v:Value}{dss:List (List Dd)}(h:OwnW w base v dss):RdW w v dss:=by
 obtain⟨a,cap,hv,h⟩:=h;refine⟨a,cap,hv,?_⟩;rcases h with h|⟨g,V,ha,_,hb,hc,_⟩
 · exact .inl h
 · exact .inr ⟨g,0,ha,hb.lt,fun i hi=>⟨V i,by rw[Nat.zero_add];exact (hc i hi).1,(hc i hi).2.rd⟩⟩
theorem Tryd.infoDS:(Tryd.prog.info? 72).map (fun i=>(i.zero,i.size,i.bytes))=some (some (.slice none 0 0),1,24):=by kernel_rfl
theorem grown_put (w:World)(g j:Nat)(v:Value):w.grownBy (w.setCell ⟨g,j,none⟩ v) (some g):=
 ⟨rfl,rfl,rfl,by simp,fun k _ hk=>heap_setCell_other w ⟨g,j,none⟩ k v (fun e=>hk (by simp[e]))⟩
def ownO (v:Value)(ds:List Dd):Option Nat:=if ds=[] then none else v.ownBlock
theorem cell_same {w w':World}{b:Nat}(h:w'.heap[b]? = w.heap[b]?)(o:Nat):w'.cell? ⟨b,o,none⟩=w.cell? ⟨b,o,none⟩:=by
 simp only[World.cell?,h]
theorem AtD.same {w w':World}{b o:Nat}{d:Dd}(h:AtD w b o d)(hh:w'.heap[b]? = w.heap[b]?):AtD w' b o d:=
 ⟨(cell_same hh _).trans h.1,(cell_same hh _).trans h.2.1,(cell_same hh _).trans h.2.2.1,(cell_same hh _).trans h.2.2.2⟩
theorem Blk.same {w w':World}{g n:Nat}(h:Blk w g n)(hh:w'.heap[g]? = w.heap[g]?):Blk w' g n:=by
 obtain⟨cur,t,h,hn⟩:=h;exact⟨cur,t,hh.trans h,hn⟩
theorem OwnD.same {w w':World}{base:Nat}{v:Value}{ds:List Dd}(h:OwnD w base v ds)(hh:∀g,ownO v ds=some g→g<w.heap.size→base≤g→w'.heap[g]? = w.heap[g]?):OwnD w' base v ds:=by
 obtain⟨a,cap,rfl,h⟩:=h;refine⟨a,cap,rfl,?_⟩;rcases h with h|⟨g,rfl,hb,hB,hA⟩
 · exact .inl h
 ·
  by_cases h0:ds=[]
  · exact .inl h0
  ·
   have e:=hh g (by rw[ownO,if_neg h0];rfl) hB.lt hb;exact .inr ⟨g,rfl,hb,hB.same e,fun i hi=>(hA i hi).same e⟩
structure Only (lo hi:Nat)(w w':World):Prop where
 os:w'.os=w.os
 tape:w'.tape=w.tape
 output:w'.output=w.output
 size:w.heap.size≤w'.heap.size
 block:∀b,b<w.heap.size→(b<lo∨hi≤b)→w'.heap[b]? = w.heap[b]?
theorem Only.refl (lo hi:Nat)(w:World):Only lo hi w w:=⟨rfl,rfl,rfl,Nat.le_refl _,fun _ _ _=>rfl⟩
theorem Only.grown {lo hi:Nat}{a w w':World}{row:Option Nat}(h:Only lo hi a w)(hg:w.grownBy w' row)(hr:∀k,row=some k→lo≤k∧k<hi):Only lo hi a w':=
 ⟨hg.os.trans h.os,hg.tape.trans h.tape,hg.output.trans h.output,Nat.le_trans h.size hg.size,fun b hb ho=>(hg.block b (Nat.lt_of_lt_of_le hb h.size) (fun e=>by have:=hr b e.symm;omega)).trans (h.block b hb ho)⟩
theorem Keep.only {a w w':World}{lo hi:Nat}(h:Keep a w)(k:Only lo hi w w')(hl:a.heap.size≤lo):Keep a w':=
 ⟨k.os.trans (Below.os h),k.tape.trans (Below.tape h),k.output.trans (Below.output h),Nat.le_trans (Below.size h) k.size,fun b hb=>(k.block b (Nat.lt_of_lt_of_le hb h.size) (.inl (Nat.lt_of_lt_of_le hb hl))).trans (Below.block h b hb)⟩
theorem OwnW.only {w w':World}{base lo hi:Nat}{v:Value}{dss:List (List Dd)}(h:OwnW w base v dss)(k:Only lo hi w w')(hb:hi≤base):OwnW w' base v dss:=by
 obtain⟨a,cap,rfl,h⟩:=h;refine⟨a,cap,rfl,?_⟩;rcases h with h|⟨g,V,rfl,hg,hB,hc,hA⟩
 · exact .inl h
 ·
  have e:=k.block g hB.lt (.inr (Nat.le_trans hb hg));exact .inr ⟨g,V,rfl,hg,hB.same e,fun i hi=>⟨(cell_same e _).trans (hc i hi).1,(hc i hi).2.same (fun b _ hlt hbb=>k.block b hlt (.inr (Nat.le_trans hb hbb)))⟩,hA⟩
theorem OwnW.base_le {w:World}{base base':Nat}{v:Value}{dss:List (List Dd)}(h:OwnW w base v dss)(hb:base'≤base):OwnW w base' v dss:=by
 obtain⟨a,cap,hv,h⟩:=h;refine⟨a,cap,hv,?_⟩;rcases h with h|⟨g,V,ha,hg,hB,hc,hA⟩
 · exact .inl h
 · exact .inr ⟨g,V,ha,Nat.le_trans hb hg,hB,fun i hi=>⟨(hc i hi).1,(hc i hi).2.mono hb⟩,hA⟩
theorem lenW_take_le (dss:List (List Dd)):∀i,i≤dss.length→lenW (dss.take i)≤lenW dss:=by
 induction dss with
 |nil=>intro i _;simp
 |cons d r ih=>
  intro i hi
  cases i with
  |zero=>simp[lenW]
  |succ i=>simp only[List.take_succ_cons,lenW];have:=ih i (by simpa using hi);omega
theorem eventsB_len9 (dss:List (List Dd)):(eventsB dss).length≤9:=by
 unfold eventsB;split
 ·
  rename_i h;simp only[workB,Bool.and_eq_true,decide_eq_true_eq] at h;obtain⟨⟨⟨⟨_,h2⟩,_⟩,h4⟩,_⟩:=h;have:=evsW_len (fun i hi=>all_get [] h2 i hi) dss.length (Nat.le_refl _);omega
 · simp
theorem eventsB_len (dss:List (List Dd)):(eventsB dss).length≤1048576:=by
 have:=eventsB_len9 dss;omega
theorem okD_kind {d:Dd}(h:okD d=true):d.1=1∨d.1=2∨d.1=3∨d.1=4:=by
 simp[okD,deedB] at h;omega
theorem okD_group {d:Dd}(h:okD d=true):0≤d.2.2.2∧d.2.2.2≤9:=by
 simp[okD,deedB] at h;omega
theorem l5Events_any (w:World)(v:Value)(dss:List (List Dd))(h:RdW w v dss)(hx:dss.length≤3)(hok:∀i,i<dss.length→okL (dss.getD i [])=true):
  Calls Tryd.prog 61 #[v] w fun e w'=>e = .returned (.int .i64 (evW dss dss.length))∧Keep w w':=by
 obtain⟨a,c,rfl,h⟩:=h;go_enter Tryd.func61,Tryd.ntmps61
 go_wp2;go_loopw [3,4] (fun n i wr=>∃k:Nat,∃m:Int,k≤dss.length∧n = .int .i64 m∧i = .int .i64 k∧Hid (m=evW dss k)∧0≤m∧m≤10*k∧Keep w wr) (fun _ i _=>dss.length-(intOf i).toNat)
 case atStart=>exact⟨0,0,Nat.zero_le _,rfl,rfl,Lib.hid rfl,by omega,by omega,Keep.refl _⟩
 case round=>
  obtain⟨k,m,hk,rfl,rfl,hm,m0,m1,hK⟩:=hrel;by_cases hlt:k<dss.length
  ·
   rcases h with h|⟨b,o,rfl,hb,hc⟩
   · exfalso;rw[h] at hlt;simp at hlt
   obtain⟨u,e1,r1⟩:=hc k hlt;have d1:=(hK.cell hb).trans e1;have r1:=r1.keep hK;have okk:=hok k hlt;clear hc e1 hok;obtain⟨ds,hds⟩:∃ds,ds=dss.getD k []:=⟨_,rfl⟩;have HDS:=Lib.hid hds;rw[←hds] at r1 okk;clear hds;obtain⟨ai,ci,rfl,r1⟩:=r1;have i1:(0:Int)≤(k:Int):=Int.natCast_nonneg _;have i2:(k:Int)<(dss.length:Int):=by omega
   have hl5:ds.length≤5:=by simp[okL] at okk;omega
   have hbw:b<wr.heap.size:=Nat.lt_of_lt_of_le hb hK.size;go_wp2;obtain⟨wo,hwo⟩:∃wo:World,wo=wr:=⟨_,rfl⟩;subst hwo;go_loopw [3,5] (fun n i wq=>∃q:Nat,∃t:Int,q≤ds.length∧n = .int .i64 t∧i = .int .i64 q∧Hid (t=m+evK ds q)∧0≤t∧t≤10*k+2*q∧Keep wo wq) (fun _ i _=>ds.length-(intOf i).toNat)
   case atStart=>exact⟨0,m,Nat.zero_le _,rfl,rfl,Lib.hid (by simp[evK]),by omega,by omega,Keep.refl _⟩
   case round=>
    obtain⟨q,t,hq,rfl,rfl,ht,t0,t1,hQ⟩:=hrel;have d1:=(hQ.cell hbw).trans d1;have hbq:b<wr.heap.size:=Nat.lt_of_lt_of_le hbw hQ.size;by_cases hlq:q<ds.length
    ·
     rcases r1 with h|⟨b2,o2,rfl,hb2,hc2⟩
     · exfalso;rw[h] at hlq;simp at hlq
     have AT:=(hc2 q hlq).keep hb2 hQ
     have okq:okD (ds.getD q zD)=true:=by
      simp only[okL,Bool.and_eq_true] at okk;exact all_get zD okk.1 q hlq
     clear hc2 okk;have hb3:b2<wr.heap.size:=Nat.lt_of_lt_of_le hb2 hQ.size;have HEV:Hid (t+evD (ds.getD q zD)=m+evK ds (q+1)):=Lib.hid (by rw[evK,ht.out];omega);clear ht;obtain⟨d,hd⟩:∃d,d=ds.getD q zD:=⟨_,rfl⟩;rw[←hd] at AT okq HEV;clear hd;have KD:=okD_kind okq;obtain⟨x0,x1,x2,x3⟩:=d;obtain⟨A0,-,-,-⟩:=AT;simp only at A0 KD;have j1:(0:Int)≤(q:Int):=Int.natCast_nonneg _;have j2:(q:Int)<(ds.length:Int):=by omega
     rcases KD with rfl|rfl|rfl|rfl
     all_goals
      go_wp2;go_roundw;case rel=>exact⟨q+1,_,by omega,rfl,by go_num,Lib.hid (by have:=HEV.out;simp[evD] at this;omega),by omega,by omega,hQ.alloc _⟩
      case measure=>simp[intOf];omega
    ·
     obtain rfl:q=ds.length:=by omega
     go_wp2;go_roundw;case rel=>exact⟨k+1,t,by omega,rfl,by go_num,Lib.hid (by rw[evW,←HDS.out,ht.out,hm.out]),t0,by omega,hK.trans hQ⟩
     case measure=>simp[intOf];omega
  ·
   obtain rfl:k=dss.length:=by omega
   go_wp2;go_ret;exact⟨by rw[hm.out];rfl,hK⟩
theorem made_ten:(madeCells (Value.int .i64 0).cells (10*1)).toList=((List.replicate 10 (0:Int)).map (Value.int .i64)):=by
 rw[Nat.mul_one,List.map_replicate];exact toList_madeCells_one _ _
theorem grp_skip {i:Nat}{own o:List Int}{ds:List Dd}{k:Nat}(h:grpK i own ds k=some o)(hg:(ds.getD k zD).2.2.2=0):grpK i own ds (k+1)=some o:=by
 rw[grpK,h];simp only[hg,if_true]
theorem grp_bad {i:Nat}{own o:List Int}{ds:List Dd}{k:Nat}(h:grpK i own ds k=some o)(hg:(ds.getD k zD).2.2.2≠0)
  (hb:o.getD (ds.getD k zD).2.2.2.toNat 0≠0∧(o.getD (ds.getD k zD).2.2.2.toNat 0≠(i:Int)+1∨k=0∨(ds.getD (k-1) zD).2.2.2≠(ds.getD k zD).2.2.2)):grpK i own ds (k+1)=none:=by
 rw[grpK,h];simp only;rw[if_neg hg,if_pos hb]
theorem grp_own {i:Nat}{own o:List Int}{ds:List Dd}{k:Nat}(h:grpK i own ds k=some o)(hg:(ds.getD k zD).2.2.2≠0)
  (hb:¬(o.getD (ds.getD k zD).2.2.2.toNat 0≠0∧(o.getD (ds.getD k zD).2.2.2.toNat 0≠(i:Int)+1∨k=0∨(ds.getD (k-1) zD).2.2.2≠(ds.getD k zD).2.2.2))):
  grpK i own ds (k+1)=some (o.set (ds.getD k zD).2.2.2.toNat ((i:Int)+1)):=by
 rw[grpK,h];simp only;rw[if_neg hg,if_neg hb]
theorem grp_out {dss:List (List Dd)}{k:Nat}{own:List Int}(hk:k<dss.length)(h:grpW dss k=some own){q:Nat}(hq:q≤(dss.getD k []).length)(hn:grpK k own (dss.getD k []) q=none):grpB dss=false:=by
 have h1:grpW dss (k+1)=none:=by
  rw[grpW,h];exact grpK_none hn _ hq
 rw[grpB,grpW_none h1 _ hk];rfl
theorem l5Groups_any (w:World)(v:Value)(dss:List (List Dd))(h:RdW w v dss)(hx:dss.length≤3)(hok:∀i,i<dss.length→okL (dss.getD i [])=true):
  Calls Tryd.prog 62 #[v] w fun e w'=>e = .returned (.bool (grpB dss))∧Keep w w':=by
 obtain⟨a,c,rfl,h⟩:=h;obtain⟨i0,hi,hz0,hz1,hz2⟩:=info_parts Tryd.infoI;go_enter Tryd.func62,Tryd.ntmps62
 go_wp2_with (at_make;refine wpList_make_full _ rfl _ _ 25 rfl w.heap.size 2 i0 (.int .i64 0) 1 Tryd.underlying25 hi hz0 hz1 .i64 .i64 _ _ 10 rfl rfl rfl rfl (by rw[hz2];omega) (by unfold maxLen;omega) (Nat.le_refl _) ?_;intro w1 hown hgrow)
 have k1:Keep w w1:=(Keep.refl w).grown hgrow (by simp)
 have rb:RowAt w1 w.heap.size (List.replicate 10 0):=by
  have o:Own w1 w.heap.size (.slice (some ⟨w.heap.size,0,none⟩) 10 10) (List.replicate 10 0):=by
   rw[made_ten] at hown;unfold Own;simpa using hown
  rcases o.row with ⟨e,_⟩|⟨g,cap,e,_,hr⟩
  · cases e
  ·
   have e1:=congrArg Value.ownBlock e;simp[Value.ownBlock] at e1;rw[e1];exact hr
 clear hgrow hown hi hz0 hz1 hz2;go_loopw [4] (fun i wr=>∃k:Nat,∃own:List Int,k≤dss.length∧i = .int .i64 k∧Hid (grpW dss k=some own)∧RowAt wr w.heap.size own∧Keep w wr) (fun i _=>dss.length-(intOf i).toNat)
 case atStart=>exact⟨0,List.replicate 10 0,Nat.zero_le _,rfl,Lib.hid rfl,rb,k1⟩
 case round=>
  obtain⟨k,own,hk,rfl,hG,hR,hK⟩:=hrel;clear rb k1;by_cases hlt:k<dss.length
  ·
   rcases h with h|⟨b,o,rfl,hb,hc⟩
   · exfalso;rw[h] at hlt;simp at hlt
   obtain⟨u,e1,r1⟩:=hc k hlt;have okk:=hok k hlt;clear hc hok;obtain⟨ds,hds⟩:∃ds,ds=dss.getD k []:=⟨_,rfl⟩;have HDS:=Lib.hid hds;rw[←hds] at r1 okk;clear hds;obtain⟨ai,ci,rfl,r1⟩:=r1;have d1:=(hK.cell hb).trans e1;have i1:(0:Int)≤(k:Int):=Int.natCast_nonneg _;have i2:(k:Int)<(dss.length:Int):=by omega
   have hl5:ds.length≤5:=by simp[okL] at okk;omega
   go_wp2;go_loopw [5] (fun i wq=>∃q:Nat,∃ow:List Int,q≤ds.length∧i = .int .i64 q∧Hid (grpK k own ds q=some ow)∧RowAt wq w.heap.size ow∧Keep w wq) (fun i _=>ds.length-(intOf i).toNat)
   case atStart=>exact⟨0,own,Nat.zero_le _,rfl,Lib.hid rfl,hR,hK⟩
   case round=>
    obtain⟨q,ow,hq,rfl,hQ,hS,hL⟩:=hrel;have d1:=(hL.cell hb).trans e1;by_cases hlq:q<ds.length
    ·
     rcases r1 with h|⟨b2,o2,rfl,hb2,hc2⟩
     · exfalso;rw[h] at hlq;simp at hlq
     have A3:=((hc2 q hlq).keep hb2 hL).2.2.2
     have okq:okD (ds.getD q zD)=true:=by
      simp only[okL,Bool.and_eq_true] at okk;exact all_get zD okk.1 q hlq
     have g09:0≤(ds.getD q zD).2.2.2∧(ds.getD q zD).2.2.2≤9:=okD_group okq;clear okk okq;have AP:0<q→wr.cell? ⟨b2,o2+(q-1)*4+3,none⟩=some (.int .i64 (ds.getD (q-1) zD).2.2.2):=fun _=>((hc2 (q-1) (by omega)).keep hb2 hL).2.2.2
     clear hc2;have S1:=@grp_skip k own ow ds q hQ.out;have S2:=@grp_bad k own ow ds q hQ.out;have S3:=@grp_own k own ow ds q hQ.out;have hlen:ow.length=10:=(grpK_len hQ.out).trans (grpW_len hG.out);clear hQ;obtain⟨g,hg⟩:∃g:Nat,(ds.getD q zD).2.2.2=(g:Int):=⟨_,(Int.toNat_of_nonneg g09.1).symm⟩;rw[hg] at A3 g09 S1 S2 S3;rw[Int.toNat_natCast] at S2 S3;clear hg;have hg9:g<10:=by omega
     obtain⟨p,hp⟩:∃p:Int,p=(ds.getD (q-1) zD).2.2.2:=⟨_,rfl⟩;rw[←hp] at AP S2 S3;clear hp;have hRC:=hS.cell (j:=g) (by omega);obtain⟨y,hy⟩:∃y:Int,y=ow.getD g 0:=⟨_,rfl⟩;rw[←hy] at hRC S2 S3;clear hy g09;have j1:(0:Int)≤(q:Int):=Int.natCast_nonneg _;have j2:(q:Int)<(ds.length:Int):=by omega
     have j3:(0:Int)≤(g:Int):=Int.natCast_nonneg _;have j4:(g:Int)<10:=by omega
     have hbq:b<wr.heap.size:=Nat.lt_of_lt_of_le hb hL.size;have hb3:b2<wr.heap.size:=Nat.lt_of_lt_of_le hb2 hL.size;by_cases g0:g=0
     ·
      have eg:((g:Int)==0)=true:=by simp[g0]
      have HE:=Lib.hid (S1 (by omega));clear S1 S2 S3 AP;go_wp2;go_roundw;case rel=>exact⟨q+1,ow,by omega,by go_num,HE,hS,hL⟩
      case measure=>simp[intOf];omega
     ·
      have HN:Hid ((g:Int)≠0):=Lib.hid (by omega);have eg:((g:Int)==0)=false:=by simp;omega
      have hF:=hS.free g;clear S1;by_cases y0:y=0
      ·
       subst y0;have HE:=Lib.hid (S3 HN.out (by simp));clear S2 S3 AP;go_wp2;go_roundw;case rel=>exact⟨q+1,_,by omega,by go_num,HE,hS.set g _,hL.set (Nat.le_refl _) g _⟩
       case measure=>simp[intOf];omega
      ·
       have ey:(y != 0)=true:=by simp[y0]
       by_cases yk:y=(k:Int)+1
       ·
        subst yk;have ek:((k:Int)+1 != (k:Int)+1)=false:=by simp
        by_cases q0:q=0
        ·
         have eq:((q:Int)==0)=true:=by simp[q0]
         have HE:Hid (grpB dss=false):=Lib.hid (grp_out hlt hG.out (q:=q+1) (by rw[←HDS.out];omega) (by rw[←HDS.out];exact S2 HN.out ⟨y0,.inr (.inl q0)⟩));clear S2 S3 AP y0 q0;go_wp2;go_ret;exact⟨by rw[HE.out];rfl,hL⟩
        ·
         have eq:((q:Int)==0)=false:=by simp;omega
         have AP:=AP (by omega);obtain⟨r,rfl⟩:∃r:Nat,q=r+1:=⟨q-1,by omega⟩;rw[Nat.add_sub_cancel] at AP;have j5:(0:Int)≤(r:Int):=Int.natCast_nonneg _;have j6:(r:Int)<(ds.length:Int):=by omega
         by_cases pg:p=(g:Int)
         ·
          subst pg;have ep:((g:Int) != (g:Int))=false:=by simp
          have HE:=Lib.hid (S3 HN.out (by simp));clear S2 S3 y0;go_wp2;go_roundw;case rel=>exact⟨r+1+1,_,by omega,by go_num,HE,hS.set g _,hL.set (Nat.le_refl _) g _⟩
          case measure=>simp[intOf];omega
         ·
          have ep:(p != (g:Int))=true:=by simp[pg]
          have HE:Hid (grpB dss=false):=Lib.hid (grp_out hlt hG.out (q:=r+1+1) (by rw[←HDS.out];omega) (by rw[←HDS.out];exact S2 HN.out ⟨y0,.inr (.inr pg)⟩));clear S2 S3 y0 pg;go_wp2;go_ret;exact⟨by rw[HE.out];rfl,hL⟩
       ·
        have ek:(y != (k:Int)+1)=true:=by simp[yk]
        have HE:Hid (grpB dss=false):=Lib.hid (grp_out hlt hG.out (q:=q+1) (by rw[←HDS.out];omega) (by rw[←HDS.out];exact S2 HN.out ⟨y0,.inl yk⟩));clear S2 S3 AP yk y0;go_wp2;go_ret;exact⟨by rw[HE.out];rfl,hL⟩
    ·
     obtain rfl:q=ds.length:=by omega
     go_wp2;go_roundw;case rel=>exact⟨k+1,ow,by omega,by go_num,Lib.hid (by rw[grpW,hG.out,←HDS.out];exact hQ.out),hS,hL⟩
     case measure=>simp[intOf];omega
  ·
   obtain rfl:k=dss.length:=by omega
   go_wp2;go_ret;exact⟨by rw[grpB,hG.out];rfl,hK⟩
theorem take_more {α:Type}(l:List α)(k:Nat)(z:α)(h:k<l.length):l.take (k+1)=l.take k++[l.getD k z]:=by
 rw[List.take_add_one,List.getElem?_eq_getElem h,List.getD_eq_getElem?_getD,List.getElem?_eq_getElem h];rfl
theorem all_more {α:Type}{f:α→Bool}{l:List α}{k:Nat}(z:α)(h:k<l.length)(h1:(l.take k).all f=true)(h2:f (l.getD k z)=true):(l.take (k+1)).all f=true:=by
 rw[take_more l k z h,List.all_append,h1];rw[List.all_cons,h2];rfl
theorem lenW_more (d:List Dd):∀l:List (List Dd),lenW (l++[d])=lenW l+d.length
 | []=>by simp[lenW]
 |x::r=>by rw[List.cons_append,lenW,lenW,lenW_more d r];omega
theorem workB_off {dss:List (List Dd)}{k:Nat}(hk:k<dss.length)(h:okL (dss.getD k [])=false):workB dss=false:=by
 rw[workB,all_not [] k hk h];simp
theorem specWorkOk_any (w:World)(v:Value)(dss:List (List Dd))(h:RdW w v dss)(hx:dss.length≤1048576)(hm:∀i,i<dss.length→(dss.getD i []).length≤1048576):
  Calls Tryd.prog 41 #[v] w fun e w'=>e = .returned (.bool (workB dss))∧Keep w w':=by
 have RW:=h;obtain⟨a,c,rfl,h⟩:=h;cases hb:inB (dss.length:Int) 1 3
 ·
  have HE:Hid (workB dss=false):=by
   refine Lib.hid ?_;simp[inB] at hb;rw[workB,decide_eq_false (by omega)];rfl
  go_enter Tryd.func41,Tryd.ntmps41
  go_wp2_with (go_at_call 37;refine (l1In_any _ _ _ _).mono ?_;rintro e w' ⟨rfl,rfl⟩)
  go_ret;exact⟨by rw[HE.out];rfl,Keep.refl _⟩
 ·
  have h13:1≤dss.length∧dss.length≤3:=by simp[inB] at hb;omega
  have HIN:=Lib.hid h13;have h3:=h13.2;clear h13;go_enter Tryd.func41,Tryd.ntmps41
  go_wp2_with (go_at_call 37;refine (l1In_any _ _ _ _).mono ?_;rintro e w' ⟨rfl,rfl⟩)
  clear hb;go_loopw [3,4] (fun n i wr=>∃k m:Nat,k≤dss.length∧n = .int .i64 m∧i = .int .i64 k∧Hid (m=lenW (dss.take k)∧(dss.take k).all okL=true)∧m≤5*k∧Keep w' wr) (fun _ i _=>dss.length-(intOf i).toNat)
  case atStart=>exact⟨0,0,Nat.zero_le _,rfl,rfl,Lib.hid (by simp[lenW]),by omega,Keep.refl _⟩
  case round=>
   obtain⟨k,m,hk,rfl,rfl,hM,m5,hK⟩:=hrel;by_cases hlt:k<dss.length
   ·
    rcases h with h|⟨b,o,rfl,hb,hc⟩
    · exfalso;rw[h] at hlt;simp at hlt
    obtain⟨u,e1,r1⟩:=hc k hlt;have hmk:=hm k hlt;clear hc hm RW;obtain⟨ds,hds⟩:∃ds,ds=dss.getD k []:=⟨_,rfl⟩;have HDS:=Lib.hid hds;rw[←hds] at r1 hmk;clear hds;obtain⟨ai,ci,rfl,r1⟩:=r1;have d1:=(hK.cell hb).trans e1;have i1:(0:Int)≤(k:Int):=Int.natCast_nonneg _;have i2:(k:Int)<(dss.length:Int):=by omega
    go_wp2;go_loopw [5] (fun i wq=>∃q:Nat,q≤ds.length∧i = .int .i64 q∧Hid ((ds.take q).all okD=true)∧Keep w' wq) (fun i _=>ds.length-(intOf i).toNat)
    case atStart=>exact⟨0,Nat.zero_le _,rfl,Lib.hid (by simp),hK⟩
    case round=>
     obtain⟨q,hq,rfl,hQ,hL⟩:=hrel;have d1:=(hL.cell hb).trans e1;by_cases hlq:q<ds.length
     ·
      rcases r1 with h|⟨b2,o2,rfl,hb2,hc2⟩
      · exfalso;rw[h] at hlq;simp at hlq
      have AT:=(hc2 q hlq).keep hb2 hL;clear hc2;have hbq:b<wr.heap.size:=Nat.lt_of_lt_of_le hb hL.size;have hb3:b2<wr.heap.size:=Nat.lt_of_lt_of_le hb2 hL.size;have j1:(0:Int)≤(q:Int):=Int.natCast_nonneg _;have j2:(q:Int)<(ds.length:Int):=by omega
      have HT:okD (ds.getD q zD)=true→Hid ((ds.take (q+1)).all okD=true):=fun e=>Lib.hid (all_more zD hlq hQ.out e)
      have HF:okD (ds.getD q zD)=false→Hid (workB dss=false):=fun e=>Lib.hid (workB_off hlt (by rw[←HDS.out,okL,all_not zD q hlq e];rfl))
      clear hQ;obtain⟨d,hd⟩:∃d,d=ds.getD q zD:=⟨_,rfl⟩;rw[←hd] at AT HT HF;clear hd;obtain⟨x0,x1,x2,x3⟩:=d;obtain⟨A0,A1,A2,A3⟩:=AT;simp only at A0 A1 A2 A3;unfold okD at HT HF;simp only at HT HF;cases hd:deedB x0 x1 x2 x3
      ·
       have HE:=HF hd;clear HT HF;go_wp2_with fail
       refine (specDeedOk_any _ _ _ _ _).mono ?_;rintro e wz ⟨rfl,kk⟩;go_wp2;go_ret;exact⟨by rw[HE.out];rfl,hL.trans kk⟩
      ·
       have HE:=HT hd;clear HT HF;go_wp2_with fail
       refine (specDeedOk_any _ _ _ _ _).mono ?_;rintro e wz ⟨rfl,kk⟩;go_wp2;go_roundw;case rel=>exact⟨q+1,by omega,by go_num,HE,hL.trans kk⟩
       case measure=>simp[intOf];omega
     ·
      obtain rfl:q=ds.length:=by omega
      rw[List.take_length] at hQ;by_cases h5:ds.length≤5
      ·
       have HE:Hid (m+ds.length=lenW (dss.take (k+1))∧(dss.take (k+1)).all okL=true):=by
        refine Lib.hid ⟨?_,all_more [] hlt hM.out.2 (by rw[←HDS.out,okL,hQ.out];simp[h5])⟩;rw[take_more dss k [] hlt,lenW_more,←HDS.out,hM.out.1]
       go_wp2;go_roundw;case rel=>exact⟨k+1,m+ds.length,by omega,by go_num,by go_num,HE,by omega,hL⟩
       case measure=>simp[intOf];omega
      ·
       have HE:Hid (workB dss=false):=Lib.hid (workB_off hlt (by rw[←HDS.out,okL];simp;omega));go_wp2;go_ret;exact⟨by rw[HE.out];rfl,hL⟩
   ·
    obtain rfl:k=dss.length:=by omega
    rw[List.take_length] at hM;have OKS:∀i,i<dss.length→okL (dss.getD i [])=true:=fun i hi=>all_get [] hM.out.2 i hi
    have HW:Hid (workB dss=(decide (m≤12)&&decide (evW dss dss.length≤6)&&grpB dss)):=by
     refine Lib.hid ?_;rw[workB,decide_eq_true HIN.out,hM.out.2,hM.out.1];rfl
    have rw1:=RW.keep hK;clear hM RW h hm;by_cases h12:m≤12
    ·
     have e12:decide ((m:Int)≤12)=true:=by simp;omega
     by_cases h6:evW dss dss.length≤6
     ·
      have HE:Hid (workB dss=grpB dss):=Lib.hid (by rw[HW.out];simp[h12,h6]);go_wp2_with fail
      refine (l5Events_any _ _ _ rw1 h3 OKS).mono ?_;rintro e wz ⟨rfl,kk⟩;have rw2:=rw1.keep kk;go_wp2_with fail
      refine (l5Groups_any _ _ _ rw2 h3 OKS).mono ?_;rintro e wy ⟨rfl,k2⟩;go_wp2;go_ret;exact⟨by rw[HE.out];rfl,(hK.trans kk).trans k2⟩
     ·
      have HE:Hid (workB dss=false):=Lib.hid (by rw[HW.out];simp[h6]);go_wp2_with fail
      refine (l5Events_any _ _ _ rw1 h3 OKS).mono ?_;rintro e wz ⟨rfl,kk⟩;go_wp2;go_ret;exact⟨by rw[HE.out];rfl,hK.trans kk⟩
    ·
     have HE:Hid (workB dss=false):=Lib.hid (by rw[HW.out];simp[h12]);go_wp2;go_ret;exact⟨by rw[HE.out];rfl,hK⟩
section
abbrev dC (k p v g:Int):Obj:= .cells #[.int .i64 k,.int .i64 p,.int .i64 v,.int .i64 g] 96
abbrev eC (i k:Int)(r:Bool)(p v c:Int):Obj:= .cells #[.int .i64 i,.int .i64 k,.bool r,.int .i64 p,.int .i64 v,.int .i64 c] 99
structure InL (w wr:World)(F:Nat)(out:Value)(es:List Ev)(f:List Int):Prop where
 app:AppE wr w.heap.size out es
 row:RowAt wr F f
 keep:Keep w wr
 hF:w.heap.size≤F
 oF:out.ownBlock≠some F
structure InE (w wr:World)(F D X:Nat)(out:Value)(es:List Ev)(f:List Int)(k p v g:Int)(i q:Int)(r:Bool)(pl vl c:Int):Prop where
 l:InL w wr F out es f
 box:wr.heap[D]? = some (dC k p v g)
 ev:wr.heap[X]? = some (eC i q r pl vl c)
 hD:w.heap.size≤D
 hX:w.heap.size≤X
 DX:D≠X
 FD:F≠D
 FX:F≠X
 oD:out.ownBlock≠some D
 oX:out.ownBlock≠some X
theorem InL.more {w wr wr':World}{F:Nat}{out:Value}{es:List Ev}{f:List Int}(h:InL w wr F out es f)(k:Keep wr wr'):InL w wr' F out es f:=
 ⟨h.app.keep k,h.row.keep k,h.keep.trans k,h.hF,h.oF⟩
theorem InL.boxes {w wr:World}{F:Nat}{out:Value}{es:List Ev}{f:List Int}(h:InL w wr F out es f)(k p v g i q:Int)(r:Bool)(pl vl c:Int):
  InE w ((wr.alloc (dC k p v g)).alloc (eC i q r pl vl c)) F wr.heap.size (wr.heap.size+1) out es f k p v g i q r pl vl c:=by
 have hs:=h.keep.size;have hR:=h.row.lt;have hl:=h.app.lt;have z:(wr.alloc (dC k p v g)).heap.size=wr.heap.size+1:=heap_size wr _;refine⟨h.more (((Keep.refl wr).alloc _).alloc _),?_,?_,hs,by omega,by omega,by omega,by omega,fun e=>?_,fun e=>?_⟩
 · rw[heap_at,if_neg (by rw[z];omega),heap_at,if_pos rfl]
 · rw[heap_at,if_pos z.symm]
 · have:=(hl _ e).2;omega
 · have:=(hl _ e).2;omega
variable {w wr:World} {F D X:Nat} {out:Value} {es:List Ev} {f:List Int} {k p v g i q pl vl c:Int} {r:Bool}
theorem InE.more {wr':World}(h:InE w wr F D X out es f k p v g i q r pl vl c)(kk:Keep wr wr'):InE w wr' F D X out es f k p v g i q r pl vl c:=
 ⟨h.l.more kk,(Below.block kk D (Array.getElem?_eq_some_iff.1 h.box).1).trans h.box,(Below.block kk X (Array.getElem?_eq_some_iff.1 h.ev).1).trans h.ev,h.hD,h.hX,h.DX,h.FD,h.FX,h.oD,h.oX⟩
theorem InE.lt (h:InE w wr F D X out es f k p v g i q r pl vl c):D<wr.heap.size∧X<wr.heap.size∧F<wr.heap.size:=
 ⟨(Array.getElem?_eq_some_iff.1 h.box).1,(Array.getElem?_eq_some_iff.1 h.ev).1,h.l.row.lt⟩
theorem InE.deed (h:InE w wr F D X out es f k p v g i q r pl vl c):
  wr.cell? ⟨D,0,none⟩=some (.int .i64 k)∧wr.cell? ⟨D,1,none⟩=some (.int .i64 p)∧wr.cell? ⟨D,2,none⟩=some (.int .i64 v)∧wr.cell? ⟨D,3,none⟩=some (.int .i64 g):=
 ⟨cell_of_row wr D 0 _ _ (0,0) h.box,cell_of_row wr D 1 _ _ (0,0) h.box,cell_of_row wr D 2 _ _ (0,0) h.box,cell_of_row wr D 3 _ _ (0,0) h.box⟩
theorem InE.event (h:InE w wr F D X out es f k p v g i q r pl vl c):
  wr.cell? ⟨X,0,none⟩=some (.int .i64 i)∧wr.cell? ⟨X,1,none⟩=some (.int .i64 q)∧wr.cell? ⟨X,2,none⟩=some (.bool r)∧wr.cell? ⟨X,3,none⟩=some (.int .i64 pl)∧wr.cell? ⟨X,4,none⟩=some (.int .i64 vl)∧wr.cell? ⟨X,5,none⟩=some (.int .i64 c):=
 ⟨cell_of_row wr X 0 _ _ (0,0) h.ev,cell_of_row wr X 1 _ _ (0,0) h.ev,cell_of_row wr X 2 _ _ (0,0) h.ev,cell_of_row wr X 3 _ _ (0,0) h.ev,cell_of_row wr X 4 _ _ (0,0) h.ev,cell_of_row wr X 5 _ _ (0,0) h.ev⟩
theorem InE.free (h:InE w wr F D X out es f k p v g i q r pl vl c)(j:Nat):wr.frozen? ⟨X,j,none⟩=false:=frozen_of_row wr X j _ _ h.ev
theorem InE.setX (h:InE w wr F D X out es f k p v g i q r pl vl c)(j:Nat)(x:Value){r':Bool}{pl' vl' c':Int}
  (he:(wr.setCell ⟨X,j,none⟩ x).heap[X]? = some (eC i q r' pl' vl' c')):InE w (wr.setCell ⟨X,j,none⟩ x) F D X out es f k p v g i q r' pl' vl' c':=by
 have hg:=grown_set wr X j x;have a:=h.l;refine⟨⟨a.app.kept hg (.inr h.oX),a.row.kept hg (by simp;exact fun e=>h.FX e.symm),a.keep.grown hg (by simp;exact h.hX),a.hF,a.oF⟩,(hg.block D h.lt.1 (by simp;exact h.DX)).trans h.box,he,h.hD,h.hX,h.DX,h.FD,h.FX,h.oD,h.oX⟩
theorem InE.set2 (h:InE w wr F D X out es f k p v g i q r pl vl c)(x:Bool):InE w (wr.setCell ⟨X,2,none⟩ (.bool x)) F D X out es f k p v g i q x pl vl c:=
 h.setX 2 _ (by rw[heap_setCell_same wr X 2 _ _ _ h.ev];rfl)
theorem InE.set4 (h:InE w wr F D X out es f k p v g i q r pl vl c)(x:Int):InE w (wr.setCell ⟨X,4,none⟩ (.int .i64 x)) F D X out es f k p v g i q r pl x c:=
 h.setX 4 _ (by rw[heap_setCell_same wr X 4 _ _ _ h.ev];rfl)
theorem InE.set5 (h:InE w wr F D X out es f k p v g i q r pl vl c)(x:Int):InE w (wr.setCell ⟨X,5,none⟩ (.int .i64 x)) F D X out es f k p v g i q r pl vl x:=
 h.setX 5 _ (by rw[heap_setCell_same wr X 5 _ _ _ h.ev];rfl)
theorem InE.setF (h:InE w wr F D X out es f k p v g i q r pl vl c)(j:Nat)(x:Int):InE w (wr.setCell ⟨F,j,none⟩ (.int .i64 x)) F D X out es (f.set j x) k p v g i q r pl vl c:=by
 have hg:=grown_set wr F j (.int .i64 x);have a:=h.l;exact⟨⟨a.app.kept hg (.inr a.oF),a.row.set j x,a.keep.grown hg (by simp;exact a.hF),a.hF,a.oF⟩,(hg.block D h.lt.1 (by simp;exact fun e=>h.FD e.symm)).trans h.box,(hg.block X h.lt.2.1 (by simp;exact fun e=>h.FX e.symm)).trans h.ev,h.hD,h.hX,h.DX,h.FD,h.FX,h.oD,h.oX⟩
theorem InE.hit (h:InE w wr F D X out es f k p v g i q r pl vl c){o:Obj}{v':Value}{w':World}(e:Ev)
  (ho:w'.ownsRow w.heap.size 99 6 v' (es.length+1) (es.flatMap cE++cE e)) (hg:(wr.alloc o).grownBy w' out.ownBlock) (hb:v'.ownBlock=out.ownBlock∨v'.ownBlock=some (wr.heap.size+1)):
  InE w w' F D X v' (es++[e]) f k p v g i q r pl vl c:=by
 have h1:=h.more ((Keep.refl wr).alloc o);obtain⟨a1,a2,a3⟩:=h1.lt
 have apart:∀n,n<(wr.alloc o).heap.size→out.ownBlock≠some n→v'.ownBlock≠some n:=fun n hn hne e=>by
  rcases hb with hb|hb
  · exact hne (hb ▸ e)
  · rw[hb] at e;have:=Option.some.inj e;rw[heap_size] at hn;omega
 exact⟨⟨appT_hit ho,h1.l.row.kept hg h1.l.oF,h1.l.keep.grown hg h1.l.app.ge,h1.l.hF,apart F a3 h1.l.oF⟩,(hg.block D a1 (fun e=>h1.oD e.symm)).trans h1.box,(hg.block X a2 (fun e=>h1.oX e.symm)).trans h1.ev,h1.hD,h1.hX,h1.DX,h1.FD,h1.FX,apart D a1 h1.oD,apart X a2 h1.oX⟩
theorem cE_one (e:Ev):∀u∈cE e,u.oneCell'=true:=by
 intro u hu;simp only[cE,List.mem_cons,List.not_mem_nil,or_false] at hu;rcases hu with rfl|rfl|rfl|rfl|rfl|rfl<;>rfl
theorem cE_new (w:World)(i q:Int)(r:Bool)(pl vl c:Int):∀j u,(cE (i,q,r,pl,vl,c))[j]? = some u→(w.alloc (eC i q r pl vl c)).cell? ((⟨w.heap.size,0,none⟩:Addr).add j)=some u:=by
 intro j u hj
 match j,hj with
 | 0,hj=>simp[cE] at hj;subst hj;simp[Addr.add]
 | 1,hj=>simp[cE] at hj;subst hj;simp[Addr.add]
 | 2,hj=>simp[cE] at hj;subst hj;simp[Addr.add]
 | 3,hj=>simp[cE] at hj;subst hj;simp[Addr.add]
 | 4,hj=>simp[cE] at hj;subst hj;simp[Addr.add]
 | 5,hj=>simp[cE] at hj;subst hj;simp[Addr.add]
theorem cE_newAt (w:World)(n:Nat)(hn:w.heap.size=n)(i q:Int)(r:Bool)(pl vl c:Int):∀j u,(cE (i,q,r,pl,vl,c))[j]? = some u→(w.alloc (eC i q r pl vl c)).cell? ((⟨n,0,none⟩:Addr).add j)=some u:=by
 subst hn;exact cE_new w i q r pl vl c
end
theorem fstE_len (g:Int)(n:Nat)(f:List Int):(fstE g n f).length=f.length:=by unfold fstE;split<;>simp
theorem l6Events_any (w:World)(v:Value)(dss:List (List Dd))(h:RdW w v dss)(hx:dss.length≤3)(hok:∀i,i<dss.length→okL (dss.getD i [])=true):
  Calls Tryd.prog 43 #[v] w fun e w'=>∃v',e = .returned v'∧AppE w' w.heap.size v' (evsW dss dss.length)∧Keep w w':=by
 obtain⟨a,c,rfl,h⟩:=h;obtain⟨i0,hi,hz0,hz1,hz2⟩:=info_parts Tryd.infoI;obtain⟨j0,hj,hy0,hy1,hy2⟩:=info_parts Tryd.infoE;have A0:AppE (w.alloc (.cells #[] 99)) w.heap.size (.slice (some ⟨w.heap.size,0,none⟩) 0 0) []:=appT_empty w;go_enter Tryd.func43,Tryd.ntmps43
 go_wp2;go_loopw [3,4] (fun v i wr=>∃k:Nat,∃m:Int,∃es:List Ev,k≤3∧i = .int .i64 m∧m=(k:Int)∧Hid (es=evBeg.take k)∧es.length≤k∧AppE wr w.heap.size v es∧Keep w wr) (fun _ i _=>3-(intOf i).toNat)
 case atStart=>exact⟨0,0,[],Nat.zero_le _,rfl,rfl,Lib.hid rfl,Nat.le_refl _,A0,(Keep.refl _).alloc _⟩
 case round=>
  obtain⟨k,m,es,hk,rfl,hm,hE,hel,ho,hK⟩:=hrel;clear A0;have hsz:=hK.size;by_cases hlt:k<3
  ·
   subst hm
   have HM:Hid (es++[((-1:Int),(-1:Int),false,(k:Int),0,(k:Int))]=evBeg.take (k+1)):=Lib.hid (by
    rw[hE.out];have:k=0∨k=1∨k=2:=by omega
    rcases this with rfl|rfl|rfl<;>rfl)
   clear hE;go_wp2_with (at_builtin;refine wpList_append_own_at _ rfl _ _ 70 rfl w.heap.size 99 j0 (.agg #[.int .i64 0,.int .i64 0,.bool false,.int .i64 0,.int .i64 0,.int .i64 0]) 6 48 Tryd.underlying70 hj hy0 hy1 hy2 rfl (by decide) _ _ _ rfl (ho.keep ((Keep.refl _).alloc _)) ⟨_,0,none⟩ 1 1 (cE ((-1:Int),(-1:Int),false,(k:Int),0,(k:Int))) rfl rfl ?c1 ?c2 ?c3 ?c4 ?c5 ?_)
   case c1=>exact cE_new _ _ _ _ _ _ _
   case c2=>exact cE_one _
   case c3=>unfold maxLen;omega
   case c4=>omega
   case c5=>simp;omega
   intro v' w1 hown' hgrow _ _;have hK1:Keep w w1:=(hK.alloc _).grown hgrow ho.ge;have hA:=appT_hit hown';clear hgrow hown';go_wp2;go_roundw;case rel=>exact⟨k+1,_,_,by omega,rfl,by omega,HM,by simp;omega,hA,hK1⟩
   case measure=>simp[intOf];omega
  obtain rfl:m=3:=by omega
  have HB:Hid (es=evsW dss 0):=Lib.hid (by rw[hE.out,show k=3 by omega];rfl);clear hE hm;go_wp2;go_loopw [3,5] (fun v i wr=>∃k:Nat,∃es:List Ev,k≤dss.length∧i = .int .i64 k∧Hid (es=evsW dss k)∧es.length≤3+10*k∧AppE wr w.heap.size v es∧Keep w wr) (fun _ i _=>dss.length-(intOf i).toNat)
  case atStart=>exact⟨0,es,Nat.zero_le _,rfl,HB,by omega,ho,hK⟩
  case round=>
   clear HB hel ho hK hsz hlt hk;obtain⟨k,es,hk,rfl,hE,hel,ho,hK⟩:=hrel;have hsz:=hK.size;by_cases hlt:k<dss.length
   ·
    rcases h with h|⟨b,o,rfl,hb,hc⟩
    · exfalso;rw[h] at hlt;simp at hlt
    obtain⟨u,e1,r1⟩:=hc k hlt;have okk:=hok k hlt;clear hc hok;obtain⟨ds,hds⟩:∃ds,ds=dss.getD k []:=⟨_,rfl⟩;have HDS:=Lib.hid hds;rw[←hds] at r1 okk;clear hds;obtain⟨ai,ci,rfl,r1⟩:=r1;have d1:=(hK.cell hb).trans e1;have i1:(0:Int)≤(k:Int):=Int.natCast_nonneg _;have i2:(k:Int)<(dss.length:Int):=by omega
    have hl5:ds.length≤5:=by simp[okL] at okk;omega
    obtain⟨wo,hwo⟩:∃wo:World,wo=wr:=⟨_,rfl⟩;subst hwo;go_wp2_with (at_make;refine wpList_make_full _ rfl _ _ 25 rfl wo.heap.size 2 i0 (.int .i64 0) 1 Tryd.underlying25 hi hz0 hz1 .i64 .i64 _ _ 10 rfl rfl rfl rfl (by rw[hz2];omega) (by unfold maxLen;omega) (Nat.le_refl _) ?_;intro w1 hown hgrow)
    have k1:Keep wo w1:=(Keep.refl wo).grown hgrow (by simp)
    have rb:RowAt w1 wo.heap.size (List.replicate 10 0):=by
     have o:Own w1 wo.heap.size (.slice (some ⟨wo.heap.size,0,none⟩) 10 10) (List.replicate 10 0):=by
      rw[made_ten] at hown;unfold Own;simpa using hown
     rcases o.row with ⟨e,_⟩|⟨g,cap,e,_,hr⟩
     · cases e
     ·
      have e1:=congrArg Value.ownBlock e;simp[Value.ownBlock] at e1;rw[e1];exact hr
    clear hgrow hown;have L0:InL w w1 wo.heap.size _ es (List.replicate 10 0):=⟨ho.keep k1,rb,hK.trans k1,hsz,fun e=>by have:=(ho.lt _ e).2;omega⟩;go_loopw [3,7] (fun v i wq=>∃q:Nat,∃evs:List Ev,∃f:List Int,q≤ds.length∧i = .int .i64 q∧Hid (clkE k ds es q=(evs,f))∧Hid (f.length=10)∧evs.length≤3+10*k+2*q∧InL w wq wo.heap.size v evs f) (fun _ i _=>ds.length-(intOf i).toNat)
    case atStart=>exact⟨0,es,_,Nat.zero_le _,rfl,Lib.hid rfl,Lib.hid rfl,by omega,L0⟩
    case round=>
     clear L0 rb k1 w1 d1;obtain⟨q,evs,f,hq,rfl,hC,hfl,hev,hI⟩:=hrel;have d1:=(hI.keep.cell hb).trans e1;have hbq:b<wr.heap.size:=Nat.lt_of_lt_of_le hb hI.keep.size;by_cases hlq:q<ds.length
     ·
      rcases r1 with h|⟨b2,o2,rfl,hb2,hc2⟩
      · exfalso;rw[h] at hlq;simp at hlq
      have AT:=(hc2 q hlq).keep hb2 hI.keep
      have okq:okD (ds.getD q zD)=true:=by
       simp only[okL,Bool.and_eq_true] at okk;exact all_get zD okk.1 q hlq
      clear hc2 okk;have hb3:b2<wr.heap.size:=Nat.lt_of_lt_of_le hb2 hI.keep.size;have HST:Hid (clkE k ds es (q+1)=stepE k q (ds.getD q zD) (evs,f)):=Lib.hid (by rw[clkE,hC.out]);clear hC;obtain⟨d,hd⟩:∃d,d=ds.getD q zD:=⟨_,rfl⟩;rw[←hd] at AT okq HST;clear hd;have KD:=okD_kindE okq;have RD:=okD_restE okq;obtain⟨x0,x1,x2,x3⟩:=d;obtain⟨A0,A1,A2,A3⟩:=AT;simp only at A0 A1 A2 A3 KD RD;obtain⟨-,-,r2,r3,r4⟩:=RD;obtain⟨g,rfl⟩:=Int.eq_ofNat_of_zero_le r2;have j1:(0:Int)≤(q:Int):=Int.natCast_nonneg _;have j2:(q:Int)<(ds.length:Int):=by omega
      have j3:(0:Int)≤(g:Int):=Int.natCast_nonneg _;have j4:(g:Int)<10:=by omega
      have hg9:g<10:=by omega
      clear r2 r3 okq;obtain⟨av,cv,rfl⟩:=hI.app.shape;rcases KD with rfl|rfl|rfl|rfl
      ·
       obtain⟨f',hf'⟩:∃f',f'=fstE (g:Int) evs.length f:=⟨_,rfl⟩;obtain⟨cl,hcl⟩:∃cl,cl=clsE (g:Int) evs.length f:=⟨_,rfl⟩;have HS:Hid (clkE k ds es (q+1)=(evs++[((k:Int),(q:Int),true,x1,0,cl)],f')):=Lib.hid (by rw[HST.out,hf',hcl];rfl);have hfl':Hid (f'.length=10):=Lib.hid (by rw[hf',fstE_len];exact hfl.out);have HF:=Lib.hid hf';have HC:=Lib.hid hcl;clear HST hf' hcl;clear r4;go_upto_if 61 with fail
       have I1:=hI.boxes 1 x1 x2 (g:Int) (k:Int) (q:Int) true x1 0 (evs.length:Int);go_cut [] from 29 to 99 (fun wx=>InE w wx wo.heap.size wr.heap.size (wr.heap.size+1) (.slice av evs.length cv) evs f 1 x1 x2 g k q true x1 0 evs.length)
       case first=>
        go_wp2;go_meet;case rel=>exact I1
       case rest=>
        clear I1 A0 A1 A2 A3 d1;have IH:=hcut;clear hcut;obtain⟨t0,t1,t2,t3⟩:=IH.deed;obtain⟨s0,s1,s2,s3,s4,s5⟩:=IH.event;have F2:=IH.free 2;have F4:=IH.free 4;have F5:=IH.free 5;obtain⟨z1,z2,z3⟩:=IH.lt;go_upto_if 67 with fail
        go_cut [] from 29 to 99 (fun wx=>InE w wx wo.heap.size wr.heap.size (wr.heap.size+1) (.slice av evs.length cv) evs f' 1 x1 x2 g k q true x1 0 cl)
        case first=>
         by_cases g0:g=0
         ·
          have n0:(g:Int)≤0:=by omega
          have E1:Hid (f'=f):=Lib.hid (by rw[HF.out,fstE,if_neg (by omega)]);have E2:Hid (cl=(evs.length:Int)):=Lib.hid (by rw[HC.out,clsE,if_neg (by omega)]);go_wp2;go_meet;case rel=>rw[E1.out,E2.out];exact IH
         ·
          have n0:(0:Int)<(g:Int):=by omega
          have gg:Hid (f'.getD g 0=cl):=Lib.hid (by rw[HC.out,HF.out,clsE,if_pos n0,Int.toNat_natCast]);have hRC:=IH.l.row.cell (j:=g) (by rw[hfl.out];exact hg9);obtain⟨y,hy⟩:∃y,y=f.getD g 0:=⟨_,rfl⟩;rw[←hy] at hRC;have HY:=Lib.hid hy;have FG:=IH.l.row.free g;clear hy g0;go_upto_if 73 with fail
          go_cut [] from 29 to 99 (fun wx=>InE w wx wo.heap.size wr.heap.size (wr.heap.size+1) (.slice av evs.length cv) evs f' 1 x1 x2 g k q true x1 0 evs.length)
          case first=>
           by_cases y0:y=0
           ·
            have E1:Hid (f'=f.set g (evs.length:Int)):=Lib.hid (by rw[HF.out,fstE,Int.toNat_natCast,if_pos ⟨n0,by rw[←HY.out];exact y0⟩]);subst y0;go_wp2;go_meet;case rel=>rw[E1.out];exact IH.setF g _
           ·
            have E1:Hid (f'=f):=Lib.hid (by rw[HF.out,fstE,Int.toNat_natCast,if_neg (fun e=>y0 (HY.out.trans e.2))]);have ey:(y==0)=false:=by simp[y0]
            clear y0;go_wp2;go_meet;case rel=>rw[E1.out];exact IH
          case rest=>
           clear t0 t1 t2 t3 s0 s1 s2 s3 s4 s5 F2 F4 F5 z1 z2 z3;clear hRC FG IH;have hRC:=hcut.l.row.cell (j:=g) (by rw[hfl'.out];exact hg9);rw[gg.out] at hRC;obtain⟨t0,t1,t2,t3⟩:=hcut.deed;obtain⟨s0,s1,s2,s3,s4,s5⟩:=hcut.event;have F2:=hcut.free 2;have F4:=hcut.free 4;have F5:=hcut.free 5;obtain⟨z1,z2,z3⟩:=hcut.lt;go_wp2;go_meet;case rel=>exact hcut.set5 _
        case rest=>
         clear t0 t1 t2 t3 s0 s1 s2 s3 s4 s5 F2 F4 F5 z1 z2 z3;clear IH hI;obtain⟨t0,t1,t2,t3⟩:=hcut.deed;obtain⟨s0,s1,s2,s3,s4,s5⟩:=hcut.event;have F2:=hcut.free 2;have F4:=hcut.free 4;have F5:=hcut.free 5;obtain⟨z1,z2,z3⟩:=hcut.lt;go_wp2_with (at_builtin;refine wpList_append_own_at _ rfl _ _ 70 rfl w.heap.size 99 j0 (.agg #[.int .i64 0,.int .i64 0,.bool false,.int .i64 0,.int .i64 0,.int .i64 0]) 6 48 Tryd.underlying70 hj hy0 hy1 hy2 rfl (by decide) _ _ _ rfl (hcut.l.app.keep ((Keep.refl _).alloc _)) ⟨_,0,none⟩ 1 1 (cE ((k:Int),(q:Int),true,x1,0,cl)) rfl rfl ?a1 ?a2 ?a3 ?a4 ?a5 ?_)
         case a1=>exact cE_new _ _ _ _ _ _ _
         case a2=>exact cE_one _
         case a3=>unfold maxLen;omega
         case a4=>omega
         case a5=>simp;omega
         intro v' w5 hown' hgrow _ hbl;have I5:=hcut.hit ((k:Int),(q:Int),true,x1,0,cl) hown' hgrow hbl;clear hown' hgrow hbl;obtain⟨es1,h1⟩:∃es1,es1=evs++[((k:Int),(q:Int),true,x1,0,cl)]:=⟨_,rfl⟩;have l1:es1.length≤evs.length+1:=by rw[h1];simp
         rw[←h1] at I5;clear t0 t1 t2 t3 s0 s1 s2 s3 s4 s5 F2 F4 F5 z1 z2 z3;clear hcut;obtain⟨t0,t1,t2,t3⟩:=I5.deed;obtain⟨s0,s1,s2,s3,s4,s5⟩:=I5.event;have F2:=I5.free 2;have F4:=I5.free 4;have F5:=I5.free 5;obtain⟨z1,z2,z3⟩:=I5.lt;have HS1:Hid (clkE k ds es (q+1)=(es1,f')):=Lib.hid (by rw[HS.out,h1]);clear h1 HS;go_wp2;go_roundw;case rel=>exact⟨q+1,es1,f',by omega,by go_num,HS1,hfl',by omega,I5.l⟩
         case measure=>simp[intOf];omega
      ·
       obtain⟨f',hf'⟩:∃f',f'=fstE (g:Int) evs.length f:=⟨_,rfl⟩;obtain⟨cl,hcl⟩:∃cl,cl=clsE (g:Int) evs.length f:=⟨_,rfl⟩;have HS:Hid (clkE k ds es (q+1)=(evs++[((k:Int),(q:Int),false,x1,x2,cl)],f')):=Lib.hid (by rw[HST.out,hf',hcl];rfl);have hfl':Hid (f'.length=10):=Lib.hid (by rw[hf',fstE_len];exact hfl.out);have HF:=Lib.hid hf';have HC:=Lib.hid hcl;clear HST hf' hcl;clear r4;go_upto_if 61 with fail
       have I1:=hI.boxes 2 x1 x2 (g:Int) (k:Int) (q:Int) false x1 x2 (evs.length:Int);go_cut [] from 29 to 99 (fun wx=>InE w wx wo.heap.size wr.heap.size (wr.heap.size+1) (.slice av evs.length cv) evs f 2 x1 x2 g k q false x1 x2 evs.length)
       case first=>
        go_wp2;go_meet;case rel=>exact I1
       case rest=>
        clear I1 A0 A1 A2 A3 d1;have IH:=hcut;clear hcut;obtain⟨t0,t1,t2,t3⟩:=IH.deed;obtain⟨s0,s1,s2,s3,s4,s5⟩:=IH.event;have F2:=IH.free 2;have F4:=IH.free 4;have F5:=IH.free 5;obtain⟨z1,z2,z3⟩:=IH.lt;go_upto_if 67 with fail
        go_cut [] from 29 to 99 (fun wx=>InE w wx wo.heap.size wr.heap.size (wr.heap.size+1) (.slice av evs.length cv) evs f' 2 x1 x2 g k q false x1 x2 cl)
        case first=>
         by_cases g0:g=0
         ·
          have n0:(g:Int)≤0:=by omega
          have E1:Hid (f'=f):=Lib.hid (by rw[HF.out,fstE,if_neg (by omega)]);have E2:Hid (cl=(evs.length:Int)):=Lib.hid (by rw[HC.out,clsE,if_neg (by omega)]);go_wp2;go_meet;case rel=>rw[E1.out,E2.out];exact IH
         ·
          have n0:(0:Int)<(g:Int):=by omega
          have gg:Hid (f'.getD g 0=cl):=Lib.hid (by rw[HC.out,HF.out,clsE,if_pos n0,Int.toNat_natCast]);have hRC:=IH.l.row.cell (j:=g) (by rw[hfl.out];exact hg9);obtain⟨y,hy⟩:∃y,y=f.getD g 0:=⟨_,rfl⟩;rw[←hy] at hRC;have HY:=Lib.hid hy;have FG:=IH.l.row.free g;clear hy g0;go_upto_if 73 with fail
          go_cut [] from 29 to 99 (fun wx=>InE w wx wo.heap.size wr.heap.size (wr.heap.size+1) (.slice av evs.length cv) evs f' 2 x1 x2 g k q false x1 x2 evs.length)
          case first=>
           by_cases y0:y=0
           ·
            have E1:Hid (f'=f.set g (evs.length:Int)):=Lib.hid (by rw[HF.out,fstE,Int.toNat_natCast,if_pos ⟨n0,by rw[←HY.out];exact y0⟩]);subst y0;go_wp2;go_meet;case rel=>rw[E1.out];exact IH.setF g _
           ·
            have E1:Hid (f'=f):=Lib.hid (by rw[HF.out,fstE,Int.toNat_natCast,if_neg (fun e=>y0 (HY.out.trans e.2))]);have ey:(y==0)=false:=by simp[y0]
            clear y0;go_wp2;go_meet;case rel=>rw[E1.out];exact IH
          case rest=>
           clear t0 t1 t2 t3 s0 s1 s2 s3 s4 s5 F2 F4 F5 z1 z2 z3;clear hRC FG IH;have hRC:=hcut.l.row.cell (j:=g) (by rw[hfl'.out];exact hg9);rw[gg.out] at hRC;obtain⟨t0,t1,t2,t3⟩:=hcut.deed;obtain⟨s0,s1,s2,s3,s4,s5⟩:=hcut.event;have F2:=hcut.free 2;have F4:=hcut.free 4;have F5:=hcut.free 5;obtain⟨z1,z2,z3⟩:=hcut.lt;go_wp2;go_meet;case rel=>exact hcut.set5 _
        case rest=>
         clear t0 t1 t2 t3 s0 s1 s2 s3 s4 s5 F2 F4 F5 z1 z2 z3;clear IH hI;obtain⟨t0,t1,t2,t3⟩:=hcut.deed;obtain⟨s0,s1,s2,s3,s4,s5⟩:=hcut.event;have F2:=hcut.free 2;have F4:=hcut.free 4;have F5:=hcut.free 5;obtain⟨z1,z2,z3⟩:=hcut.lt;go_wp2_with (at_builtin;refine wpList_append_own_at _ rfl _ _ 70 rfl w.heap.size 99 j0 (.agg #[.int .i64 0,.int .i64 0,.bool false,.int .i64 0,.int .i64 0,.int .i64 0]) 6 48 Tryd.underlying70 hj hy0 hy1 hy2 rfl (by decide) _ _ _ rfl (hcut.l.app.keep ((Keep.refl _).alloc _)) ⟨_,0,none⟩ 1 1 (cE ((k:Int),(q:Int),false,x1,x2,cl)) rfl rfl ?a1 ?a2 ?a3 ?a4 ?a5 ?_)
         case a1=>exact cE_new _ _ _ _ _ _ _
         case a2=>exact cE_one _
         case a3=>unfold maxLen;omega
         case a4=>omega
         case a5=>simp;omega
         intro v' w5 hown' hgrow _ hbl;have I5:=hcut.hit ((k:Int),(q:Int),false,x1,x2,cl) hown' hgrow hbl;clear hown' hgrow hbl;obtain⟨es1,h1⟩:∃es1,es1=evs++[((k:Int),(q:Int),false,x1,x2,cl)]:=⟨_,rfl⟩;have l1:es1.length≤evs.length+1:=by rw[h1];simp
         rw[←h1] at I5;clear t0 t1 t2 t3 s0 s1 s2 s3 s4 s5 F2 F4 F5 z1 z2 z3;clear hcut;obtain⟨t0,t1,t2,t3⟩:=I5.deed;obtain⟨s0,s1,s2,s3,s4,s5⟩:=I5.event;have F2:=I5.free 2;have F4:=I5.free 4;have F5:=I5.free 5;obtain⟨z1,z2,z3⟩:=I5.lt;have HS1:Hid (clkE k ds es (q+1)=(es1,f')):=Lib.hid (by rw[HS.out,h1]);clear h1 HS;go_wp2;go_roundw;case rel=>exact⟨q+1,es1,f',by omega,by go_num,HS1,hfl',by omega,I5.l⟩
         case measure=>simp[intOf];omega
      ·
       obtain⟨f',hf'⟩:∃f',f'=fstE (g:Int) evs.length f:=⟨_,rfl⟩;obtain⟨cl,hcl⟩:∃cl,cl=clsE (g:Int) evs.length f:=⟨_,rfl⟩;have HS:Hid (clkE k ds es (q+1)=(evs++[((k:Int),(q:Int),true,x1,0,cl),((k:Int),(q:Int),false,x1,x2,cl)],f')):=Lib.hid (by rw[HST.out,hf',hcl];rfl);have hfl':Hid (f'.length=10):=Lib.hid (by rw[hf',fstE_len];exact hfl.out);have HF:=Lib.hid hf';have HC:=Lib.hid hcl;clear HST hf' hcl;have n0:(g:Int)≤0:=by have:=r4 (by omega);omega
       clear r4;go_upto_if 61 with fail
       have I1:=hI.boxes 3 x1 x2 (g:Int) (k:Int) (q:Int) true x1 0 (evs.length:Int);go_cut [] from 29 to 99 (fun wx=>InE w wx wo.heap.size wr.heap.size (wr.heap.size+1) (.slice av evs.length cv) evs f 3 x1 x2 g k q true x1 0 evs.length)
       case first=>
        go_wp2;go_meet;case rel=>exact I1
       case rest=>
        clear I1 A0 A1 A2 A3 d1;have IH:=hcut;clear hcut;obtain⟨t0,t1,t2,t3⟩:=IH.deed;obtain⟨s0,s1,s2,s3,s4,s5⟩:=IH.event;have F2:=IH.free 2;have F4:=IH.free 4;have F5:=IH.free 5;obtain⟨z1,z2,z3⟩:=IH.lt;go_upto_if 67 with fail
        go_cut [] from 29 to 99 (fun wx=>InE w wx wo.heap.size wr.heap.size (wr.heap.size+1) (.slice av evs.length cv) evs f' 3 x1 x2 g k q true x1 0 cl)
        case first=>
         have E1:Hid (f'=f):=Lib.hid (by rw[HF.out,fstE,if_neg (by omega)]);have E2:Hid (cl=(evs.length:Int)):=Lib.hid (by rw[HC.out,clsE,if_neg (by omega)]);go_wp2;go_meet;case rel=>rw[E1.out,E2.out];exact IH
        case rest=>
         clear t0 t1 t2 t3 s0 s1 s2 s3 s4 s5 F2 F4 F5 z1 z2 z3;clear IH hI;obtain⟨t0,t1,t2,t3⟩:=hcut.deed;obtain⟨s0,s1,s2,s3,s4,s5⟩:=hcut.event;have F2:=hcut.free 2;have F4:=hcut.free 4;have F5:=hcut.free 5;obtain⟨z1,z2,z3⟩:=hcut.lt;go_wp2_with (at_builtin;refine wpList_append_own_at _ rfl _ _ 70 rfl w.heap.size 99 j0 (.agg #[.int .i64 0,.int .i64 0,.bool false,.int .i64 0,.int .i64 0,.int .i64 0]) 6 48 Tryd.underlying70 hj hy0 hy1 hy2 rfl (by decide) _ _ _ rfl (hcut.l.app.keep ((Keep.refl _).alloc _)) ⟨_,0,none⟩ 1 1 (cE ((k:Int),(q:Int),true,x1,0,cl)) rfl rfl ?a1 ?a2 ?a3 ?a4 ?a5 ?_)
         case a1=>exact cE_new _ _ _ _ _ _ _
         case a2=>exact cE_one _
         case a3=>unfold maxLen;omega
         case a4=>omega
         case a5=>simp;omega
         intro v' w5 hown' hgrow _ hbl;have I5:=hcut.hit ((k:Int),(q:Int),true,x1,0,cl) hown' hgrow hbl;clear hown' hgrow hbl;obtain⟨es1,h1⟩:∃es1,es1=evs++[((k:Int),(q:Int),true,x1,0,cl)]:=⟨_,rfl⟩;have l1:es1.length≤evs.length+1:=by rw[h1];simp
         rw[←h1] at I5;clear t0 t1 t2 t3 s0 s1 s2 s3 s4 s5 F2 F4 F5 z1 z2 z3;clear hcut;obtain⟨t0,t1,t2,t3⟩:=I5.deed;obtain⟨s0,s1,s2,s3,s4,s5⟩:=I5.event;have F2:=I5.free 2;have F4:=I5.free 4;have F5:=I5.free 5;obtain⟨z1,z2,z3⟩:=I5.lt;have HS1:Hid (clkE k ds es (q+1)=(es1++[((k:Int),(q:Int),false,x1,x2,cl)],f')):=Lib.hid (by rw[HS.out,h1,List.append_assoc];rfl);clear h1 HS;go_upto_region 26 with fail
         have zz:w.heap.size≤w5.heap.size:=I5.l.keep.size;have I6:=I5.set2 false;clear t0 t1 t2 t3 s0 s1 s2 s3 s4 s5 F2 F4 F5 z1 z2 z3;obtain⟨t0,t1,t2,t3⟩:=I6.deed;obtain⟨s0,s1,s2,s3,s4,s5⟩:=I6.event;have F2:=I6.free 2;have F4:=I6.free 4;have F5:=I6.free 5;obtain⟨z1,z2,z3⟩:=I6.lt;go_upto_region 27 with fail
         have I7:=I6.set4 x2;clear t0 t1 t2 t3 s0 s1 s2 s3 s4 s5 F2 F4 F5 z1 z2 z3;obtain⟨t0,t1,t2,t3⟩:=I7.deed;obtain⟨s0,s1,s2,s3,s4,s5⟩:=I7.event;have F2:=I7.free 2;have F4:=I7.free 4;have F5:=I7.free 5;obtain⟨z1,z2,z3⟩:=I7.lt;go_wp2_with (at_builtin;refine wpList_append_own_at _ rfl _ _ 70 rfl w.heap.size 99 j0 (.agg #[.int .i64 0,.int .i64 0,.bool false,.int .i64 0,.int .i64 0,.int .i64 0]) 6 48 Tryd.underlying70 hj hy0 hy1 hy2 rfl (by decide) _ _ _ rfl (I7.l.app.keep ((Keep.refl _).alloc _)) ⟨_,0,none⟩ 1 1 (cE ((k:Int),(q:Int),false,x1,x2,cl)) rfl rfl ?b1 ?b2 ?b3 ?b4 ?b5 ?_)
         case b1=>exact cE_newAt _ _ (by simp) _ _ _ _ _ _
         case b2=>exact cE_one _
         case b3=>unfold maxLen;omega
         case b4=>omega
         case b5=>simp;omega
         intro v' w5 hown' hgrow _ hbl;have I8:=I7.hit ((k:Int),(q:Int),false,x1,x2,cl) hown' hgrow (by simpa using hbl);clear hown' hgrow hbl;clear t0 t1 t2 t3 s0 s1 s2 s3 s4 s5 F2 F4 F5 z1 z2 z3;clear I5 I6 I7;go_wp2;go_roundw;case rel=>exact⟨q+1,_,f',by omega,by go_num,HS1,hfl',by simp;omega,I8.l⟩
         case measure=>simp[intOf];omega
      ·
       have HS:Hid (clkE k ds es (q+1)=(evs,f)):=Lib.hid (by rw[HST.out];rfl);clear HST r4;go_wp2;go_roundw;case rel=>exact⟨q+1,evs,f,by omega,by go_num,HS,hfl,by omega,hI.more ((Keep.refl _).alloc _)⟩
       case measure=>simp[intOf];omega
     ·
      obtain rfl:q=ds.length:=by omega
      go_wp2;go_roundw;case rel=>exact⟨k+1,evs,by omega,by go_num,Lib.hid (by rw[evsW,←HDS.out,←hE.out,hC.out]),by omega,hI.app,hI.keep⟩
      case measure=>simp[intOf];omega
   ·
    obtain rfl:k=dss.length:=by omega
    go_wp2;go_ret;exact⟨_,rfl,by rw[←hE.out];exact ho,hK⟩
theorem specReadsOf_any (w:World)(v:Value)(es:List Ev)(h:RdE w v es)(hx:es.length≤1048576):
  Calls Tryd.prog 42 #[v] w fun e w'=>∃v',e = .returned v'∧Own w' w.heap.size v' (idxB rdE es)∧Keep w w':=by
 have hown0:Own (w.alloc (.cells #[] 2)) w.heap.size (.slice (some ⟨w.heap.size,0,none⟩) 0 0) []:=World.ownsRow_lit w #[] 0 (Nat.le_refl _) (by decide) rfl;obtain⟨a,cap,rfl,h⟩:=h;by_cases hl:12<es.length
 ·
  have HE:Hid (idxB rdE es=[]):=Lib.hid (by unfold idxB;rw[if_neg (by omega)]);have l1:(12:Int)<(es.length:Int):=by omega
  go_enter Tryd.func42,Tryd.ntmps42
  go_wp2;refine wp_loop_rounds 1 ?_;rw[rounds_succ];go_wp2;go_ret;exact⟨_,rfl,by rw[HE.out];exact hown0,(Keep.refl _).alloc _⟩
 have l1:es.length≤12:=by omega
 clear hl;have HE:Hid (idxB rdE es=idxK rdE es es.length):=Lib.hid (by unfold idxB;rw[if_pos l1]);obtain⟨i0,hi,hz0,hz1,hz2⟩:=info_parts Tryd.infoI;go_enter Tryd.func42,Tryd.ntmps42
 go_wp2;go_loopw [3,4] (fun v i wr=>∃k:Nat,k≤es.length∧i = .int .i64 k∧Own wr w.heap.size v (idxK rdE es k)∧Keep w wr) (fun _ i _=>es.length-(intOf i).toNat)
 case atStart=>exact⟨0,Nat.zero_le _,rfl,hown0,(Keep.refl _).alloc _⟩
 case round=>
  obtain⟨k,hk,rfl,ho,hK⟩:=hrel;clear hown0;by_cases hlt:k<es.length
  ·
   rcases h with h|⟨b,off,rfl,hb,hc⟩
   · exfalso;rw[h] at hlt;simp at hlt
   have AT:=(hc k _ (evs_get hlt)).keep hb hK;have hbw:b<wr.heap.size:=Nat.lt_of_lt_of_le hb hK.size;clear hc;have hml:(idxK rdE es k).length≤k:=idxK_len rdE es k;have hsz:=hK.size;have i1:(0:Int)≤(k:Int):=Int.natCast_nonneg _;have i2:(k:Int)<(es.length:Int):=by omega
   have l2:(es.length:Int)≤12:=by omega
   have HP:Hid (idxK rdE es (k+1)=if rdE (es.getD k zE)=true then idxK rdE es k++[(k:Int)] else idxK rdE es k):=Lib.hid rfl;obtain⟨e,he⟩:∃e,e=es.getD k zE:=⟨_,rfl⟩;rw[←he] at AT HP;clear he;obtain⟨x0,x1,x2,x3,x4,x5⟩:=e;obtain⟨-,-,A2,-,-,-⟩:=atE AT;clear AT;cases x2
   ·
    have HM:Hid (idxK rdE es (k+1)=idxK rdE es k):=Lib.hid (by rw[HP.out];rfl);clear HP;go_wp2;go_roundw;case rel=>exact⟨k+1,by omega,by go_num,by rw[HM.out];exact ho,hK⟩
    case measure=>simp[intOf];omega
   ·
    have HM:Hid (idxK rdE es (k+1)=idxK rdE es k++[(k:Int)]):=Lib.hid (by rw[HP.out];rfl);clear HP;go_wp2_with (at_builtin;refine wpList_append_own _ rfl _ _ 25 rfl w.heap.size 2 i0 (.int .i64 0) 1 8 Tryd.underlying25 hi hz0 hz1 hz2 rfl (by decide) _ _ _ rfl (World.ownsRow.alloc ho _) ⟨_,0,none⟩ 1 1 [.int .i64 k] rfl rfl ?c1 ?c2 ?c3 ?c4 ?c5 ?_)
    case c1=>
     intro j u hj
     match j,hj with
     | 0,hj=>simp at hj;subst hj;simp[Addr.add]
    case c2=>intro u hu;simp at hu;subst hu;rfl
    case c3=>unfold maxLen;omega
    case c4=>omega
    case c5=>simp;omega
    intro v' w1 hown' hgrow _;have hK1:Keep w w1:=(hK.alloc _).grown hgrow ho.ge;clear hgrow;go_wp2;go_roundw;case rel=>exact⟨k+1,by omega,by go_num,by rw[HM.out];exact own_hit hown',hK1⟩
    case measure=>simp[intOf];omega
  ·
   obtain rfl:k=es.length:=by omega
   go_wp2;go_ret;exact⟨_,rfl,by rw[HE.out];exact ho,hK⟩
theorem l18Key_any (n reads:Int)(h0:0≤reads)(h1:reads≤12)(w:World):
  Calls Tryd.prog 59 #[.int .i64 n,.int .i64 reads] w fun e w'=>e = .returned (.bool (keyB n reads))∧w'=w:=by
 have hw:IntKind.i64.wrap (reads-1)=reads-1:=by rw[IntKind.wrap_i64];omega
 have C1:=fun W=>l1In_any n 0 (reads-1) W
 have C2:=fun W=>l1In_any n 100 102 W
 have HE:Hid (keyB n reads=(inB n 0 (reads-1)||inB n 100 102)):=Lib.hid rfl;generalize inB n 0 (reads-1)=A at C1 HE;generalize inB n 100 102=B at C2 HE;go_enter Tryd.func59,Tryd.ntmps59
 go_wp2_with fail
 refine (C1 w).mono ?_;rintro e w1 ⟨rfl,rfl⟩;cases A
 ·
  go_wp2_with fail
  refine (C2 _).mono ?_;rintro e w2 ⟨rfl,rfl⟩;go_wp2;go_ret;exact⟨by rw[HE.out];rfl,rfl⟩
 ·
  go_wp2;go_ret;exact⟨by rw[HE.out];rfl,rfl⟩
theorem l18Ok_any (w:World)(vR vV:Value)(rs vs:List Int)(reads:Int)(hr:Rd w vR rs)(hv:Rd w vV vs)(h0:0≤reads)(h1:reads≤12)(lr:rs.length≤2097152):
  Calls Tryd.prog 38 #[.agg #[vR,vV],.int .i64 reads] w fun e w'=>e = .returned (.bool (okA reads rs vs))∧Keep w w':=by
 obtain⟨aR,cR,rfl,hr⟩:=hr;obtain⟨aV,cV,rfl,hv⟩:=hv;have HE:Hid (okA reads rs vs=((decide (rs.length≤6)&&decide (rs.length=vs.length))&&askP reads rs vs rs.length)):=Lib.hid rfl;have CK:=fun (n:Int) (W:World)=>l18Key_any n reads h0 h1 W
 have K1:Keep w (w.alloc (.cells #[.slice aR rs.length cR,.slice aV vs.length cV] 27)):=(Keep.refl w).alloc _;have HR:=Lib.hid hr;have HV:=Lib.hid hv;clear hr hv;obtain⟨wA,hwA⟩:∃W:World,W=w.alloc (.cells #[.slice aR rs.length cR,.slice aV vs.length cV] 27):=⟨_,rfl⟩;rw[←hwA] at K1;have b0:wA.cell? ⟨w.heap.size,0,none⟩=some (.slice aR rs.length cR):=by rw[hwA];exact box_cell (Keep.refl _) 0
 have b1:wA.cell? ⟨w.heap.size,1,none⟩=some (.slice aV vs.length cV):=by rw[hwA];exact box_cell (Keep.refl _) 1
 by_cases h6:6<rs.length
 ·
  have d6:(6:Int)<(rs.length:Int):=by omega
  have HN:Hid (okA reads rs vs=false):=Lib.hid (by rw[HE.out,decide_eq_false (by omega)];rfl);go_enter Tryd.func38,Tryd.ntmps38
  go_upto_region 1 with fail
  rw[←hwA];clear hwA;go_wp2;go_ret;exact⟨by rw[HN.out];rfl,K1⟩
 ·
  have d6:decide ((6:Int)<(rs.length:Int))=false:=by rw[decide_eq_false_iff_not];omega
  by_cases hl:rs.length=vs.length
  ·
   have XL:=Lib.hid hl;have hle:((rs.length:Int) != (vs.length:Int))=false:=by rw[hl];simp
   have HN:Hid (okA reads rs vs=askP reads rs vs rs.length):=Lib.hid (by rw[HE.out,decide_eq_true (by omega),decide_eq_true hl];rfl);clear hl;go_enter Tryd.func38,Tryd.ntmps38
   go_upto_region 1 with fail
   rw[←hwA];clear hwA;go_wp2;go_loop [5] (fun i=>∃k:Nat,k≤rs.length∧i = .int .i64 k∧Hid (askP reads rs vs k=true)) (fun i=>rs.length-(intOf i).toNat)
   case atStart=>exact⟨0,Nat.zero_le _,rfl,Lib.hid rfl⟩
   case round=>
    obtain⟨k,hk,rfl,hq⟩:=hrel;by_cases hlt:k<rs.length
    ·
     have hlt2:k<vs.length:=by have:=XL.out;omega
     rcases HR.out with q|⟨bR,oR,rfl,hbR,dR⟩
     · exfalso;rw[q] at hlt;simp at hlt
     rcases HV.out with q|⟨bV,oV,rfl,hbV,dV⟩
     · exfalso;rw[q] at hlt2;simp at hlt2
     have e1:=(K1.cell hbR).trans (dR k hlt);have e2:=(K1.cell hbV).trans (dV k hlt2);have i1:(0:Int)≤(k:Int):=Int.natCast_nonneg _;have i2:(k:Int)<(rs.length:Int):=by omega
     have i3:(k:Int)<(vs.length:Int):=by omega
     have XS:Hid (askP reads rs vs (k+1)=(keyB (rs.getD k 0) reads&&inB (vs.getD k 0) 0 9)):=Lib.hid (by
      show (askP reads rs vs k&&_)=_
      rw[hq.out,Bool.true_and])
     have CI:=fun (W:World)=>l1In_any (vs.getD k 0) 0 9 W
     have CX:=fun (W:World)=>CK (rs.getD k 0) W
     generalize rs.getD k 0=x at e1 CX XS;generalize vs.getD k 0=y at e2 CI XS;generalize keyB x reads=A at CX XS;generalize inB y 0 9=B at CI XS;clear dR dV hlt2;go_wp2_with fail
     refine (CX _).mono ?_;rintro e w1 ⟨rfl,rfl⟩;cases A
     ·
      clear CI;go_wp2;go_ret;exact⟨by rw[HN.out,askP_off (k:=k+1) (by rw[XS.out];rfl) (by omega)];rfl,K1⟩
     ·
      go_wp2_with fail
      refine (CI _).mono ?_;rintro e w2 ⟨rfl,rfl⟩;cases B
      ·
       go_wp2;go_ret;exact⟨by rw[HN.out,askP_off (k:=k+1) (by rw[XS.out];rfl) (by omega)];rfl,K1⟩
      ·
       go_wp2;go_round
       case rel=>exact⟨k+1,by omega,by go_num,Lib.hid (by rw[XS.out];rfl)⟩
       case measure=>simp[intOf];omega
    ·
     obtain rfl:k=rs.length:=by omega
     go_wp2;go_ret;exact⟨by rw[HN.out,hq.out];rfl,K1⟩
  ·
   have hle:((rs.length:Int) != (vs.length:Int))=true:=by simp;omega
   have HN:Hid (okA reads rs vs=false):=Lib.hid (by rw[HE.out,decide_eq_false hl,Bool.and_false,Bool.false_and]);clear hl;go_enter Tryd.func38,Tryd.ntmps38
   go_upto_region 1 with fail
   rw[←hwA];clear hwA;go_wp2;go_ret;exact⟨by rw[HN.out];rfl,K1⟩
theorem specAskOk_any (w:World)(v vR vV:Value)(dss:List (List Dd))(rs vs:List Int)(h:RdW w v dss)(hr:Rd w vR rs)(hv:Rd w vV vs)(hx:dss.length≤1048576)(hm:∀i,i<dss.length→(dss.getD i []).length≤1048576)(lr:rs.length≤1048576):
  Calls Tryd.prog 15 #[v,.agg #[vR,vV]] w fun e w'=>e = .returned (.bool (askB dss rs vs))∧Keep w w':=by
 have CW:=fun (W:World) (kW:Keep w W)=>specWorkOk_any W v dss (h.keep kW) hx hm
 have KK:Keep w ((w.alloc (.cells #[vR,vV] 27)).drew):=((Keep.refl w).alloc _).drew;have z1:w.heap.size<((w.alloc (.cells #[vR,vV] 27)).drew).heap.size:=by rw[heap_drew,heap_size];omega
 have b0:((w.alloc (.cells #[vR,vV] 27)).drew).cell? ⟨w.heap.size,0,none⟩=some vR:=box_cell (Keep.refl _) 0;have b1:((w.alloc (.cells #[vR,vV] 27)).drew).cell? ⟨w.heap.size,1,none⟩=some vV:=box_cell (Keep.refl _) 1;cases hb:workB dss
 ·
  have HE:Hid (askB dss rs vs=false):=Lib.hid (by rw[askB,hb];rfl);rw[hb] at CW;obtain⟨aR,cR,rfl,-⟩:=hr;obtain⟨aV,cV,rfl,-⟩:=hv;obtain⟨av,cv,rfl,-⟩:=h;go_enter Tryd.func15,Tryd.ntmps15
  go_wp2;refine wp_region_held_drew (S:=(fun w'=>w'.cell? ⟨w.heap.size,0,none⟩=some (.slice aR rs.length cR)∧w'.cell? ⟨w.heap.size,1,none⟩=some (.slice aV vs.length cV))) (by kernel_rfl) ?_ (fun hHeld=>?_)
  · go_keep
  refine takeQ 0 5 (v:=?_) ?_ ?_;rotate_left
  ·
   intro wx hSw;go_simp;with_reducible rfl
  simp only[Act.put,List.setIfInBounds_toArray,List.set_cons_zero,List.set_cons_succ];refine wpAnyH_ready (rs:=[1]) (by kernel_rfl) (by simp) ?_;refine AllReadyH.cons rfl (fun K hK=>?_) AllReadyH.nil;go_simp;refine (CW _ KK).mono ?_;rintro e wz ⟨rfl,kk⟩;have z0:=z1;have KK:=KK.trans kk;have z1:=Nat.lt_of_lt_of_le z1 kk.size;go_wp2_with fail
  refine hK.out _ _ ?_ (fun hHeld=>?_)
  · exact⟨(kk.cell z0).trans hHeld.1,(kk.cell z0).trans hHeld.2⟩
  clear hK K;refine takeQ 2 7 (v:=?_) ?_ ?_;rotate_left
  ·
   intro wx hSw;go_simp;with_reducible rfl
  simp only[Act.put,List.setIfInBounds_toArray,List.set_cons_zero,List.set_cons_succ];refine skipH 3 8 rfl rfl (by kernel_rfl) (by kernel_rfl) (by kernel_rfl) (fun _ _ _ h=>h) (by rfl) (by assumption) ?_;simp only[Act.put,List.setIfInBounds_toArray,List.set_cons_zero,List.set_cons_succ];refine skipH 4 9 rfl rfl (by kernel_rfl) (by kernel_rfl) (by kernel_rfl) (fun _ _ _ h=>h) (by rfl) (by assumption) ?_;simp only[Act.put,List.setIfInBounds_toArray,List.set_cons_zero,List.set_cons_succ];refine skipH 5 10 rfl rfl (by kernel_rfl) (by kernel_rfl) (by kernel_rfl) (fun _ _ _ h=>h) (by rfl) (by assumption) ?_;simp only[Act.put,List.setIfInBounds_toArray,List.set_cons_zero,List.set_cons_succ];refine skipH 6 11 rfl rfl (by kernel_rfl) (by kernel_rfl) (by kernel_rfl) (fun _ _ _ h=>h) (by rfl) (by assumption) ?_;simp only[Act.put,List.setIfInBounds_toArray,List.set_cons_zero,List.set_cons_succ];refine skipH 7 12 rfl rfl (by kernel_rfl) (by kernel_rfl) (by kernel_rfl) (fun _ _ _ h=>h) (by rfl) (by assumption) ?_;simp only[Act.put,List.setIfInBounds_toArray,List.set_cons_zero,List.set_cons_succ];refine skipH 8 13 rfl rfl (by kernel_rfl) (by kernel_rfl) (by kernel_rfl) (fun _ _ _ h=>h) (by rfl) (by assumption) ?_;refine takeQ 9 14 (v:=?_) ?_ ?_;rotate_left
  ·
   intro wx hSw;go_simp;with_reducible rfl
  refine takeQ 10 4 (v:=?_) ?_ ?_;rotate_left
  ·
   intro wx hSw;go_simp;with_reducible rfl
  simp only[Act.put,List.setIfInBounds_toArray,List.set_cons_zero,List.set_cons_succ];refine wpAnyH_done (by kernel_rfl) ?_ _;go_wp2;go_ret;exact⟨by rw[HE.out];rfl,KK⟩
 ·
  have CO:=fun (W:World) (kW:Keep w W)=>l18Ok_any W vR vV rs vs (nRd dss) (hr.keep kW) (hv.keep kW) (nRd_in dss).1 (nRd_in dss).2 (by omega)
  obtain⟨u1,u2⟩:=workB_useR hb;have hq9:(evsW dss dss.length).length≤1048576:=by have:=evsW_9 hb;omega
  have HE:Hid (askB dss rs vs=okA (nRd dss) rs vs):=Lib.hid (by rw[askB,hb,Bool.true_and]);rw[hb] at CW;generalize okA (nRd dss) rs vs=A at CO HE;obtain⟨aR,cR,rfl,-⟩:=hr;obtain⟨aV,cV,rfl,-⟩:=hv;obtain⟨av,cv,rfl,-⟩:=id h;go_enter Tryd.func15,Tryd.ntmps15
  go_wp2;refine wp_region_held_drew (S:=(fun w'=>w'.cell? ⟨w.heap.size,0,none⟩=some (.slice aR rs.length cR)∧w'.cell? ⟨w.heap.size,1,none⟩=some (.slice aV vs.length cV))) (by kernel_rfl) ?_ (fun hHeld=>?_)
  · go_keep
  refine takeQ 0 5 (v:=?_) ?_ ?_;rotate_left
  ·
   intro wx hSw;go_simp;with_reducible rfl
  simp only[Act.put,List.setIfInBounds_toArray,List.set_cons_zero,List.set_cons_succ];refine wpAnyH_ready (rs:=[1]) (by kernel_rfl) (by simp) ?_;refine AllReadyH.cons rfl (fun K hK=>?_) AllReadyH.nil;go_simp;refine (CW _ KK).mono ?_;rintro e wz ⟨rfl,kk⟩;have z0:=z1;have KK:=KK.trans kk;have z1:=Nat.lt_of_lt_of_le z1 kk.size;go_wp2_with fail
  refine hK.out _ _ ?_ (fun hHeld=>?_)
  · exact⟨(kk.cell z0).trans hHeld.1,(kk.cell z0).trans hHeld.2⟩
  clear hK K;refine takeQ 2 7 (v:=?_) ?_ ?_;rotate_left
  ·
   intro wx hSw;go_simp;with_reducible rfl
  refine takeQ 3 8 (v:=?_) ?_ ?_;rotate_left
  ·
   intro wx hSw;go_simp;with_reducible rfl
  refine takeQ 4 9 (v:=?_) ?_ ?_;rotate_left
  ·
   intro wx hSw;go_simp;with_reducible rfl
  simp only[Act.put,List.setIfInBounds_toArray,List.set_cons_zero,List.set_cons_succ];refine wpAnyH_ready (rs:=[5]) (by kernel_rfl) (by simp) ?_;refine AllReadyH.cons rfl (fun K hK=>?_) AllReadyH.nil;go_simp;refine (l6Events_any _ _ _ (h.keep KK) u1 u2).mono ?_;rintro e wz ⟨v2,rfl,a2,kk⟩;have z0:=z1;have KK:=KK.trans kk;have z1:=Nat.lt_of_lt_of_le z1 kk.size;have a2r:=a2.rd;obtain⟨ae,ce,rfl,-⟩:=id a2r;go_wp2_with fail
  refine hK.out _ _ ?_ (fun hHeld=>?_)
  · exact⟨(kk.cell z0).trans hHeld.1,(kk.cell z0).trans hHeld.2⟩
  clear hK K;refine wpAnyH_ready (rs:=[6]) (by kernel_rfl) (by simp) ?_;refine AllReadyH.cons rfl (fun K hK=>?_) AllReadyH.nil;go_simp;refine (specReadsOf_any _ _ _ a2r hq9).mono ?_;rintro e wz ⟨v3,rfl,o3,kk⟩;have z0:=z1;have KK:=KK.trans kk;have z1:=Nat.lt_of_lt_of_le z1 kk.size;obtain⟨a3,c3,rfl,-⟩:=o3.rd;go_wp2_with fail
  refine hK.out _ _ ?_ (fun hHeld=>?_)
  · exact⟨(kk.cell z0).trans hHeld.1,(kk.cell z0).trans hHeld.2⟩
  clear hK K;refine takeQ 7 12 (v:=?_) ?_ ?_;rotate_left
  ·
   intro wx hSw;go_simp;with_reducible rfl
  simp only[Act.put,List.setIfInBounds_toArray,List.set_cons_zero,List.set_cons_succ];refine wpAnyH_ready (rs:=[8]) (by kernel_rfl) (by simp) ?_;refine AllReadyH.cons rfl (fun K hK=>?_) AllReadyH.nil;go_simp;refine (CO _ KK).mono ?_;rintro e wz ⟨rfl,kk⟩;have z0:=z1;have KK:=KK.trans kk;have z1:=Nat.lt_of_lt_of_le z1 kk.size;go_wp2_with fail
  refine hK.out _ _ ?_ (fun hHeld=>?_)
  · exact⟨(kk.cell z0).trans hHeld.1,(kk.cell z0).trans hHeld.2⟩
  clear hK K;refine takeQ 9 14 (v:=?_) ?_ ?_;rotate_left
  ·
   intro wx hSw;go_simp;with_reducible rfl
  refine takeQ 10 4 (v:=?_) ?_ ?_;rotate_left
  ·
   intro wx hSw;go_simp;with_reducible rfl
  simp only[Act.put,List.setIfInBounds_toArray,List.set_cons_zero,List.set_cons_succ];refine wpAnyH_done (by kernel_rfl) ?_ _;go_wp2;go_ret;exact⟨by rw[HE.out];rfl,KK⟩
end Go.Proofs.YtflehmepjhikcaaDoor
