/- Gathered texts. -/
import Derived.Test.YtflehmepjhikcaaGreatDoorRows
import Derived.OpenShut
import Derived.Deep.Slices
import Derived.Lib.SmallJoins
import Derived.Outline
import Derived.OwnWalk
import Derived.Lib.Hide
import Derived.Test.YtflehmepjhikcaaGreatDoorMD
import Derived.Laws.Tables
import Derived.Laws.CopyOwn
import Derived.Maps.RangeWalk
import Derived.DeepKeys4
import Derived.Maps.AppendAt
import Derived.Laws.OwnMore
set_option maxRecDepth 100000
set_option maxHeartbeats 8000000
namespace Go.Proofs.YtflehmepjhikcaaGreatDoor
open Go.ChangeMaps (setBlock heap_setBlock_same heap_setBlock_other)
open Go.ChangeShapes Go.WideShapes Go.ChangeAt Go.RowKit
open Go.MapKept (stamped_empty stamped_iff)
open Go.RowKit
open Go.WideElems (Fit)
theorem Fe (x lo hi:Int)(w:World):
  Calls Tryz.prog 69 #[.int .i64 x,.int .i64 lo,.int .i64 hi] w fun e w'=>e = .returned (.bool (CJ x lo hi))/\w'=w:=by
 go_enter Tryz.func69,Tryz.ntmps69
 go_wp2
 all_goals
  go_ret;exact⟨A8 (by rw[Bool.eq_iff_iff];unfold CJ;simp;omega),rfl⟩
abbrev E5 (k p v g:Int):Value:= .agg #[.int .i64 k,.int .i64 p,.int .i64 v,.int .i64 g]
theorem Hf (k p v g:Int)(w:World):
  Calls Tryz.prog 70 #[E5 k p v g] w fun e w'=>e = .returned (.bool (Dn k p v g))/\AC w w':=by
 unfold E5;go_enter Tryz.func70,Tryz.ntmps70
 go_wp2_with (go_at_call 69;refine (Fe _ _ _ _).mono ?_;rintro e w' ⟨rfl,rfl⟩)
 all_goals
  go_ret;refine⟨A8 ?_,(AC.refl w).alloc _⟩;simp[CJ] at *;rw[Bool.eq_iff_iff];simp[Dn];omega
abbrev dV (d:Dd):Value:=E5 d.1 d.2.1 d.2.2.1 d.2.2.2
def Uc (w:World)(b o:Nat)(d:Dd):Prop:=
 w.cell? ⟨b,o,none⟩=some (.int .i64 d.1)/\w.cell? ⟨b,o+1,none⟩=some (.int .i64 d.2.1)/\w.cell? ⟨b,o+2,none⟩=some (.int .i64 d.2.2.1)/\w.cell? ⟨b,o+3,none⟩=some (.int .i64 d.2.2.2)
def IY (w:World)(v:Value)(ds:List Dd):Prop:=
 ∃(a:Option Addr) (cap:Nat),v = .slice a ds.length (ds.length+cap) /\
  (ds=[]\/∃b off,a=some ⟨b,off,none⟩/\b<w.heap.size/\∀i,i<ds.length->Uc w b (off+i*4) (ds.getD i zD))
def Fo (w:World)(v:Value)(AA:List (List Dd)):Prop:=
 ∃(a:Option Addr) (cap:Nat),v = .slice a AA.length cap /\
  (AA=[]\/∃b off,a=some ⟨b,off,none⟩/\b<w.heap.size/\∀i,i<AA.length->∃vi,w.cell? ⟨b,off+i,none⟩=some vi/\IY w vi (AA.getD i []))
theorem Uc.keep {w w':World}{b o:Nat}{d:Dd}(h:Uc w b o d)(hb:b<w.heap.size)(k:AC w w'):Uc w' b o d:=
 ⟨(k.cell hb).trans h.1,(k.cell hb).trans h.2.1,(k.cell hb).trans h.2.2.1,(k.cell hb).trans h.2.2.2⟩
theorem IY.keep {w w':World}{v:Value}{ds:List Dd}(h:IY w v ds)(k:AC w w'):IY w' v ds:=by
 obtain⟨a,cap,hv,h⟩:=h;refine⟨a,cap,hv,?_⟩;rcases h with h|⟨b,off,ha,hb,hc⟩
 . exact .inl h
 . exact .inr ⟨b,off,ha,Nat.lt_of_lt_of_le hb k.size,fun i hi=>(hc i hi).keep hb k⟩
theorem Fo.keep {w w':World}{v:Value}{AA:List (List Dd)}(h:Fo w v AA)(k:AC w w'):Fo w' v AA:=by
 obtain⟨a,cap,hv,h⟩:=h;refine⟨a,cap,hv,?_⟩;rcases h with h|⟨b,off,ha,hb,hc⟩
 . exact .inl h
 ·
  refine .inr ⟨b,off,ha,Nat.lt_of_lt_of_le hb k.size,fun i hi=>?_⟩;obtain⟨vi,h1,h2⟩:=hc i hi;exact⟨vi,(k.cell hb).trans h1,h2.keep k⟩
theorem AC.set {w wr:World}(h:AC w wr){g:Nat}(hg:w.heap.size<=g)(i:Nat)(x:Value):AC w (wr.setCell ⟨g,i,none⟩ x):=
 h.grown (row:=some g) ⟨rfl,rfl,rfl,by simp,fun k _ hk=>heap_setCell_other wr ⟨g,i,none⟩ k x (fun e=>hk (by simp[e]))⟩ (fun k hk=>by simp at hk;omega)
section
section
variable {H:Type} {enc:TypeId×Value->H} {w:World} {base:Nat} {held:Bool}
theorem So {fuel:Nat}{v:Value}{x:DataW H×List MemPlace}(h:DataW.trod enc Tryz.prog w base (fun _=>true) held fuel 70 [v]=some x):∃ds,IY w v ds/\ds.length<=maxLen:=by
 have c4:Tryz.prog.cellsOf 120=4:=by kernel_rfl
 have c2:Tryz.prog.cellsOf 2=1:=by kernel_rfl
 rcases Deep.open_slice Tryz.underlying70 h with ⟨hcs,_⟩|⟨a,len,cap,m,n,D,Pl,hcs,hb,hl,hm,hmm,_,hx⟩
 ·
  simp only[List.cons.injEq,and_true] at hcs;subst hcs;exact⟨[],⟨none,0,rfl,.inl rfl⟩,by simp⟩
 ·
  simp only[List.cons.injEq,and_true] at hcs;subst hcs;have hlm:len<=m:=by rw[hmm];split<;>omega
  have each:∀i,i<len->∃d:Dd,w.cell? (a.add (i*4))=some (.int .i64 d.1)/\w.cell? (a.add (i*4+1))=some (.int .i64 d.2.1)/\w.cell? (a.add (i*4+2))=some (.int .i64 d.2.2.1)/\w.cell? (a.add (i*4+3))=some (.int .i64 d.2.2.2):=by
   intro i hi;obtain⟨cs',h1,h2⟩:=hx i (by omega);rw[c4] at h1;obtain⟨_,hlen,hcell⟩:=World.cells?_some h1;obtain⟨xs,k,hk,hxy,_,hxl,hf⟩:=DataW.trod_struct Tryz.underlying120 h2
   match xs,hxl,cs',hlen with
   | [y0,y1,y2,y3],_,[v0,v1,v2,v3],_=>
    have g0:=hf 0 _ rfl;have g1:=hf 1 _ rfl;have g2:=hf 2 _ rfl;have g3:=hf 3 _ rfl;simp[c2] at g0 g1 g2 g3;obtain⟨k0,e0,_,_⟩:=DataW.trod_int Tryz.underlying2 g0;obtain⟨k1,e1,_,_⟩:=DataW.trod_int Tryz.underlying2 g1;obtain⟨k2,e2,_,_⟩:=DataW.trod_int Tryz.underlying2 g2;obtain⟨k3,e3,_,_⟩:=DataW.trod_int Tryz.underlying2 g3;simp only[List.cons.injEq,and_true] at e0 e1 e2 e3;subst e0 e1 e2 e3;have f0:=hcell 0 (by omega);have f1:=hcell 1 (by omega);have f2:=hcell 2 (by omega);have f3:=hcell 3 (by omega);rw[Deep.add_add] at f0 f1 f2 f3;exact⟨(k0,k1,k2,k3),by simpa using f0,by simpa using f1,by simpa using f2,by simpa using f3⟩
  obtain⟨f,hf⟩:=Deep.choose_lt each;refine⟨(List.range len).map f,⟨some a,cap-len,by simp;omega,?_⟩,by simp;omega⟩;by_cases h0:len=0
  . left;subst h0;rfl
  ·
   right;obtain⟨b,off,spot⟩:=a;have hc0:=(hf 0 (by omega)).1;have hspot:spot=none:=by simpa [Addr.add] using World.cell?_spot hc0
   subst hspot
   have hbl:b<w.heap.size:=by
    rw[H0] at hc0;exact QP hc0
   refine⟨b,off,rfl,hbl,fun i hi=>?_⟩;have hi':i<len:=by simpa using hi
   rw[It f len i zD hi'];obtain⟨q0,q1,q2,q3⟩:=hf i hi';rw[H0] at q0 q1 q2 q3;exact⟨q0,q1,q2,q3⟩
theorem Vh {r:Reach}{b0:Nat}{v:Value}{d:DataW H}{p:List MemPlace}(hv:Value.okWide Tryz.prog w r b0 38 v)(h:DataW.Trod enc Tryz.prog w base (fun _=>true) held 38 v d p):∃AA,Fo w v AA/\AA.length<=maxLen/\∀i,i<AA.length->(AA.getD i []).length<=maxLen:=by
 obtain⟨a0,len0,cap0,rfl⟩:=okWide_slice Tryz.underlying38 hv;obtain⟨fuel,hf⟩:=h;rcases Deep.open_slice1 Tryz.underlying38 (by kernel_rfl) hf with ⟨hcs,_⟩|⟨a,len,cap,m,n,V,D,Pl,hcs,hb,hl,hm,hmm,_,hx⟩
 ·
  simp[Value.cells] at hcs;obtain⟨rfl,rfl,rfl⟩:=hcs;exact⟨[],⟨none,0,rfl,.inl rfl⟩,by simp,by simp⟩
 ·
  simp[Value.cells] at hcs;obtain⟨rfl,rfl,rfl⟩:=hcs;have hlm:len0<=m:=by rw[hmm];split<;>omega
  have each:∀i,i<len0->∃ds:List Dd,w.cell? (a.add i)=some (V i)/\IY w (V i) ds/\ds.length<=maxLen:=by
   intro i hi;obtain⟨h1,h2⟩:=hx i (by omega);obtain⟨ds,h3,h4⟩:=So h2;exact⟨ds,h1,h3,h4⟩
  obtain⟨f,hf⟩:=Deep.choose_lt each;refine⟨(List.range len0).map f,⟨some a,cap0,by simp,?_⟩,by simp;omega,fun i hi=>by rw[It f len0 i [] (by simpa using hi)];exact (hf i (by simpa using hi)).2.2⟩;by_cases h0:len0=0
  . left;subst h0;rfl
  ·
   right;obtain⟨b,off,spot⟩:=a;have hc0:=(hf 0 (by omega)).1;have hspot:spot=none:=by simpa [Addr.add] using World.cell?_spot hc0
   subst hspot
   have hbl:b<w.heap.size:=by
    rw[H0] at hc0;exact QP hc0
   refine⟨b,off,rfl,hbl,fun i hi=>?_⟩;have hi':i<len0:=by simpa using hi
   rw[It f len0 i [] hi'];obtain⟨q0,q1,_⟩:=hf i hi';rw[H0] at q0;exact⟨V i,q0,q1⟩
end
end
theorem Tryz.pF:(Tryz.prog.info? 82).map (fun i=>(i.zero,i.size,i.bytes))=some (some (.agg #[.int .i64 0,.int .i64 0,.int .i64 0,.int .i64 0]),4,32):=by kernel_rfl
def Mo (w:World)(g n:Nat):Prop:=∃cur t,w.heap[g]? = some (.cells cur t (0,0))/\n<=cur.size
theorem Mo.free {w:World}{g n:Nat}(h:Mo w g n)(i:Nat):w.frozen? ⟨g,i,none⟩=false:=by
 obtain⟨cur,t,h,_⟩:=h;exact frozen_of_row w g i cur t h
theorem Mo.cell {w:World}{g n:Nat}(h:Mo w g n){i:Nat}(hi:i<n):∃u,w.cell? ⟨g,i,none⟩=some u:=by
 obtain⟨cur,t,h,hn⟩:=h;exact⟨cur[i]'(by omega),by rw[cell_of_row w g i cur t (0,0) h,Array.getElem?_eq_getElem (by omega)]⟩
theorem Mo.lt {w:World}{g n:Nat}(h:Mo w g n):g<w.heap.size:=by
 obtain⟨cur,t,h,_⟩:=h;exact (Array.getElem?_eq_some_iff.1 h).1
theorem Mo.set {w:World}{g n:Nat}(h:Mo w g n)(i:Nat)(x:Value):Mo (w.setCell ⟨g,i,none⟩ x) g n:=by
 obtain⟨cur,t,h,hn⟩:=h;exact⟨cur.setIfInBounds i x,t,heap_setCell_same w g i cur t x h,by simpa using hn⟩
theorem Mo.kept {w w':World}{g n:Nat}{row:Option Nat}(h:Mo w g n)(hg:w.grownBy w' row)(hne:row≠some g):Mo w' g n:=by
 have hl:=h.lt;obtain⟨cur,t,h,hn⟩:=h;exact⟨cur,t,(hg.block g hl (fun e=>hne e.symm)).trans h,hn⟩
def GY (w:World)(base:Nat)(v:Value)(ds:List Dd):Prop:=
 ∃(a:Option Addr) (cap:Nat),v = .slice a ds.length (ds.length+cap)/\(ds=[]\/∃g,a=some ⟨g,0,none⟩/\base<=g/\Mo w g (ds.length*4)/\∀i,i<ds.length->Uc w g (i*4) (ds.getD i zD))
theorem GY.rd {w:World}{base:Nat}{v:Value}{ds:List Dd}(h:GY w base v ds):IY w v ds:=by
 obtain⟨a,cap,hv,h⟩:=h;refine⟨a,cap,hv,?_⟩;rcases h with h|⟨g,ha,_,hb,hc⟩
 . exact .inl h
 . exact .inr ⟨g,0,ha,hb.lt,fun i hi=>by rw[Nat.zero_add];exact hc i hi⟩
theorem vO {w:World}{g o:Nat}{d:Dd}{b' o':Nat}{d':Dd}(h:Uc w b' o' d')(hne:b'≠g\/o'+4<=o\/o+4<=o'):
  Uc ((((w.setCell ⟨g,o,none⟩ (.int .i64 d.1)).setCell ⟨g,o+1,none⟩ (.int .i64 d.2.1)).setCell ⟨g,o+2,none⟩ (.int .i64 d.2.2.1)).setCell ⟨g,o+3,none⟩ (.int .i64 d.2.2.2)) b' o' d':=by
 have key:∀(w:World) (j:Nat) (x:Value) (q:Nat),q<o'+4->o'<=q->o<=j->j<o+4->(w.setCell ⟨g,j,none⟩ x).cell? ⟨b',q,none⟩=w.cell? ⟨b',q,none⟩:=by
  intro w j x q h1 h2 h3 h4;refine World.cell?_setCell_other _ _ _ _ (fun e=>?_);have e1:g=b'/\j=q:=by simpa using e
  omega
 unfold Uc at *;refine⟨?_,?_,?_,?_⟩
 all_goals
  rw[key _ _ _ _ (by omega) (by omega) (by omega) (by omega),key _ _ _ _ (by omega) (by omega) (by omega) (by omega),key _ _ _ _ (by omega) (by omega) (by omega) (by omega),key _ _ _ _ (by omega) (by omega) (by omega) (by omega)]
 . exact h.1
 . exact h.2.1
 . exact h.2.2.1
 . exact h.2.2.2
theorem Vm {w:World}{g o n:Nat}{d:Dd}(hb:Mo w g n)(ho:o+4<=n):
  Uc ((((w.setCell ⟨g,o,none⟩ (.int .i64 d.1)).setCell ⟨g,o+1,none⟩ (.int .i64 d.2.1)).setCell ⟨g,o+2,none⟩ (.int .i64 d.2.2.1)).setCell ⟨g,o+3,none⟩ (.int .i64 d.2.2.2)) g o d:=by
 have WQ:∀(w:World) (j q:Nat) (x:Value),j≠q->(w.setCell ⟨g,j,none⟩ x).cell? ⟨g,q,none⟩=w.cell? ⟨g,q,none⟩:=by
  intro w j q x h;exact World.cell?_setCell_other _ _ _ _ (by intro e;apply h;injection e)
 have h1:=hb.set o (.int .i64 d.1);have h2:=h1.set (o+1) (.int .i64 d.2.1);have h3:=h2.set (o+2) (.int .i64 d.2.2.1);obtain⟨u0,e0⟩:=hb.cell (show o<n by omega);obtain⟨u1,e1⟩:=h1.cell (show o+1<n by omega);obtain⟨u2,e2⟩:=h2.cell (show o+2<n by omega);obtain⟨u3,e3⟩:=h3.cell (show o+3<n by omega);refine⟨?_,?_,?_,?_⟩
 . rw[WQ _ _ _ _ (by omega),WQ _ _ _ _ (by omega),WQ _ _ _ _ (by omega),World.cell?_setCell_same _ _ _ e0]
 . rw[WQ _ _ _ _ (by omega),WQ _ _ _ _ (by omega),World.cell?_setCell_same _ _ _ e1]
 . rw[WQ _ _ _ _ (by omega),World.cell?_setCell_same _ _ _ e2]
 . rw[World.cell?_setCell_same _ _ _ e3]
theorem Mo.gW {w:World}{base e size g n:Nat}{xs:List Value}(h:w.ownsRow base e size (.slice (some ⟨g,0,none⟩) n n) n xs):Mo w g (n*size):=by
 rcases h.2 with ⟨hv,_⟩|⟨g',cap,cur,hv,_,hg,_,_,hs,_⟩
 . cases hv
 ·
  simp only[Value.slice.injEq,Option.some.injEq,Addr.mk.injEq,and_true,true_and] at hv;obtain⟨rfl,rfl⟩:=hv;exact⟨cur,e,hg,by rw[hs];exact Nat.le_refl _⟩
theorem GY.keep {w w':World}{base:Nat}{v:Value}{ds:List Dd}(h:GY w base v ds)(k:AC w w'):GY w' base v ds:=by
 obtain⟨a,cap,hv,h⟩:=h;refine⟨a,cap,hv,?_⟩;rcases h with h|⟨g,ha,hb,hB,hc⟩
 . exact .inl h
 . exact .inr ⟨g,ha,hb,hB.kept k.grownBy (by simp),fun i hi=>(hc i hi).keep hB.lt k⟩
theorem GY.kept {w w':World}{base:Nat}{v:Value}{ds:List Dd}{row:Option Nat}(h:GY w base v ds)(hg:w.grownBy w' row)(hne:ds=[]\/v.ownBlock≠row):GY w' base v ds:=by
 obtain⟨a,cap,rfl,h⟩:=h;refine⟨a,cap,rfl,?_⟩;rcases h with h|⟨g,rfl,hb,hB,hc⟩
 . exact .inl h
 ·
  rcases hne with hne|hne
  . exact .inl hne
  ·
   have hne':row≠some g:=fun e=>hne (by simp[Value.ownBlock,e])
   have hcell:∀j,w'.cell? ⟨g,j,none⟩=w.cell? ⟨g,j,none⟩:=fun j=>World.cell?_of_block (w:=w) (hg.block g hB.lt (fun e=>hne' e.symm))
   exact .inr ⟨g,rfl,hb,hB.kept hg hne',fun i hi=>⟨(hcell _).trans (hc i hi).1,(hcell _).trans (hc i hi).2.1,(hcell _).trans (hc i hi).2.2.1,(hcell _).trans (hc i hi).2.2.2⟩⟩
theorem GY.mono {w:World}{base base':Nat}{v:Value}{ds:List Dd}(h:GY w base v ds)(hb:base'<=base):GY w base' v ds:=by
 obtain⟨a,cap,hv,h⟩:=h;refine⟨a,cap,hv,?_⟩;rcases h with h|⟨g,ha,hg,rest⟩
 . exact .inl h
 . exact .inr ⟨g,ha,Nat.le_trans hb hg,rest⟩
theorem GY.block {w:World}{base:Nat}{v:Value}{ds:List Dd}(h:GY w base v ds)(hne:ds≠[]):∃g,v.ownBlock=some g/\base<=g/\g<w.heap.size:=by
 obtain⟨a,cap,rfl,h⟩:=h;rcases h with h|⟨g,rfl,hb,hB,_⟩
 . exact absurd h hne
 . exact⟨g,rfl,hb,hB.lt⟩
def fO (g n:Nat)(V:Nat->Value)(D:Nat->List Dd):Prop:=
 (∀i,i<n->D i≠[]->(V i).ownBlock≠some g)/\∀i j,i<j->j<n->D i≠[]->D j≠[]->(V i).ownBlock≠(V j).ownBlock
def iJ (w:World)(base:Nat)(v:Value)(AA:List (List Dd)):Prop:=
 ∃(a:Option Addr) (cap:Nat),v = .slice a AA.length cap/\(AA=[]\/∃(g:Nat) (V:Nat->Value),a=some ⟨g,0,none⟩/\base<=g/\Mo w g AA.length /\
  (∀i,i<AA.length->w.cell? ⟨g,i,none⟩=some (V i)/\GY w base (V i) (AA.getD i []))/\fO g AA.length V (fun i=>AA.getD i []))
theorem iJ.rd {w:World}{base:Nat}{v:Value}{AA:List (List Dd)}(h:iJ w base v AA):Fo w v AA:=by
 obtain⟨a,cap,hv,h⟩:=h;refine⟨a,cap,hv,?_⟩;rcases h with h|⟨g,V,ha,_,hb,hc,_⟩
 . exact .inl h
 . exact .inr ⟨g,0,ha,hb.lt,fun i hi=>⟨V i,by rw[Nat.zero_add];exact (hc i hi).1,(hc i hi).2.rd⟩⟩
theorem Tryz.jO:(Tryz.prog.info? 72).map (fun i=>(i.zero,i.size,i.bytes))=some (some (.slice none 0 0),1,24):=by kernel_rfl
theorem Nj (w:World)(g j:Nat)(v:Value):w.grownBy (w.setCell ⟨g,j,none⟩ v) (some g):=
 ⟨rfl,rfl,rfl,by simp,fun k _ hk=>heap_setCell_other w ⟨g,j,none⟩ k v (fun e=>hk (by simp[e]))⟩
theorem PO (AA:List (List Dd)):∀i,i<=AA.length->Bs (AA.take i)<=Bs AA:=by
 induction AA with
 |nil=>intro i _;simp
 |cons d r ih=>
  intro i hi
  cases i with
  |zero=>simp[Bs]
  |succ i=>simp only[List.take_succ_cons,Bs];have:=ih i (by simpa using hi);omega
theorem Bg (AA:List (List Dd)):(AB AA).length<=9:=by
 unfold AB;split
 ·
  rename_i h;simp only[AL,Bool.and_eq_true,decide_eq_true_eq] at h;obtain⟨⟨⟨⟨_,h2⟩,_⟩,h4⟩,_⟩:=h;have:=Gr (fun i hi=>Be [] h2 i hi) AA.length (Nat.le_refl _);omega
 . simp
theorem Qd (AA:List (List Dd)):(AB AA).length<=1048576:=by
 have:=Bg AA;omega
def GU (D:Nat):List Nat->Nat
 | []=>0
 |x::l=>x+D*GU D l
theorem EP {D:Nat}:∀l:List Nat,(∀x∈l,x<D)->GU D l<D ^ l.length
 | [],_=>by simp[GU]
 |x::l,h=>by
  have h1:=EP l (fun y hy=>h y (List.mem_cons_of_mem _ hy));have h2:=h x (by simp);rw[GU,List.length_cons,Nat.pow_succ];have h3:D*(GU D l+1)<=D*D ^ l.length:=Nat.mul_le_mul_left D h1;rw[Nat.mul_add,Nat.mul_comm D (D ^ l.length)] at h3;omega
theorem Fg {D:Nat}:∀l l':List Nat,l.length=l'.length->(∀x∈l,x<D)->(∀x∈l',x<D)->GU D l=GU D l'->l=l'
 | [],[],_,_,_,_=>rfl
 | [],_::_,h,_,_,_=>by simp at h
 |_::_,[],h,_,_,_=>by simp at h
 |x::l,x'::l',h,h1,h2,e=>by
  rw[GU,GU] at e;have a1:=h1 x (by simp);have a2:=h2 x' (by simp)
  have e1:x=x':=by
   have:=congrArg (. % D) e;simp only[Nat.add_mul_mod_self_left] at this
   rwa [Nat.mod_eq_of_lt a1,Nat.mod_eq_of_lt a2] at this
  subst e1;have e2:GU D l=GU D l':=Nat.eq_of_mul_eq_mul_left (by omega:0<D) (by omega);rw[Fg l l' (by simpa using h) (fun y hy=>h1 y (List.mem_cons_of_mem _ hy)) (fun y hy=>h2 y (List.mem_cons_of_mem _ hy)) e2]
theorem PU {α:Type}(M:Nat)(P:α->Nat->Prop)(l:List α)(hn:l.Nodup)(h:∀k∈l,∃c,c<M/\P k c)(hi:∀k k' c,P k c->P k' c->k=k'):l.length<=M:=by
 have hf:∃f:α->Nat,∀k∈l,f k<M/\P k (f k):=by
  classical
  refine⟨fun k=>if hk:k∈l then (h k hk).choose else 0,fun k hk=>?_⟩;simp only[dif_pos hk];exact (h k hk).choose_spec
 obtain⟨f,hf⟩:=hf
 have h1:(l.map (fun k=>(f k:Int))).Nodup:=by
  unfold List.Nodup;rw[List.pairwise_map];refine hn.imp_of_mem ?_;intro a b ha hb hab e;have e':f a=f b:=by omega
  exact hab (hi a b (f a) (hf a ha).2 (by rw[e'];exact (hf b hb).2))
 have h2:=M6 (b:=(List.range M).map (fun (c:Nat)=>(c:Int))) h1 (by
  intro x hx;obtain⟨k,hk,rfl⟩:=List.mem_map.1 hx
  exact List.mem_map.2 ⟨f k,List.mem_range.2 (hf k hk).1,rfl⟩)
 simpa using h2
theorem jT {a b:List Nat}(ha:a.Pairwise (·<·))(hb:b.Pairwise (·<·))(h:∀x,x∈a↔x∈b):a=b:=by
 refine List.Perm.eq_of_pairwise (le:=fun a b=>a<b) (fun x y _ _ h1 h2=>by omega) ha hb ?_;exact (List.perm_ext_iff_of_nodup (ha.imp (fun {a b} hab=>by omega)) (hb.imp (fun {a b} hab=>by omega))).2 h
def Xp (AA:List (List Dd))(a:Ab)(j:Nat):Nat:=
 if Ae ((AB AA).getD j zE)=true then (if D2 AA a j=true then (IQ AA (a.F j)+1).toNat else 0) else (if j∈a.N ((AB AA).getD j zE).1.toNat then 1 else 0)
def JQ (AA:List (List Dd))(a:Ab):Nat:=
 GU 6 ((List.range AA.length).map a.nx)+216*(GU 9 ((List.range 3).map (BM a))+729*GU 11 ((List.range ((AB AA).length-3)).map (fun i=>Xp AA a (i+3))))
def IW:Nat:=216*(729*1771561)
structure CB (AA:List (List Dd))(a:Ab):Prop where
 nx:∀x∈(List.range AA.length).map a.nx,x<6
 AO:∀x∈(List.range 3).map (BM a),x<9
 ev:∀x∈(List.range ((AB AA).length-3)).map (fun i=>Xp AA a (i+3)),x<11
theorem Om {AA:List (List Dd)}(hb:AL AA=true){b:Bd}{a:Ab}{τ:Nat->Nat}{T:Nat}{z:Int}(M:MI AA b a τ T z):CB AA a:=by
 have h9:=Bg AA
 have h3:3<=(AB AA).length:=by
  have:=M.inv.lt 2 (M.inv.ES 2 (by omega)).1;exact this
 refine⟨fun x hx=>?_,fun x hx=>?_,fun x hx=>?_⟩
 ·
  obtain⟨c,hc,rfl⟩:=List.mem_map.1 hx;have hc:=List.mem_range.1 hc;have:=M.UD c hc;have:=DS hb hc;omega
 ·
  obtain⟨p,hp,rfl⟩:=List.mem_map.1 hx;have hp:=List.mem_range.1 hp;unfold BM
  cases e:(a.R p).getLast? with
  |none=>simp;omega
  |some y=>
   have hy:=(M.inv.rows p y).1 (List.mem_of_getLast? e);have:y<(AB AA).length:=M.inv.lt y hy.1.1;simp;omega
 ·
  obtain⟨i,hi,rfl⟩:=List.mem_map.1 hx;have hi:=List.mem_range.1 hi;unfold Xp;split
  ·
   rename_i hr;split
   ·
    rename_i hx;have hs:=M.inv.src (i+3) ⟨by show i+3<(AB AA).length;omega,hx⟩ hr;have hl:a.F (i+3)<(AB AA).length:=M.inv.lt _ hs.1;have:=(JT hb hl).1;omega
   . omega
  . split<;>omega
theorem Tf {AA:List (List Dd)}(hb:AL AA=true){a:Ab}(h:CB AA a):JQ AA a<IW:=by
 have h9:=Bg AA;have hl3:=C6 hb;have h1:=EP _ h.nx;have h2:=EP _ h.AO;have h3:=EP _ h.ev;rw[List.length_map,List.length_range] at h1 h2 h3;have p1:6 ^ AA.length<=6 ^ 3:=Nat.pow_le_pow_right (by omega) hl3;have p3:11 ^ ((AB AA).length-3)<=11 ^ 6:=Nat.pow_le_pow_right (by omega) (by omega);have q1:6 ^ 3=216:=rfl;have q2:9 ^ 3=729:=rfl;have q3:11 ^ 6=1771561:=rfl;rw[q1] at p1;rw[q2] at h2;rw[q3] at p3;unfold JQ IW;generalize GU 6 ((List.range AA.length).map a.nx)=A at *;generalize GU 9 ((List.range 3).map (BM a))=B at *;generalize GU 11 ((List.range ((AB AA).length-3)).map (fun i=>Xp AA a (i+3)))=C at *;omega
theorem nU {AA:List (List Dd)}(hb:AL AA=true){a a':Ab}(h:CB AA a)(h':CB AA a')(e:JQ AA a=JQ AA a'):
  (∀c,c<AA.length->a.nx c=a'.nx c)/\(∀p,p<3->BM a p=BM a' p)/\∀j,3<=j->j<(AB AA).length->Xp AA a j=Xp AA a' j:=by
 have hl3:=C6 hb;have h1:=EP _ h.nx;have h1':=EP _ h'.nx;have h2:=EP _ h.AO;have h2':=EP _ h'.AO;rw[List.length_map,List.length_range] at h1 h2 h1' h2';have p1:6 ^ AA.length<=6 ^ 3:=Nat.pow_le_pow_right (by omega) hl3;have q1:6 ^ 3=216:=rfl;have q2:9 ^ 3=729:=rfl;rw[q1] at p1;rw[q2] at h2 h2';have e0:=e;unfold JQ at e0;have m1:∀A X B Y:Nat,A<216->B<216->A+216*X=B+216*Y->A=B/\X=Y:=fun A X B Y _ _ _=>by omega
 have m2:∀A X B Y:Nat,A<729->B<729->A+729*X=B+729*Y->A=B/\X=Y:=fun A X B Y _ _ _=>by omega
 obtain⟨e1,e2⟩:=m1 _ _ _ _ (by omega) (by omega) e0;obtain⟨e2,e3⟩:=m2 _ _ _ _ h2 h2' e2;have f1:=Fg _ _ (by simp) h.nx h'.nx e1;have f2:=Fg _ _ (by simp) h.AO h'.AO e2;have f3:=Fg _ _ (by simp) h.ev h'.ev e3;refine⟨fun c hc=>?_,fun p hp=>?_,fun j hj hl=>?_⟩
 ·
  have:=congrArg (fun l=>l.getD c 0) f1
  rwa [Cw _ _ hc,Cw _ _ hc] at this
 ·
  have:=congrArg (fun l=>l.getD p 0) f2
  rwa [Cw _ _ hp,Cw _ _ hp] at this
 ·
  have:=congrArg (fun l=>l.getD (j-3) 0) f3;rw[Cw _ _ (by omega),Cw _ _ (by omega)] at this
  rwa [show j-3+3=j by omega] at this
theorem Q4 {AA:List (List Dd)}{b:Bd}{a:Ab}{τ:Nat->Nat}{T:Nat}{z:Int}(M:MI AA b a τ T z){c:Nat}(x:Nat):x∈a.N c↔3<=x/\x<(AB AA).length/\(BT AA).rd x=false/\(BT AA).ck x=(c:Int)/\Xp AA a x=1:=by
 have hN:=IP AA a τ c;constructor
 ·
  intro h;rw[<-hN] at h;obtain⟨h1,h2,h3,h4⟩:=M.inv.note _ _ h;have h1:x<(AB AA).length:=M.inv.lt _ h1;rw[hN] at h;refine⟨h2,h1,h4,h3,?_⟩;have h4':Ae ((AB AA).getD x zE)=false:=h4;have h3':((AB AA).getD x zE).1=(c:Int):=h3;unfold Xp;rw[h4',if_neg (by simp),h3',Int.toNat_natCast,if_pos h]
 ·
  rintro⟨h1,h2,h3,h4,h5⟩;have h4':Ae ((AB AA).getD x zE)=false:=h3;have h3':((AB AA).getD x zE).1=(c:Int):=h4;unfold Xp at h5;rw[h4',if_neg (by simp),h3',Int.toNat_natCast] at h5;split at h5
  . assumption
  . cases h5
theorem Ow (f:Ev->Bool)(l:List Ev):∀(k:Nat) (r:Int),r∈BR f l k->∃j:Nat,r=(j:Int)/\j<k/\f (l.getD j zE)=true
 | 0,r,h=>by simp[BR] at h
 |k+1,r,h=>by
  rw[BR] at h;split at h
  ·
   rename_i hf;rcases List.mem_append.1 h with h|h
   ·
    obtain⟨j,e,hj,hr⟩:=Ow f l k r h;exact⟨j,e,by omega,hr⟩
   . exact⟨k,List.mem_singleton.1 h,by omega,hf⟩
  ·
   obtain⟨j,e,hj,hr⟩:=Ow f l k r h;exact⟨j,e,by omega,hr⟩
theorem Ts {es:List Ev}{r:Int}(h:r∈AX Ae es):∃j:Nat,r=(j:Int)/\j<es.length/\Ae (es.getD j zE)=true:=by
 unfold AX at h;split at h
 . exact Ow Ae es _ r h
 . cases h
theorem QW {AA:List (List Dd)}(hb:AL AA=true){b b':Bd}{a a':Ab}{τ τ':Nat->Nat}{T T':Nat}{z z':Int}(M:MI AA b a τ T z)(M':MI AA b' a' τ' T' z')(e:JQ AA a=JQ AA a'):CZ b=CZ b':=by
 obtain⟨e1,e2,e3⟩:=nU hb (Om hb M) (Om hb M') e;have R:=M.Bo;have R':=M'.Bo
 have hN:∀c,c<AA.length->a.N c=a'.N c:=by
  intro c hc;refine jT (by have:=M.inv.Kz (c:Int);rwa [IP] at this) (by have:=M'.inv.Kz (c:Int);rwa [IP] at this) (fun x=>?_);rw[Q4 M,Q4 M'];constructor
  ·
   rintro⟨h1,h2,h3,h4,h5⟩;exact⟨h1,h2,h3,h4,by rw[<-e3 x h1 h2];exact h5⟩
  ·
   rintro⟨h1,h2,h3,h4,h5⟩;exact⟨h1,h2,h3,h4,by rw[e3 x h1 h2];exact h5⟩
 have k1:b.AK=b'.AK:=by
  rw[R.AK,R'.AK];exact List.map_congr_left (fun c hc=>by rw[e1 c (List.mem_range.1 hc)])
 have k2:b.AO=b'.AO:=by
  rw[R.AO,R'.AO];exact List.map_congr_left (fun p hp=>by rw[e2 p (List.mem_range.1 hp)])
 have k4:b.AJ=b'.AJ:=by
  rw[R.AJ,R'.AJ];exact List.map_congr_left (fun c hc=>by rw[hN c (List.mem_range.1 hc)])
 have val:∀ {b:Bd} {a:Ab} {τ:Nat->Nat} {T:Nat} {z:Int},MI AA b a τ T z->∀j,j<(AB AA).length->Ae ((AB AA).getD j zE)=true->(if D2 AA a j=true then IQ AA (a.F j) else -1)=(Xp AA a j:Int)-1:=by
  intro b a τ T z M j hj hr;unfold Xp;rw[if_pos hr];split
  ·
   rename_i hx;have hs:=M.inv.src j ⟨hj,hx⟩ hr;have hl:a.F j<(AB AA).length:=M.inv.lt _ hs.1;have:=(JT hb hl).1;omega
  . rfl
 have k3:b.sn=b'.sn:=by
  rw[R.sn,R'.sn];refine List.map_congr_left (fun r hr=>?_);obtain⟨j,rfl,hj,hrd⟩:=Ts hr
  have j3:3<=j:=by
   rcases Nat.lt_or_ge j 3 with h|h
   ·
    have:=(M.inv.ES j h).2.1;have h':Ae ((AB AA).getD j zE)=false:=this;rw[hrd] at h';cases h'
   . exact h
  rw[Int.toNat_natCast,val M j hj hrd,val M' j hj hrd,e3 j j3 hj]
 unfold CZ;rw[k1,k2,k3,k4]
theorem Y7 {AA:List (List Dd)}(hb:AL AA=true){quick:Bool}{S:SS}(h:SI AA quick S):S.seen.length<=IW:=by
 refine PU IW (fun k c=>∃b a τ T z,MI AA b a τ T z/\CZ b=k/\JQ AA a=c) _ (Hy h.os) (fun k hk=>?_) ?_
 ·
  obtain⟨b,hr,e,-⟩:=h.seen k hk;obtain⟨a,τ,T,z,M,-⟩:=Ay hb hr;exact⟨_,Tf hb (Om hb M),b,a,τ,T,z,M,e,rfl⟩
 ·
  rintro k k' c ⟨b,a,τ,T,z,M,rfl,ec⟩ ⟨b',a',τ',T',z',M',rfl,ec'⟩;exact QW hb M M' (ec.trans ec'.symm)
theorem UL (l:List (List Int))(x:List Int):(Dv l x).length=if PD l x=true then l.length else l.length+1:=by
 have:=PY l x;unfold Dv;split
 . rfl
 ·
  simp;omega
theorem JS {AA:List (List Dd)}{es:List Ev}{quick:Bool}{S:SS}(h:S.ends.length<=S.seen.length):(Iy AA es quick S).ends.length<=(Iy AA es quick S).seen.length:=by
 unfold Iy
 cases hl:S.opn.getLast? with
 |none=>exact h
 |some b=>
  have h1:=UL S.seen (CZ b);have h2:=UL S.ends (Ak b);by_cases hs:PD S.seen (CZ b)=true
  ·
   simp only[hs,if_true];exact h
  ·
   rw[if_neg hs] at h1;by_cases he:DF AA b=true
   ·
    simp only[hs,he,if_true];show (Dv S.ends (Ak b)).length<=(Dv S.seen (CZ b)).length;rw[h1,h2];split<;>omega
   ·
    simp only[hs,he];show S.ends.length<=(Dv S.seen (CZ b)).length;omega
def ZT (AA:List (List Dd))(l:List Bd):Prop:=∀(i:Nat) (b:Bd),l[i]? = some b->Df AA b+i / 5<=24
theorem fB {AA:List (List Dd)}(hb:AL AA=true):ZT AA [Ci AA]:=by
 intro i b h
 cases i with
 |zero=>
  simp at h;rw[<-h];have:=(Tw hb).1;omega
 |succ i=>simp at h
theorem fA {AA:List (List Dd)}{l:List Bd}(h:ZT AA l):l.length<=125:=by
 rcases Nat.lt_or_ge 125 l.length with hl|hl
 ·
  have:=h 125 l[125] (by rw[List.getElem?_eq_getElem]);omega
 . exact hl
theorem ZD {AA:List (List Dd)}(hb:AL AA=true){quick:Bool}{l:List Bd}{b:Bd}(hr:Bi AA quick b)(h:ZT AA (l++[b])):ZT AA (l++Bh AA (AB AA) quick b):=by
 intro i x hx;have hbm:=h l.length b (by simp);rcases Nat.lt_or_ge i l.length with hi|hi
 ·
  rw[List.getElem?_append_left hi] at hx;exact h i x (by rw[List.getElem?_append_left hi];exact hx)
 ·
  rw[List.getElem?_append_right hi] at hx;have h1:=Hu hb hr (List.mem_of_getElem? hx);have h2:=Ht hb (es:=AB AA) (quick:=quick) (b:=b);have h3:=(List.getElem?_eq_some_iff.1 hx).1;omega
theorem Pr {AA:List (List Dd)}(hb:AL AA=true){quick:Bool}{S:SS}(h:SI AA quick S)(k:ZT AA S.opn):ZT AA (Iy AA (AB AA) quick S).opn:=by
 unfold Iy
 cases hl:S.opn.getLast? with
 |none=>exact k
 |some b=>
  obtain⟨l',e⟩:=List.getLast?_eq_some_iff.1 hl;have hbr:Bi AA quick b:=h.opn b (by rw[e];simp);have e2:S.opn.dropLast=l':=by rw[e,List.dropLast_concat]
  have kd:ZT AA S.opn.dropLast:=by
   intro i x hx;rw[e2] at hx;refine k i x ?_;rw[e,List.getElem?_append_left (List.getElem?_eq_some_iff.1 hx).1];exact hx
  show ZT AA (if PD S.seen (CZ b)=true then _ else _:SS).opn;split
  . exact kd
  ·
   split
   . exact kd
   ·
    show ZT AA (S.opn.dropLast++_);rw[e2];rw[e] at k;exact ZD hb hbr k
def Mn (es:List Ev):Nat->Nat
 | 0=>0
 |k+1=>Mn es k+if Ae (es.getD k zE)=true then 0 else 1
theorem Jp (es:List Ev):∀ {j k:Nat},j<=k->Mn es j<=Mn es k
 |j,0,h=>by
  obtain rfl:j=0:=by omega
  exact Nat.le_refl _
 |j,k+1,h=>by
  rcases Nat.lt_or_ge j (k+1) with h1|h1
  ·
   have:=Jp es (j:=j) (k:=k) (by omega);rw[Mn];omega
  ·
   obtain rfl:j=k+1:=by omega
   exact Nat.le_refl _
theorem Pg (es:List Ev){j k:Nat}(h:j<k)(hj:Ae (es.getD j zE)=false):Mn es j<Mn es k:=by
 have h1:=Jp es (j:=j+1) (k:=k) h;rw[Mn,hj] at h1;simp at h1;omega
theorem LV (es:List Ev){j k:Nat}(hj:Ae (es.getD j zE)=false)(hk:Ae (es.getD k zE)=false)(h:Mn es j=Mn es k):j=k:=by
 rcases Nat.lt_trichotomy j k with h1|h1|h1
 . have:=Pg es h1 hj;omega
 . exact h1
 . have:=Pg es h1 hk;omega
theorem Su (es:List Ev):∀k:Nat,(BR Ae es k).length+Mn es k=k
 | 0=>rfl
 |k+1=>by
  have ih:=Su es k;rw[BR,Mn];by_cases h:Ae (es.getD k zE)=true
  . rw[if_pos h,if_pos h,List.length_append,List.length_singleton];omega
  . rw[if_neg h,if_neg h];omega
def NX (AA:List (List Dd))(a:Ab):Nat:=
 GU (Mn (AB AA) (AB AA).length) ((AX Ae (AB AA)).map (fun r=>Mn (AB AA) (a.F r.toNat))++(List.range 3).map (fun p=>Mn (AB AA) (BM a p)))
theorem dQ {m r:Nat}(h3:3<=m)(h:m+r<=9):m ^ (r+3)<=78125:=by
 have h1:m ^ (r+3)<=m ^ (12-m):=Nat.pow_le_pow_right (by omega) (by omega);refine Nat.le_trans h1 ?_;have:m=3\/m=4\/m=5\/m=6\/m=7\/m=8\/m=9:=by omega
 rcases this with rfl|rfl|rfl|rfl|rfl|rfl|rfl<;>decide
structure EC (AA:List (List Dd))(a:Ab)(b:Bd):Prop where
 f:∀r∈AX Ae (AB AA),a.F r.toNat<(AB AA).length/\Ae ((AB AA).getD (a.F r.toNat) zE)=false
 l:∀p,p<3->BM a p<(AB AA).length/\Ae ((AB AA).getD (BM a p) zE)=false
 sn:b.sn=(AX Ae (AB AA)).map (fun r=>IQ AA (a.F r.toNat))
 AM:b.AM=(List.range 3).map (fun p=>IQ AA (BM a p))
 m:3<=Mn (AB AA) (AB AA).length
theorem gD {AA:List (List Dd)}(hb:AL AA=true){b:Bd}{a:Ab}{τ:Nat->Nat}{T:Nat}{z:Int}(M:MI AA b a τ T z)(he:DF AA b=true):EC AA a b:=by
 have FN:=jC hb M he;have h3:3<=(AB AA).length:=M.inv.lt 2 (M.inv.ES 2 (by omega)).1;refine⟨fun r hr=>?_,fun p hp=>?_,FN.frs.2,M.Bo.AM,Nat.le_trans ?_ (Jp (AB AA) h3)⟩
 ·
  obtain⟨j,rfl,hj,hrd⟩:=Ts hr;rw[Int.toNat_natCast];have hs:=M.inv.src j (FN.all j hj).1 hrd;exact⟨M.inv.lt _ hs.1,hs.2.1⟩
 ·
  unfold BM
  cases e:(a.R p).getLast? with
  |none=>exact⟨by simp;omega,(M.inv.ES p hp).2.1⟩
  |some y=>
   have hy:=(M.inv.rows p y).1 (List.mem_of_getLast? e);exact⟨M.inv.lt y hy.1.1,hy.2.1⟩
 ·
  have r0:Ae ((AB AA).getD 0 zE)=false:=(M.inv.ES 0 (by omega)).2.1;have r1:Ae ((AB AA).getD 1 zE)=false:=(M.inv.ES 1 (by omega)).2.1;have r2:Ae ((AB AA).getD 2 zE)=false:=(M.inv.ES 2 (by omega)).2.1;simp only[Mn,r0,r1,r2];decide
theorem DZ {AA:List (List Dd)}{a:Ab}{b:Bd}(h:EC AA a b):∀x∈(AX Ae (AB AA)).map (fun r=>Mn (AB AA) (a.F r.toNat))++(List.range 3).map (fun p=>Mn (AB AA) (BM a p)),x<Mn (AB AA) (AB AA).length:=by
 intro x hx;rcases List.mem_append.1 hx with hx|hx
 ·
  obtain⟨r,hr,rfl⟩:=List.mem_map.1 hx;have:=h.f r hr;exact Pg _ this.1 this.2
 ·
  obtain⟨p,hp,rfl⟩:=List.mem_map.1 hx;have:=h.l p (List.mem_range.1 hp);exact Pg _ this.1 this.2
theorem QV {AA:List (List Dd)}{a:Ab}{b:Bd}(h:EC AA a b):NX AA a<78125:=by
 have h9:=Bg AA;have h1:=EP _ (DZ h);have h2:=Su (AB AA) (AB AA).length;have e:AX Ae (AB AA)=BR Ae (AB AA) (AB AA).length:=by unfold AX;rw[if_pos (by omega)]
 have h3:=h.m;rw[List.length_append,List.length_map,List.length_map,List.length_range,e] at h1;have h4:=dQ (m:=Mn (AB AA) (AB AA).length) (r:=(BR Ae (AB AA) (AB AA).length).length) h3 (by omega);unfold NX;rw[e];omega
theorem Xl {AA:List (List Dd)}(hb:AL AA=true){quick:Bool}{l:List (List Int)}(h:GX AA quick l):l.length<=78125:=by
 refine PU 78125 (fun x c=>∃a b,EC AA a b/\Ak b=x/\NX AA a=c) _ (Hy h.1) (fun x hx=>?_) ?_
 ·
  obtain⟨b,hr,he,e⟩:=(h.2 x).1 hx;obtain⟨a,τ,T,z,M,-⟩:=Ay hb hr;have C:=gD hb M he;exact⟨_,QV C,a,b,C,e.symm,rfl⟩
 ·
  rintro x x' c ⟨a,b,C,rfl,ec⟩ ⟨a',b',C',rfl,ec'⟩;have e:=ec.trans ec'.symm;unfold NX at e;have e2:=Fg _ _ (by simp) (DZ C) (DZ C') e;obtain⟨e3,e4⟩:=List.append_inj e2 (by simp)
  have f1:b.sn=b'.sn:=by
   rw[C.sn,C'.sn];refine List.map_congr_left (fun r hr=>?_);have:=(List.map_inj_left.1 e3) r hr;rw[LV _ (C.f r hr).2 (C'.f r hr).2 this]
  have f2:b.AM=b'.AM:=by
   rw[C.AM,C'.AM];refine List.map_congr_left (fun p hp=>?_);have:=(List.map_inj_left.1 e4) p hp;rw[LV _ (C.l p (List.mem_range.1 hp)).2 (C'.l p (List.mem_range.1 hp)).2 this]
  unfold Ak;rw[f1,f2]
theorem dh (AA:List (List Dd)):(AX Ae (AB AA)).length<=9:=by
 have h9:=Bg AA;unfold AX;rw[if_pos (by omega)];have:=D4 Ae (AB AA) (AB AA).length;omega
theorem GX.lens {AA:List (List Dd)}(hb:AL AA=true){quick:Bool}{l:List (List Int)}(h:GX AA quick l):∀i,i<l.length->(l.getD i []).length<=15:=fun i hi=>by
 have hm:l.getD i []∈l:=by rw[List.getD_eq_getElem?_getD,List.getElem?_eq_getElem hi];exact List.getElem_mem hi
 obtain⟨b,hr,_,e⟩:=(h.2 _).1 hm;obtain⟨a,_,_,_,M,_⟩:=Ay hb hr;have S:=Dq.of (Gx hb M);have:=dh AA;rw[e];unfold Ak;rw[List.length_append,S.sn,S.AM];omega
structure DL (AA:List (List Dd))(quick:Bool)(l:List (List Int)):Prop where
 is:AL AA=true->GX AA quick l
 no:AL AA=false->l=[]
theorem DL.one {AA:List (List Dd)}{quick:Bool}{l l':List (List Int)}(h:DL AA quick l)(h':DL AA quick l'):l=l':=by
 cases hb:AL AA
 . rw[h.no hb,h'.no hb]
 . exact Xm (h.is hb) (h'.is hb)
theorem DL.lens {AA:List (List Dd)}{quick:Bool}{l:List (List Int)}(h:DL AA quick l):∀i,i<l.length->(l.getD i []).length<=15:=by
 cases hb:AL AA
 . rw[h.no hb];intro i hi;simp at hi
 . exact (h.is hb).lens hb
theorem DL.len {AA:List (List Dd)}{quick:Bool}{l:List (List Int)}(h:DL AA quick l):l.length<=78125:=by
 cases hb:AL AA
 . rw[h.no hb];simp
 . exact Xl hb (h.is hb)
theorem DL.same {AA:List (List Dd)}(hb:AL AA=true){quick:Bool}{l:List (List Int)}(h:DL AA quick l){i:Nat}(hi:i<l.length):((l.getD i []).length:Int)=Nx AA+3:=by
 have hm:l.getD i []∈l:=by rw[List.getD_eq_getElem?_getD,List.getElem?_eq_getElem hi];exact List.getElem_mem hi
 obtain⟨b,hr,_,e⟩:=((h.is hb).2 _).1 hm;obtain⟨a,_,_,_,M,_⟩:=Ay hb hr;have S:=Dq.of (Gx hb M);rw[e];unfold Ak Nx;have he:AB AA=Ax AA AA.length:=by unfold AB;rw[if_pos hb]
 rw[List.length_append,S.sn,S.AM,he];omega
structure NJ (AA:List (List Dd))(rs vs:List Int)(a b:Int):Prop where
 no:ED AA rs vs=false->a=-1/\b=-1
 is:ED AA rs vs=true->∃l,DL AA false l/\a=(Qv rs vs l l.length:Nat)/\b=(l.length:Nat)
theorem NJ.one {AA:List (List Dd)}{rs vs:List Int}{a b a' b':Int}(h:NJ AA rs vs a b)(h':NJ AA rs vs a' b'):a=a'/\b=b':=by
 cases hb:ED AA rs vs
 . rw[(h.no hb).1,(h.no hb).2,(h'.no hb).1,(h'.no hb).2];exact⟨rfl,rfl⟩
 ·
  obtain⟨l,e,rfl,rfl⟩:=h.is hb;obtain⟨l',e',rfl,rfl⟩:=h'.is hb;rw[e.one e'];exact⟨rfl,rfl⟩
structure Sy where
 R:Bd->Prop
 tm:Bd->Int
 nx:Bd->List Bd
 en:Bd->Bool
 b0:Bd
structure Jw (S:Sy):Prop where
 new:S.R S.b0/\S.tm S.b0=0
 step:∀ {b x},S.R b->x∈S.nx b->S.R x/\S.tm x=S.tm b+1
 top:∀ {b},S.R b->0<=S.tm b/\S.tm b<=24
 back:∀ {x},S.R x->x=S.b0\/∃b,S.R b/\x∈S.nx b
 like:∀ {b b'},S.R b->S.R b'->BW b b'->(∀x∈S.nx b,∃x'∈S.nx b',BW x x')/\S.en b=S.en b'/\Ak b=Ak b'/\S.tm b=S.tm b'
 ends:∀ {b b'},S.R b->S.R b'->S.en b=true->S.en b'=true->Ak b=Ak b'->BW b b'
theorem BW.refl (b:Bd):BW b b:=⟨rfl,rfl,rfl,rfl⟩
theorem BW.symm {b b':Bd}(h:BW b b'):BW b' b:=⟨h.1.symm,h.2.1.symm,h.2.2.1.symm,h.2.2.2.symm⟩
theorem BW.trans {a b c:Bd}(h:BW a b)(k:BW b c):BW a c:=⟨h.1.trans k.1,h.2.1.trans k.2.1,h.2.2.1.trans k.2.2.1,h.2.2.2.trans k.2.2.2⟩
structure FT (S:Sy)(n:Int)(l:List Bd):Prop where
 of:∀b∈l,S.R b/\S.tm b=n
 all:∀x,S.R x->S.tm x=n->∃b∈l,BW x b
theorem VG {S:Sy}(h:Jw S):FT S 0 [S.b0]:=by
 refine⟨fun b hb=>?_,fun x hx ht=>?_⟩
 ·
  rw[List.mem_singleton] at hb;subst hb;exact h.new
 ·
  rcases h.back hx with rfl|⟨b,hb,hxb⟩
  . exact⟨_,List.mem_singleton.2 rfl,BW.refl _⟩
  ·
   have:=(h.step hb hxb).2;have:=(h.top hb).1;omega
structure EX (S:Sy)(n:Int)(dn lx:List Bd)(E:List (List Int)):Prop where
 dns:∀b∈dn,S.R b/\S.tm b=n
 of:∀x∈lx,∃b∈dn,x∈S.nx b
 all:∀b∈dn,∀x∈S.nx b,x∈lx
 e1:∀e∈E,∃b,S.R b/\S.en b=true/\e=Ak b/\(S.tm b<n\/b∈dn)
 e2:∀b,S.R b->S.en b=true->(S.tm b<n\/b∈dn)->Ak b∈E
 nd:E.Nodup
theorem U7 {S:Sy}(h:Jw S):EX S 0 [] [] []:=
 ⟨fun b hb=>(by cases hb),fun b hb=>(by cases hb),fun b hb=>(by cases hb),fun b hb=>(by cases hb),fun b hb _ ht=>(by
  rcases ht with ht|ht
  . have:=(h.top hb).1;omega
  . cases ht),List.Pairwise.nil⟩
theorem EX.one {S:Sy}(h:Jw S){n:Int}{dn lx:List Bd}{E:List (List Int)}(D:EX S n dn lx E){b:Bd}(hb:S.R b)(ht:S.tm b=n)(hn:∀b'∈dn,¬BW b' b):
  EX S n (dn++[b]) (lx++S.nx b) (if S.en b=true then E++[Ak b] else E):=by
 have m1:∀b',b'∈dn++[b]↔b'∈dn\/b'=b:=fun b'=>by simp
 refine⟨fun b' h'=>?_,fun x hx=>?_,fun b' h' x hx=>?_,fun e he=>?_,fun b' hr hen ht'=>?_,?_⟩
 ·
  rcases (m1 b').1 h' with q|rfl
  . exact D.dns b' q
  . exact⟨hb,ht⟩
 ·
  rcases List.mem_append.1 hx with q|q
  ·
   obtain⟨b',q1,q2⟩:=D.of x q;exact⟨b',(m1 b').2 (.inl q1),q2⟩
  . exact⟨b,(m1 b).2 (.inr rfl),q⟩
 ·
  rcases (m1 b').1 h' with q|rfl
  . exact List.mem_append_left _ (D.all b' q x hx)
  . exact List.mem_append_right _ hx
 ·
  have old:e∈E->∃b0,S.R b0/\S.en b0=true/\e=Ak b0/\(S.tm b0<n\/b0∈dn++[b]):=fun q=>by
   obtain⟨b0,q1,q2,q3,q4⟩:=D.e1 e q;exact⟨b0,q1,q2,q3,q4.imp id (fun q=>(m1 b0).2 (.inl q))⟩
  by_cases hen:S.en b=true
  ·
   rw[if_pos hen] at he;rcases List.mem_append.1 he with q|q
   . exact old q
   . exact⟨b,hb,hen,List.mem_singleton.1 q,.inr ((m1 b).2 (.inr rfl))⟩
  ·
   rw[if_neg hen] at he;exact old he
 ·
  have h0:(S.tm b'<n\/b'∈dn)\/b'=b:=by
   rcases ht' with q|q
   . exact .inl (.inl q)
   ·
    rcases (m1 b').1 q with q|q
    . exact .inl (.inr q)
    . exact .inr q
  rcases h0 with q|rfl
  ·
   have:=D.e2 b' hr hen q;split
   . exact List.mem_append_left _ this
   . exact this
  . rw[if_pos hen];simp
 ·
  split
  ·
   rename_i hen;rw[List.nodup_append];refine⟨D.nd,by simp,fun x hx y hy e=>?_⟩;rw[List.mem_singleton] at hy;subst hy;subst e;obtain⟨b0,q1,q2,q3,q4⟩:=D.e1 _ hx;have hs:=h.ends hb q1 hen q2 q3;have et:=(h.like hb q1 hs).2.2.2;rcases q4 with q|q
   . omega
   . exact hn b0 q hs.symm
  . exact D.nd
theorem EX.next {S:Sy}(h:Jw S){n:Int}(hn:0<=n){l dn lx:List Bd}{E:List (List Int)}(F:FT S n l)(D:EX S n dn lx E)(hall:∀b∈l,∃b'∈dn,BW b b'):FT S (n+1) lx/\EX S (n+1) [] [] E:=by
 refine⟨⟨fun x hx=>?_,fun x hx ht=>?_⟩,fun b hb=>by (cases hb),fun b hb=>by (cases hb),fun b hb=>by (cases hb),fun e he=>?_,fun b hr hen ht=>?_,D.nd⟩
 ·
  obtain⟨b,hb,hxb⟩:=D.of x hx;obtain⟨q1,q2⟩:=D.dns b hb;have:=h.step q1 hxb;exact⟨this.1,by rw[this.2,q2]⟩
 ·
  rcases h.back hx with rfl|⟨b,hb,hxb⟩
  . have:=h.new.2;omega
  ·
   have e1:=(h.step hb hxb).2;obtain⟨b1,h1,s1⟩:=F.all b hb (by omega);obtain⟨b2,h2,s2⟩:=hall b1 h1;obtain⟨x',hx',sx⟩:=(h.like hb (D.dns b2 h2).1 (s1.trans s2)).1 x hxb;exact⟨x',D.all b2 h2 x' hx',sx⟩
 ·
  obtain⟨b,q1,q2,q3,q4⟩:=D.e1 e he;refine⟨b,q1,q2,q3,.inl ?_⟩;rcases q4 with q|q
  . omega
  . have:=(D.dns b q).2;omega
 ·
  rcases ht with ht|ht
  ·
   by_cases e:S.tm b=n
   ·
    obtain⟨b1,h1,s1⟩:=F.all b hr e;obtain⟨b2,h2,s2⟩:=hall b1 h1;obtain⟨-,e2,e3,-⟩:=h.like hr (D.dns b2 h2).1 (s1.trans s2);rw[e3];exact D.e2 b2 (D.dns b2 h2).1 (by rw[<-e2];exact hen) (.inr h2)
   . exact D.e2 b hr hen (.inl (by omega))
  . cases ht
theorem Qz {S:Sy}(h:Jw S){n:Int}(hn:0<=n)(F:FT S n []):∀x,S.R x->S.tm x<n:=by
 have key:∀(m:Nat) (x:Bd),S.R x->S.tm x=n+(m:Int)->False:=by
  intro m
  induction m with
  |zero=>
   intro x hx ht;obtain⟨b,hb,_⟩:=F.all x hx (by omega);cases hb
  |succ m ih=>
   intro x hx ht;rcases h.back hx with rfl|⟨b,hb,hxb⟩
   . have:=h.new.2;omega
   ·
    have:=(h.step hb hxb).2;exact ih b hb (by omega)
 intro x hx;rcases Int.lt_or_le (S.tm x) n with q|q
 . exact q
 . exact absurd (key (S.tm x-n).toNat x hx (by omega)) id
theorem EX.Wm {S:Sy}(h:Jw S){n:Int}(hn:0<=n){E:List (List Int)}(F:FT S n [])(D:EX S n [] [] E):∀e,e∈E↔∃b,S.R b/\S.en b=true/\e=Ak b:=by
 intro e;constructor
 ·
  intro he;obtain⟨b,q1,q2,q3,_⟩:=D.e1 e he;exact⟨b,q1,q2,q3⟩
 ·
  rintro⟨b,q1,q2,rfl⟩;exact D.e2 b q1 q2 (.inl (Qz h hn F b q1))
theorem FT.top {S:Sy}(h:Jw S){n:Int}{l:List Bd}(F:FT S n l)(hl:l≠[]):n<=24:=by
 cases l with
 |nil=>exact absurd rfl hl
 |cons b l=>
  have:=F.of b (by simp);have:=(h.top this.1).2;omega
def jy (AA:List (List Dd))(quick:Bool):Sy:=⟨Bi AA quick,Zc AA quick,Bh AA (AB AA) quick,DF AA,Ci AA⟩
theorem U8 {AA:List (List Dd)}(hb:AL AA=true){quick:Bool}{b b':Bd}(h:Bi AA quick b)(h':Bi AA quick b')(he:DF AA b=true)(he':DF AA b'=true)(hs:Ak b=Ak b'):BW b b':=by
 obtain⟨a,_,_,_,M,-⟩:=Ay hb h;obtain⟨a',_,_,_,M',-⟩:=Ay hb h'
 have all:∀ {b:Bd} {a:Ab} {τ:Nat->Nat} {T:Nat} {z:Int},MI AA b a τ T z->DF AA b=true->∀c,c<AA.length->a.nx c=(AA.getD c []).length/\a.N c=[]:=by
  intro b a τ T z M he c hc;unfold DF at he;have:=List.all_eq_true.1 he c (List.mem_range.2 hc);rw[Bool.and_eq_true,decide_eq_true_eq] at this;rw[(Dp M.Bo hc).2,Ek M.Bo hc] at this;have h2:=M.UD c hc;refine⟨by omega,?_⟩;have h3:=this.2;rw[List.isEmpty_iff] at h3;exact List.map_eq_nil_iff.1 h3
 have e1:b.AK=b'.AK:=by
  rw[M.Bo.AK,M'.Bo.AK];exact List.map_congr_left (fun c hc=>by rw[(all M he c (List.mem_range.1 hc)).1,(all M' he' c (List.mem_range.1 hc)).1])
 have e2:b.AJ=b'.AJ:=by
  rw[M.Bo.AJ,M'.Bo.AJ];exact List.map_congr_left (fun c hc=>by rw[(all M he c (List.mem_range.1 hc)).2,(all M' he' c (List.mem_range.1 hc)).2])
 unfold Ak at hs;obtain⟨e3,e4⟩:=List.append_inj hs (by rw[M.Bo.sn,M'.Bo.sn];simp);exact⟨e4,e1,by rw[e2],e3⟩
theorem kE {AA:List (List Dd)}(hb:AL AA=true)(quick:Bool):Jw (jy AA quick) where
 new:=by
  refine⟨.new,?_⟩
  have h0:∀c',Aj (Ci AA) c'=0:=fun c'=>by
   have:(Ci AA).AK.getD c' 0=0:=by
    show (List.replicate AA.length (0:Int)).getD c' 0=0;rw[List.getD_eq_getElem?_getD,List.getElem?_replicate];split<;>rfl
   unfold Aj;rw[this];rfl
  have h1:∀c',GS (Ci AA) c'=0:=fun c'=>by
   unfold GS;show ((List.replicate AA.length ([]:List Nt)).getD c' []).length=0;rw[List.getD_eq_getElem?_getD,List.getElem?_replicate];split<;>rfl
  have:∀m,Js (ZH AA quick (Ci AA)) m=0:=by
   intro m
   induction m with
   |zero=>rfl
   |succ m ih=>
    rw[Js,ih];unfold ZH;rw[h0,h1,QO,fK];simp
  exact this _
 step h hx:=⟨.step h hx,(UA hb h (RK hb h).1 hx).1⟩
 top h:=by
  obtain⟨-,n,e,hn⟩:=RK hb h;show 0<=Zc AA quick _/\Zc AA quick _<=24;rw[e];omega
 back h:=by
  cases h with
  |new=>exact .inl rfl
  |step h hx=>exact .inr ⟨_,h,hx⟩
 like {b b'} h h' hs:=by
  have ha:=RU hb h h' hs;refine⟨fun x hx=>?_,(Gd (AA:=AA) ha).2.2.1,(Gd (AA:=AA) ha).2.2.2,ZB ha⟩;have hx:x∈Bh AA (AB AA) quick b:=hx;unfold Bh at hx;rw[List.mem_map] at hx;obtain⟨s,hs,e⟩:=hx;rw[(Gd (AA:=AA) ha).1] at hs;refine⟨_,List.mem_map.2 ⟨s,hs,rfl⟩,B6.stand ?_⟩;rw[<-e];split
  . exact Og ha _
  . exact Gf ha _
 ends h h' he he' hs:=U8 hb h h' he he' hs
def jq:Sy:=⟨fun b=>b=⟨[],[],[],[],[],[],[]⟩,fun _=>0,fun _=>[],fun _=>false,⟨[],[],[],[],[],[],[]⟩⟩
theorem jr:Jw jq where
 new:=⟨rfl,rfl⟩
 step _ hx:=by cases hx
 top _:=⟨Int.le_refl _,show (0:Int)<=24 by decide⟩
 back h:= .inl h
 like {b b'} h h' _:=by
  have e:b=b':=Eq.trans h (Eq.symm h');exact⟨fun x hx=>(by cases hx),rfl,by rw[e],rfl⟩
 ends _ _ he:=by cases he
def Eo (n:Nat)(l:List Int):List Int:=l++List.replicate (n-l.length) 0
theorem BO {n:Nat}{l:List Int}(h:l.length<=n):(Eo n l).length=n:=by unfold Eo;simp;omega
theorem Jn {n:Nat}{l l':List Int}(hl:l.length=l'.length)(h:Eo n l=Eo n l'):l=l':=(List.append_inj h hl).1
def DG (b:Bd):List Int:=b.AJ.map (fun x=>(x.length:Int))
def LC (b:Bd):List Int:=Eo 3 b.AM++Eo 3 b.AK
def LD (b:Bd):List Int:=LC b++Eo 3 (DG b)++Eo 6 b.sn
structure Od (b:Bd):Prop where
 p:b.AM.length<=3
 x:b.AK.length<=3
 n:b.AJ.length<=3
 s:b.sn.length<=6
theorem Pj {b:Bd}(h:Od b):(LD b).length=15:=by
 unfold LD LC DG;rw[List.length_append,List.length_append,List.length_append,BO h.p,BO h.x,BO h.s,BO (by rw[List.length_map];exact h.n)]
theorem Vu {b b':Bd}(h:Od b)(h':Od b')(hp:b.AM.length=b'.AM.length)(hx:b.AK.length=b'.AK.length)(hn:b.AJ.length=b'.AJ.length)(hs:b.sn.length=b'.sn.length)(e:LD b=LD b'):BW b b':=by
 unfold LD LC at e;have ln:(DG b).length=(DG b').length:=by unfold DG;rw[List.length_map,List.length_map,hn]
 have ln3:(DG b).length<=3:=by unfold DG;rw[List.length_map];exact h.n
 have ln3':(DG b').length<=3:=by rw[<-ln];exact ln3
 obtain⟨e1,e4⟩:=List.append_inj e (by rw[List.length_append,List.length_append,List.length_append,List.length_append,BO h.p,BO h.x,BO h'.p,BO h'.x,BO ln3,BO ln3']);obtain⟨e1,e3⟩:=List.append_inj e1 (by rw[List.length_append,List.length_append,BO h.p,BO h.x,BO h'.p,BO h'.x]);obtain⟨e1,e2⟩:=List.append_inj e1 (by rw[BO h.p,BO h'.p]);refine⟨Jn hp e1,Jn hx e2,?_,Jn hs e4⟩;have e5:=Jn ln e3;unfold DG at e5;have:b.AJ.map List.length=(b.AJ.map (fun x=>(x.length:Int))).map Int.toNat:=by rw[List.map_map];exact List.map_congr_left (fun x _=>(Int.toNat_natCast x.length).symm)
 rw[this,e5,List.map_map];exact List.map_congr_left (fun x _=>Int.toNat_natCast x.length)
theorem Y5 {b b':Bd}(h:BW b b'):LD b=LD b':=by
 obtain⟨h1,h2,h3,h4⟩:=h
 have:DG b=DG b':=by
  unfold DG;have q:∀b:Bd,b.AJ.map (fun x=>(x.length:Int))=(b.AJ.map List.length).map Int.ofNat:=fun b=>by rw[List.map_map];rfl
  rw[q,q,h3]
 unfold LD LC;rw[h1,h2,h4,this]
structure kg (ds:List (List Dd))(b:Bd):Prop where
 st:Od b
 wf:∀x∈LD b,-1000<=x/\x<=1000
structure QD (ds:List (List Dd))(S:Sy):Prop where
 one:∀ {b},S.R b->kg ds b
 two:∀ {b b'},S.R b->S.R b'->b.AM.length=b'.AM.length/\b.AK.length=b'.AK.length/\b.AJ.length=b'.AJ.length/\b.sn.length=b'.sn.length
 few:∀L:List (List Int),L.Nodup->(∀z∈L,∃b,S.R b/\z=LD b)->L.length<=IW
theorem QD.stand {ds:List (List Dd)}{S:Sy}(h:QD ds S){b b':Bd}(hb:S.R b)(hb':S.R b')(e:LD b=LD b'):BW b b':=by
 obtain⟨q1,q2,q3,q4⟩:=h.two hb hb';exact Vu (h.one hb).st (h.one hb').st q1 q2 q3 q4 e
theorem dZ {AA:List (List Dd)}{b:Bd}{a:Ab}{τ:Nat->Nat}{T:Nat}{z:Int}(M:MI AA b a τ T z):(AX Ae (AB AA)).length<=6:=by
 have h9:=Bg AA;have h2:=Su (AB AA) (AB AA).length;have e:AX Ae (AB AA)=BR Ae (AB AA) (AB AA).length:=by unfold AX;rw[if_pos (by omega)]
 have h3:3<=(AB AA).length:=M.inv.lt 2 (M.inv.ES 2 (by omega)).1;have r0:Ae ((AB AA).getD 0 zE)=false:=(M.inv.ES 0 (by omega)).2.1;have r1:Ae ((AB AA).getD 1 zE)=false:=(M.inv.ES 1 (by omega)).2.1;have r2:Ae ((AB AA).getD 2 zE)=false:=(M.inv.ES 2 (by omega)).2.1;have h4:3<=Mn (AB AA) 3:=by simp only[Mn,r0,r1,r2];decide
 have h5:=Jp (AB AA) h3;rw[e];omega
theorem jv:QD [] jq where
 one h:=by
  rw[show _=_ from h];refine⟨⟨by simp,by simp,by simp,by simp⟩,fun x hx=>?_⟩;have e:LD ⟨[],[],[],[],[],[],[]⟩=List.replicate 15 0:=rfl;rw[e] at hx;have:=List.eq_of_mem_replicate hx;omega
 two h h':=by rw[show _=_ from h,show _=_ from h'];exact⟨rfl,rfl,rfl,rfl⟩
 few L hn h:=by
  match L,hn,h with
  | [],_,_=>exact Nat.zero_le _
  | [_],_,_=>exact (by decide:1<=IW)
  |x::y::l,hn,h=>
   obtain⟨b,hb,e⟩:=h x (by simp);obtain⟨b',hb',e'⟩:=h y (by simp);have:x=y:=by rw[e,e',show b=_ from hb,show b'=_ from hb']
   rw[List.nodup_cons] at hn;exact absurd (by rw[this];simp) hn.1
theorem Qt:∀(AA:List (List Dd)) (i:Nat),(AA.getD i []).length<=Bs AA
 | [],i=>by simp
 |d::AA,0=>by rw[Bs];show d.length<=_;omega
 |d::AA,i+1=>by
  have:=Qt AA i;rw[Bs];show (AA.getD i []).length<=_;omega
theorem TA {AA:List (List Dd)}(hb:AL AA=true){quick:Bool}(L:List (List Int))(hn:L.Nodup)(h:∀z∈L,∃b,Bi AA quick b/\z=LD b):L.length<=IW:=by
 refine PU IW (fun k c=>∃b a τ T z,MI AA b a τ T z/\LD b=k/\JQ AA a=c) _ hn (fun k hk=>?_) ?_
 ·
  obtain⟨b,hr,e⟩:=h k hk;obtain⟨a,τ,T,z,M,-⟩:=Ay hb hr;exact⟨_,Tf hb (Om hb M),b,a,τ,T,z,M,e.symm,rfl⟩
 ·
  rintro k k' c ⟨b,a,τ,T,z,M,rfl,ec⟩ ⟨b',a',τ',T',z',M',rfl,ec'⟩;have ha:=KC M.Bo M'.Bo (QW hb M M' (ec.trans ec'.symm));obtain⟨h1,h2,h3,h4,_⟩:=FU ha;exact Y5 ⟨h4,h1,by rw[h2],h3⟩
theorem LU {n:Nat}{l:List Int}{x:Int}(h:x∈Eo n l):x∈l\/x=0:=by
 unfold Eo at h;rcases List.mem_append.1 h with h|h
 . exact .inl h
 . exact .inr (List.eq_of_mem_replicate h)
theorem kF {AA:List (List Dd)}(hb:AL AA=true)(quick:Bool):QD AA (jy AA quick) where
 one {b} h:=by
  obtain⟨a,τ,T,z,M,-⟩:=Ay hb h;have hB:=Gx hb M;have h3:=C6 hb;have hs:b.sn.length<=6:=by rw[M.Bo.sn,List.length_map];exact dZ M
  have h12:Bs AA<=12:=by
   have:=hb;simp only[AL,Bool.and_eq_true,decide_eq_true_eq] at this;exact this.1.1.2
  unfold Am He Lu at hB;simp only[Bool.and_eq_true,decide_eq_true_eq] at hB;obtain⟨⟨_,h1,_,_,h5,h6⟩,⟨_,_,b1,_,b2,_⟩,_,h10⟩:=hB;unfold II at b1 b2;simp only[Bool.and_eq_true,decide_eq_true_eq] at b1 b2;have ck:=fun i (hi:i<AA.length)=>List.all_eq_true.1 h10 i (List.mem_range.2 hi)
  unfold Td at ck;simp only[Bool.and_eq_true,decide_eq_true_eq] at ck;have hlen:∀i,(AA.getD i []).length<=12:=fun i=>Nat.le_trans (Qt AA i) h12
  refine⟨⟨by omega,by omega,by omega,hs⟩,fun x hx=>?_⟩;unfold LD LC at hx;simp only[List.mem_append] at hx
  have Yj:∀ {l:List Int} {lo hi:Int},l.all (fun x=>decide (lo<=x)&&decide (x<=hi))=true->x∈l->lo<=x/\x<=hi:=fun hl hx=>by
   have:=List.all_eq_true.1 hl x hx
   simpa using this
  rcases hx with ((hx|hx)|hx)|hx
  ·
   rcases LU hx with hx|rfl
   . have:=Yj b1.1 hx;omega
   . omega
  ·
   rcases LU hx with hx|rfl
   ·
    obtain⟨i,hi,e⟩:=List.getElem_of_mem hx;have q:=(ck i (by omega)).1;rw[List.getD_eq_getElem?_getD,List.getElem?_eq_getElem hi] at q;simp only[Option.getD_some] at q;rw[e] at q;have:=hlen i;omega
   . omega
  ·
   rcases LU hx with hx|rfl
   ·
    unfold DG at hx;obtain⟨n,hn,rfl⟩:=List.mem_map.1 hx;obtain⟨i,hi,e⟩:=List.getElem_of_mem hn;have q:=(ck i (by omega)).2.1;rw[List.getD_eq_getElem?_getD,List.getElem?_eq_getElem hi] at q;simp only[Option.getD_some] at q;rw[e] at q;omega
   . omega
  ·
   rcases LU hx with hx|rfl
   . have:=Yj b2.1 hx;omega
   . omega
 two {b b'} h h':=by
  obtain⟨a,τ,T,z,M,-⟩:=Ay hb h;obtain⟨a',τ',T',z',M',-⟩:=Ay hb h';exact⟨by rw[M.Bo.AM,M'.Bo.AM];simp,by rw[M.Bo.AK,M'.Bo.AK];simp,by rw[M.Bo.AJ,M'.Bo.AJ];simp,by rw[M.Bo.sn,M'.Bo.sn];simp⟩
 few L hn h:=TA hb L hn h
def fM:List Value:=List.replicate 15 (.int .i64 0)
def Sw (b:Bd):Array Value:=((LD b).map (Value.int .i64)).toArray
def GV (b:Bd):Value:= .agg (Sw b)
theorem Sq {w:World}{a:Option Addr}{n c:Nat}{zs:List Int}(h:Rd w (.slice a n c) zs):0<(zs.map (Value.int .i64)).length->∃ad,a=some ad/\∀j u,(zs.map (Value.int .i64))[j]? = some u->w.cell? (ad.add j)=some u:=by
 obtain⟨a',c',e,h⟩:=h;simp only[Value.slice.injEq] at e;obtain⟨rfl,-,-⟩:=e;intro hpos;rcases h with h|⟨b,o,rfl,hb,hc⟩
 . rw[h] at hpos;simp at hpos
 ·
  refine⟨_,rfl,fun j u hj=>?_⟩;rw[List.getElem?_map] at hj
  have hjl:j<zs.length:=by
   apply Classical.byContradiction;intro hno;rw[List.getElem?_eq_none (by omega)] at hj;cases hj
  have e1:(⟨b,o,none⟩:Addr).add j=⟨b,o+j,none⟩:=by unfold Addr.add;split<;>simp_all
  rw[e1,hc j hjl,List.getD_eq_getElem?_getD];rw[List.getElem?_eq_getElem hjl] at hj ⊢;exact hj
theorem Jl (zs:List Int):∀u∈zs.map (Value.int .i64),u.oneCell'=true:=by
 intro u hu;obtain⟨x,_,rfl⟩:=List.mem_map.1 hu;rfl
theorem dm (b:Bd):(Sw b).all (·.oneCell')=true:=by
 unfold Sw;rw[Array.all_eq_true_iff_forall_mem];intro x hx;rw[List.mem_toArray] at hx;exact Jl _ x hx
theorem S9:(Tryz.prog.info? 127).map (·.size)=some 15:=by kernel_rfl
theorem Hg (L:List Int)(off:Nat)(cs:List Int):splice (L.map (Value.int .i64)) off (cs.map (Value.int .i64))=(splice L off cs).map (Value.int .i64):=by
 unfold splice;rw[List.map_append,List.map_append,List.map_take,List.map_drop,List.length_map]
theorem Pn (A C:List Int)(n:Nat)(cs:List Int)(h:cs.length<=n):splice (A++(List.replicate n 0++C)) A.length cs=A++(Eo n cs++C):=by
 unfold splice Eo;rw[List.take_left,<-List.drop_drop,List.drop_left,List.drop_append_of_le_length (by rw[List.length_replicate];exact h),List.drop_replicate,List.append_assoc]
theorem eY (A C:List Int)(n:Nat)(l:List Int){k:Nat}(hk:k<l.length)(hl:l.length<=n):(A++(Eo n (l.take k)++C)).set (A.length+k) (l.getD k 0)=A++(Eo n (l.take (k+1))++C):=by
 have e1:(l.take k).length=k:=by rw[List.length_take];omega
 have e2:(l.take (k+1)).length=k+1:=by rw[List.length_take];omega
 unfold Eo;rw[e1,e2,List.set_append_right _ _ (by omega),show A.length+k-A.length=k by omega,List.append_assoc,List.set_append_right _ _ (by omega),e1,show k-k=0 by omega,show n-k=(n-(k+1))+1 by omega,List.replicate_succ,List.cons_append,List.set_cons_zero,List.take_succ_eq_append_getElem hk,List.getD_eq_getElem?_getD,List.getElem?_eq_getElem hk];simp only[Option.getD_some,List.append_assoc,List.cons_append,List.nil_append]
def Y6 (b:Bd)(k:Nat):List Int:=LC b++(Eo 3 ((DG b).take k)++Eo 6 b.sn)
theorem dz (b:Bd):Y6 b b.AJ.length=LD b:=by
 unfold Y6 LD;rw[List.take_of_length_le (by unfold DG;rw[List.length_map];exact Nat.le_refl _),List.append_assoc]
theorem MX {b:Bd}(h:Od b):(LC b).length=6:=by unfold LC;rw[List.length_append,BO h.p,BO h.x]
theorem eH {b:Bd}(h:Od b)(k:Nat):(Y6 b k).length=15:=by
 unfold Y6;rw[List.length_append,List.length_append,MX h,BO h.s,BO (by rw[List.length_take];unfold DG;rw[List.length_map];have:=h.n;omega)]
theorem eT {b:Bd}(h:Od b){k:Nat}(hk:k<b.AJ.length):(Y6 b k).set (6+k) ((b.AJ.getD k []).length:Int)=Y6 b (k+1):=by
 have hl:(DG b).length=b.AJ.length:=by unfold DG;rw[List.length_map]
 have q:=eY (LC b) (Eo 6 b.sn) 3 (DG b) (k:=k) (by omega) (by rw[hl];exact h.n);rw[MX h] at q
 have e:(DG b).getD k 0=((b.AJ.getD k []).length:Int):=by
  unfold DG;rw[List.getD_eq_getElem?_getD,List.getElem?_map,List.getD_eq_getElem?_getD,List.getElem?_eq_getElem hk];rfl
 rw[e] at q;exact q
theorem Vv {b:Bd}(h:Od b):splice (splice (splice fM 0 (b.AM.map (Value.int .i64))) 3 (b.AK.map (Value.int .i64))) 9 (b.sn.map (Value.int .i64))=(Y6 b 0).map (Value.int .i64):=by
 have e0:fM=(([]:List Int)++(List.replicate 3 0++List.replicate 12 0)).map (Value.int .i64):=rfl;have s1:=Pn [] (List.replicate 12 0) 3 b.AM h.p;have s2:=Pn (Eo 3 b.AM) (List.replicate 9 0) 3 b.AK h.x;have s3:=Pn (LC b++List.replicate 3 0) [] 6 b.sn h.s;rw[BO h.p] at s2;rw[List.length_append,MX h,List.length_replicate] at s3;rw[e0,Hg];rw[show splice (([]:List Int)++(List.replicate 3 0++List.replicate 12 0)) 0 b.AM=Eo 3 b.AM++(List.replicate 3 0++List.replicate 9 0) from s1,Hg,s2,Hg]
 congr 1
 rw[show Eo 3 b.AM++(Eo 3 b.AK++List.replicate 9 0)=LC b++List.replicate 3 0++(List.replicate 6 0++[]) by unfold LC;simp only[List.append_assoc,List.append_nil];rfl];rw[s3];unfold Y6;simp[Eo]
abbrev zN:Nt:=(0,0,0)
def cN (x:Nt):List Value:=[.int .i64 x.1,.int .i64 x.2.1,.int .i64 x.2.2]
theorem Ds (x:Nt):(cN x).length=3:=rfl
abbrev fZ (w:World)(v:Value)(ns:List Nt):Prop:=kR cN 3 w v ns
theorem qm {w:World}{b o:Nat}{x:Nt}(h:ZP cN w b o x):w.cell? ⟨b,o,none⟩=some (.int .i64 x.1)/\w.cell? ⟨b,o+1,none⟩=some (.int .i64 x.2.1)/\w.cell? ⟨b,o+2,none⟩=some (.int .i64 x.2.2):=
 ⟨h 0 _ rfl,h 1 _ rfl,h 2 _ rfl⟩
theorem Jj {ns:List Nt}{i:Nat}(h:i<ns.length):ns[i]? = some (ns.getD i zN):=by
 rw[List.getD_eq_getElem?_getD,List.getElem?_eq_getElem h];rfl
def Wg (w:World)(v:Value)(jY:List (List Nt)):Prop:=
 ∃(a:Option Addr) (cap:Nat),v = .slice a jY.length cap /\
  (jY=[]\/∃b off,a=some ⟨b,off,none⟩/\b<w.heap.size/\∀i,i<jY.length->∃vi,w.cell? ⟨b,off+i,none⟩=some vi/\fZ w vi (jY.getD i []))
theorem Wg.keep {w w':World}{v:Value}{jY:List (List Nt)}(h:Wg w v jY)(k:AC w w'):Wg w' v jY:=by
 obtain⟨a,cap,hv,h⟩:=h;refine⟨a,cap,hv,?_⟩;rcases h with h|⟨b,off,ha,hb,hc⟩
 . exact .inl h
 ·
  refine .inr ⟨b,off,ha,Nat.lt_of_lt_of_le hb k.size,fun i hi=>?_⟩;obtain⟨vi,h1,h2⟩:=hc i hi;exact⟨vi,(k.cell hb).trans h1,h2.keep k⟩
structure BV where
 W:Value
 P:Value
 L:Value
 N:Value
 X:Value
 S:Value
 F:Value
 R:Value
abbrev BV.arr (v:BV):Array Value:=#[v.W,v.P,v.L,v.N,v.X,v.S,v.F,v.R]
abbrev BV.agg (v:BV):Value:= .agg #[v.W,v.P,v.L,v.N,v.X,v.S,v.F,v.R]
structure Cf (w:World)(v:BV)(AA:List (List Dd))(b:Bd):Prop where
 W:Fo w v.W AA
 P:Rd w v.P b.AM
 L:Rd w v.L b.AO
 N:Wg w v.N b.AJ
 X:Rd w v.X b.AK
 S:Rd w v.S b.sn
 F:Rd w v.F b.fr
 R:ZS w v.R b.rws
theorem Cf.keep {w w':World}{v:BV}{AA:List (List Dd)}{b:Bd}(h:Cf w v AA b)(k:AC w w'):Cf w' v AA b:=
 ⟨h.W.keep k,h.P.keep k,h.L.keep k,h.N.keep k,h.X.keep k,h.S.keep k,h.F.keep k,h.R.keep k⟩
structure Ks (AA:List (List Dd))(b:Bd):Prop where
 w1:AA.length<=1048576
 w2:∀i,i<AA.length->(AA.getD i []).length<=1048576
 AM:b.AM.length<=1048576
 AO:b.AO.length<=1048576
 n1:b.AJ.length<=1048576
 n2:∀i,i<b.AJ.length->(b.AJ.getD i []).length<=1048576
 AK:b.AK.length<=1048576
 sn:b.sn.length<=1048576
 fr:b.fr.length<=1048576
 r1:b.rws.length<=1048576
 r2:∀i,i<b.rws.length->(b.rws.getD i []).length<=1048576
theorem Tryz.YS:laidOutB Tryz.prog=true:=by kernel_rfl
theorem Tryz.p9:(127:TypeId)<Tryz.prog.types.size:=of_decide_eq_true (by kernel_rfl)
theorem Tryz.kH:(match Tryz.prog.underlying 127 with|some (.array _ _)|some (.struct _)=>true|_=>false)=true:=by rw[Tryz.underlying127]
theorem YT:Maps.Keyed Tryz.prog 127:=Maps.Keyed.of_law (deep_law_laid Tryz.YS (m:=4) (by omega) Tryz.p9 (by kernel_rfl) Tryz.kH)
theorem Tryz.pK:Tryz.prog.keyType 127=true:=by kernel_rfl
theorem Tryz.Tb:Tryz.prog.cellsOf 127=15:=by kernel_rfl
theorem Tryz.TY:Tryz.prog.cellsOf 124=3:=by kernel_rfl
theorem Tryz.Ta:Tryz.prog.cellsOf 125=6:=by kernel_rfl
theorem Tryz.Xf:Tryz.prog.cellsOf 2=1:=by kernel_rfl
theorem ZL {x:Int}(h:-1000<=x/\x<=1000):(Lit.int .i64 x).wf=true:=WalkArith.wf_i64 (by omega)
theorem Dc (D:Nat){x:Int}(h:-1000<=x/\x<=1000):Tryz.prog.keyLits (D+1) 2 [.int .i64 x]=some [.int .i64 x]:=by
 have:=ZL h;simp[Program.keyLits,Tryz.underlying2,this]
theorem PP (D:Nat){a b c:Int}(ha:-1000<=a/\a<=1000)(hb:-1000<=b/\b<=1000)(hc:-1000<=c/\c<=1000):Tryz.prog.keyLits (D+2) 124 [.int .i64 a,.int .i64 b,.int .i64 c]=some [.int .i64 a,.int .i64 b,.int .i64 c]:=by
 have e:Tryz.prog.keyLits (D+2) 124 [.int .i64 a,.int .i64 b,.int .i64 c]=((List.range 3).mapM fun i=>Tryz.prog.keyLits (D+1) 2 (([.int .i64 a,.int .i64 b,.int .i64 c].drop (i*1)).take 1)).map List.flatten:=by
  rw[Program.keyLits.eq_def];simp only[Tryz.underlying124];simp only[Tryz.TY,Tryz.Xf];rfl
 rw[e];simp[List.range,List.range.loop,Dc D ha,Dc D hb,Dc D hc]
theorem bU (D:Nat){a b c d e f:Int}(ha:-1000<=a/\a<=1000)(hb:-1000<=b/\b<=1000)(hc:-1000<=c/\c<=1000)(hd:-1000<=d/\d<=1000)(he:-1000<=e/\e<=1000)(hf:-1000<=f/\f<=1000):
  Tryz.prog.keyLits (D+2) 125 [.int .i64 a,.int .i64 b,.int .i64 c,.int .i64 d,.int .i64 e,.int .i64 f]=some [.int .i64 a,.int .i64 b,.int .i64 c,.int .i64 d,.int .i64 e,.int .i64 f]:=by
 have q:Tryz.prog.keyLits (D+2) 125 [.int .i64 a,.int .i64 b,.int .i64 c,.int .i64 d,.int .i64 e,.int .i64 f]=((List.range 6).mapM fun i=>Tryz.prog.keyLits (D+1) 2 (([.int .i64 a,.int .i64 b,.int .i64 c,.int .i64 d,.int .i64 e,.int .i64 f].drop (i*1)).take 1)).map List.flatten:=by
  rw[Program.keyLits.eq_def];simp only[Tryz.underlying125];simp only[Tryz.Ta,Tryz.Xf];rfl
 rw[q];simp[List.range,List.range.loop,Dc D ha,Dc D hb,Dc D hc,Dc D hd,Dc D he,Dc D hf]
theorem bT {l:List Int}(h:l.length=15):∃a0 a1 a2 a3 a4 a5 a6 a7 a8 a9 a10 a11 a12 a13 a14:Int,l=[a0,a1,a2,a3,a4,a5,a6,a7,a8,a9,a10,a11,a12,a13,a14]:=by
 match l,h with
 | [a0,a1,a2,a3,a4,a5,a6,a7,a8,a9,a10,a11,a12,a13,a14],_=>exact⟨_,_,_,_,_,_,_,_,_,_,_,_,_,_,_,rfl⟩
theorem YR {ds:List (List Dd)}{b:Bd}(h:kg ds b):∃l,keyOf Tryz.prog 127 (GV b)=some l:=by
 have hl:=Pj h.st;have hw:=h.wf;unfold GV Sw;generalize LD b=L at hl hw;obtain⟨a0,a1,a2,a3,a4,a5,a6,a7,a8,a9,a10,a11,a12,a13,a14,rfl⟩:=bT hl;simp only[List.mem_cons,List.not_mem_nil,or_false,forall_eq_or_imp,forall_eq] at hw;obtain⟨h0,h1,h2,h3,h4,h5,h6,h7,h8,h9,h10,h11,h12,h13,h14⟩:=hw;unfold keyOf;rw[Tryz.underlying127];simp only
 have hf:(Value.agg (([a0,a1,a2,a3,a4,a5,a6,a7,a8,a9,a10,a11,a12,a13,a14]:List Int).map (Value.int .i64)).toArray).formed Tryz.prog 127=true:=by
  simp[Value.formed,Tryz.underlying127,Tryz.Tb]
 rw[hf,Tryz.pK];simp only[Bool.and_self,if_true,Option.map_eq_some_iff];obtain⟨D,hD⟩:∃D,Tryz.prog.types.size+1=D+3:=⟨Tryz.prog.types.size-2,by have:2<=Tryz.prog.types.size:=of_decide_eq_true (by kernel_rfl);omega⟩;rw[hD];refine⟨_,[.int .i64 a0,.int .i64 a1,.int .i64 a2,.int .i64 a3,.int .i64 a4,.int .i64 a5,.int .i64 a6,.int .i64 a7,.int .i64 a8,.int .i64 a9,.int .i64 a10,.int .i64 a11,.int .i64 a12,.int .i64 a13,.int .i64 a14],?_,rfl⟩;show Tryz.prog.keyLits (D+3) 127 [.int .i64 a0,.int .i64 a1,.int .i64 a2,.int .i64 a3,.int .i64 a4,.int .i64 a5,.int .i64 a6,.int .i64 a7,.int .i64 a8,.int .i64 a9,.int .i64 a10,.int .i64 a11,.int .i64 a12,.int .i64 a13,.int .i64 a14]=_;rw[Program.keyLits.eq_def];simp only[Tryz.underlying127];simp[Tryz.Tb,Tryz.TY,Tryz.Ta,PP D h0 h1 h2,PP D h3 h4 h5,PP D h6 h7 h8,bU D h9 h10 h11 h12 h13 h14]
theorem eU {b b':Bd}(h:GV b=GV b'):LD b=LD b':=by
 unfold GV Sw at h;simp only[Value.agg.injEq,List.toArray_eq_iff] at h;have h:(LD b).map (Value.int .i64)=(LD b').map (Value.int .i64):=by simpa using h
 exact List.map_inj_right (fun x y e=>by simpa using e) |>.1 h
def R0:Value->Option (DataW Unit×List MemPlace):=fun _=>some (.map [],[])
structure Wv (w:World)(g:Nat)(es:Array MapEntry)(l:List (BV×Bd)):Prop where
 ex:∃clock,w.heap[g]? = some (.map es clock)/\Fit Tryz.prog 127 R0 es clock
 jD:∀x∈es.toList,∃p∈l,x.key=GV p.2/\x.val=p.1.agg
 qp:∀p∈l,∃x∈es.toList,x.key=GV p.2
theorem Wv.new (w:World):Wv (w.alloc (.map #[] 0)) w.heap.size #[] []:=
 ⟨⟨0,(MapKept.heap_alloc w _).1,⟨by simp,stamped_empty 0,by simp⟩⟩,fun x hx=>by simp at hx,fun p hp=>by cases hp⟩
theorem Wv.lt {w:World}{g:Nat}{es:Array MapEntry}{l:List (BV×Bd)}(h:Wv w g es l):g<w.heap.size:=by
 obtain⟨c,h1,_⟩:=h.ex;exact (Array.getElem?_eq_some_iff.1 h1).1
theorem Wv.same {w w':World}{g:Nat}{es:Array MapEntry}{l:List (BV×Bd)}(h:Wv w g es l)(e:w'.heap[g]? = w.heap[g]?):Wv w' g es l:=by
 obtain⟨c,h1,h2⟩:=h.ex;exact⟨⟨c,e.trans h1,h2⟩,h.jD,h.qp⟩
theorem Wv.keep {w w':World}{g:Nat}{es:Array MapEntry}{l:List (BV×Bd)}(h:Wv w g es l)(k:AC w w'):Wv w' g es l:=h.same (Below.block k _ h.lt)
theorem Wv.kept {w w':World}{g:Nat}{es:Array MapEntry}{l:List (BV×Bd)}{r:Option Nat}(h:Wv w g es l)(k:w.grownBy w' r)(hr:r≠some g):Wv w' g es l:=h.same (k.block g h.lt (fun e=>hr e.symm))
theorem Wv.put {w:World}{g:Nat}{es:Array MapEntry}{l:List (BV×Bd)}(h:Wv w g es l)(hn:es.size<maxLen){b:Bd}(hk:∃kl,keyOf Tryz.prog 127 (GV b)=some kl)(bv:BV):
  ∃w' es',(Instr.mapUpdate 130 (.map (some g)) (GV b) bv.agg).run Tryz.prog w = .ok () w'/\Wv w' g es' (l++[(bv,b)])/\w.grownBy w' (some g):=by
 obtain⟨c,hb,F⟩:=h.ex;obtain⟨kl,hk⟩:=hk;obtain⟨es',c',hrun,F',hput,-,-,hwho⟩:=Maps.fit_store (R':=R0) YT Tryz.underlying130 hb F hn (key:=GV b) (val:=bv.agg) (fun _ _ _ _ hz=>hz) hk (yv:=(.map [],[])) rfl;refine⟨_,es',hrun,⟨⟨c',heap_setBlock_same hb _,F'⟩,fun x hx=>?_,fun p hp=>?_⟩,⟨rfl,rfl,rfl,by simp[setBlock],fun i _ hi=>heap_setBlock_other hb _ (fun e=>hi (by rw[e]))⟩⟩
 ·
  rcases hwho x hx with ⟨q1,q2⟩|⟨q1,q2⟩
  ·
   obtain⟨p,hp,e1,e2⟩:=h.jD x q1;exact⟨p,List.mem_append_left _ hp,e1,e2⟩
  . exact⟨(bv,b),by simp,q1,q2⟩
 ·
  have key:∀(k:Value) (kl':Lit),keyOf Tryz.prog 127 k=some kl'->(kl'=kl\/∃x∈es.toList,x.key=k)->∃x∈es'.toList,x.key=k:=by
   intro k kl' hk' ho
   have hm:∃d,(kl',d)∈ChangeMaps.putKey (H:=Unit) kl (.map []) ((es.toList.map (WideElems.rg Tryz.prog 127 R0)).foldr DataW.insert []):=by
    unfold ChangeMaps.putKey;by_cases e:kl'=kl
    ·
     subst e;exact⟨_,ChangeMaps.mem_insert_iff.2 (.inl rfl)⟩
    ·
     rcases ho with ho|⟨x,hx,rfl⟩
     . exact absurd ho e
     ·
      obtain⟨y,hy⟩:=F.reads x hx;have e1:=WideElems.rd_key hy;rw[hk'] at e1;have e1:=Option.some.inj e1;refine⟨y.2,ChangeMaps.mem_insert_iff.2 (.inr (List.mem_filter.2 ⟨mem_sorted.2 (List.mem_map.2 ⟨x,hx,?_⟩),?_⟩))⟩
      . rw[WideElems.rg_of hy,e1]
      . exact (Maps.notKey_iff (YT.key hk)).2 e
   obtain⟨d,hd⟩:=hm;rw[<-hput] at hd;obtain⟨x,hx,e⟩:=List.mem_map.1 (mem_sorted.1 hd);obtain⟨y,hy⟩:=F'.reads x hx;rw[WideElems.rg_of hy] at e;have e1:=WideElems.rd_key hy;rw[e] at e1;exact⟨x,hx,YT.inj e1 hk'⟩
  rcases List.mem_append.1 hp with hp|hp
  ·
   obtain⟨x,hx,e⟩:=h.qp p hp;obtain⟨y,hy⟩:=F.reads x hx;have e1:=WideElems.rd_key hy;rw[<-e];exact key x.key y.1 e1 (.inr ⟨x,hx,rfl⟩)
  ·
   rw[List.mem_singleton] at hp;subst hp;exact key (GV b) kl hk (.inl rfl)
def kI:Value->List Int
 | .agg cs=>cs.toList.map intOf
 |_=>[]
theorem YN (b:Bd):kI (GV b)=LD b:=by
 unfold GV Sw kI;simp only[List.map_map];have:(intOf ∘ Value.int .i64)=id:=by funext x;rfl
 rw[this,List.map_id]
theorem Wv.room {w:World}{g:Nat}{es:Array MapEntry}{l:List (BV×Bd)}(h:Wv w g es l){ds:List (List Dd)}{S:Sy}(Z:QD ds S)(hl:∀p∈l,S.R p.2):es.size<maxLen:=by
 obtain⟨c,_,F⟩:=h.ex;have hn:es.toList.Pairwise (fun x y=>x.key≠y.key):=((stamped_iff es c).1 F.stamped).2.2
 have h1:((es.toList.map (fun x=>kI x.key)).Nodup):=by
  rw[List.Nodup,List.pairwise_map];refine hn.imp_of_mem ?_;intro x y hx hy hne e;obtain⟨p,_,e1,_⟩:=h.jD x hx;obtain⟨q,_,e2,_⟩:=h.jD y hy;rw[e1,e2,YN,YN] at e;apply hne;rw[e1,e2];unfold GV Sw;rw[e]
 have h2:=Z.few _ h1 (fun z hz=>by
  obtain⟨x,hx,rfl⟩:=List.mem_map.1 hz;obtain⟨p,hp,e1,_⟩:=h.jD x hx
  exact⟨p.2,hl p hp,by rw[e1,YN]⟩)
 rw[List.length_map,Array.length_toList] at h2;have:IW<maxLen:=by decide
 omega
def cD (d:Dd):List Value:=[.int .i64 d.1,.int .i64 d.2.1,.int .i64 d.2.2.1,.int .i64 d.2.2.2]
def C7 (w:World)(base:Nat)(v:Value)(ds:List Dd):Prop:=w.ownsRow base 82 4 v ds.length (ds.flatMap cD)
theorem C7.keep {w w':World}{base:Nat}{v:Value}{ds:List Dd}(h:C7 w base v ds)(k:AC w w'):C7 w' base v ds:=
 World.ownsRow.kept h k.grownBy (by cases v.ownBlock<;>simp)
theorem C7.ge {w:World}{base:Nat}{v:Value}{ds:List Dd}(h:C7 w base v ds):∀k,v.ownBlock=some k->base<=k:=fun k hk=>(World.ownsRow.lt h k hk).1
theorem Xa:∀(ds:List Dd) (i m:Nat),i<ds.length->m<4->(ds.flatMap cD)[i*4+m]? = (cD (ds.getD i zD))[m]?
 | [],i,m,h,_=>by simp at h
 |d::r,0,m,_,hm=>by
  rw[List.flatMap_cons,List.getElem?_append_left (by simp[cD];omega)];simp
 |d::r,i+1,m,h,hm=>by
  have ih:=Xa r i m (by simpa using h) hm;rw[List.flatMap_cons,List.getElem?_append_right (by simp[cD];omega),show (i+1)*4+m-(cD d).length=i*4+m by simp[cD];omega,ih];simp
theorem C7.Vi {w:World}{base:Nat}{v:Value}{ds:List Dd}(h:C7 w base v ds):GY w base v ds:=by
 have h2:=h;rcases h.2 with ⟨rfl,hn⟩|⟨g,cap,cur,rfl,hb,hg,hcap,_,hs,_⟩
 ·
  have:ds=[]:=List.eq_nil_of_length_eq_zero hn;subst this;exact⟨none,0,rfl,.inl rfl⟩
 ·
  obtain⟨x,rfl⟩:∃x,cap=ds.length+x:=⟨cap-ds.length,by omega⟩;by_cases h0:ds=[]
  . exact⟨_,x,rfl,.inl h0⟩
  ·
   have len:(ds.flatMap cD).length=ds.length*4:=h.1
   have big:ds.length*4<=cur.size:=by
    have h5:=World.ownsRow.cellAt h2 (ds.length*4-1) (by
     have:ds.length≠0:=fun e=>h0 (List.eq_nil_of_length_eq_zero e)
     omega)
    rw[cell_of_row w g _ cur _ (0,0) hg] at h5;have hpos:ds.length≠0:=fun e=>h0 (List.eq_nil_of_length_eq_zero e)
    rw[List.getElem?_eq_getElem (by omega)] at h5;have:=(Array.getElem?_eq_some_iff.1 h5).1;omega
   refine⟨_,x,rfl,.inr ⟨g,rfl,hb,⟨cur,_,hg,big⟩,fun i hi=>?_⟩⟩
   have key:∀m,m<4->w.cell? ⟨g,i*4+m,none⟩=(cD (ds.getD i zD))[m]?:=fun m hm=>by
    rw[World.ownsRow.cellAt h2 (i*4+m) (by omega),Xa ds i m hi hm]
   exact⟨key 0 (by omega),key 1 (by omega),key 2 (by omega),key 3 (by omega)⟩
theorem C7.shape {w:World}{base:Nat}{v:Value}{ds:List Dd}(h:C7 w base v ds):∃a c,v = .slice a ds.length c:=by
 obtain⟨a,c,hv,_⟩:=h.Vi;exact⟨a,_,hv⟩
def vZ:Value:= .slice none 0 0
theorem VK {α:Type}(l m:List α)(i:Nat)(z:α)(h:i<l.length):(l++m).getD i z=l.getD i z:=by
 rw[List.getD_eq_getElem?_getD,List.getElem?_append_left h,List.getD_eq_getElem?_getD]
theorem VI {α:Type}(l:List α)(x z:α):(l++[x]).getD l.length z=x:=by
 rw[List.getD_eq_getElem?_getD];simp
def mO (w:World)(base:Nat)(v:Value)(AA:List (List Dd)):Prop:=
 ∃(a:Option Addr) (cap:Nat),v = .slice a AA.length cap /\
  (AA=[]\/∃b off,a=some ⟨b,off,none⟩/\base<=b/\b<w.heap.size/\∀i,i<AA.length->∃vi,w.cell? ⟨b,off+i,none⟩=some vi/\C7 w base vi (AA.getD i []))
def IZ (w:World)(base N:Nat)(v:Value)(AA:List (List Dd)):Prop:=
 ∃(a:Option Addr) (cap:Nat),v = .slice a AA.length cap /\
  (AA=[]\/∃b off,a=some ⟨b,off,none⟩/\base<=b/\b<N/\b<w.heap.size/\∀i,i<AA.length->∃vi,w.cell? ⟨b,off+i,none⟩=some vi/\C7 w base vi (AA.getD i [])/\∀k,vi.ownBlock=some k->k<N)
theorem mO.upto {w:World}{base:Nat}{v:Value}{AA:List (List Dd)}(h:mO w base v AA):IZ w base w.heap.size v AA:=by
 obtain⟨a,cap,hv,h⟩:=h;refine⟨a,cap,hv,?_⟩;rcases h with h|⟨b,off,ha,hbb,hb,hl⟩
 . exact .inl h
 ·
  refine .inr ⟨b,off,ha,hbb,hb,hb,fun i hi=>?_⟩;obtain⟨vi,h1,h2⟩:=hl i hi;exact⟨vi,h1,h2,fun k hk=>(h2.lt k hk).2⟩
theorem IZ.rd {w:World}{base N:Nat}{v:Value}{AA:List (List Dd)}(h:IZ w base N v AA):Fo w v AA:=by
 obtain⟨a,cap,hv,h⟩:=h;refine⟨a,cap,hv,?_⟩;rcases h with h|⟨b,off,ha,_,_,hb,hc⟩
 . exact .inl h
 ·
  refine .inr ⟨b,off,ha,hb,fun i hi=>?_⟩;obtain⟨vi,h1,h2,_⟩:=hc i hi;exact⟨vi,h1,h2.Vi.rd⟩
theorem IZ.kept {w w':World}{base N:Nat}{row:Option Nat}{v:Value}{AA:List (List Dd)}(h:IZ w base N v AA)(hg:w.grownBy w' row)(hr:∀g,row=some g->g<base\/N<=g):IZ w' base N v AA:=by
 obtain⟨a,cap,hv,h⟩:=h;refine⟨a,cap,hv,?_⟩;rcases h with h|⟨b,off,ha,hbb,hbN,hb,hl⟩
 . exact .inl h
 ·
  refine .inr ⟨b,off,ha,hbb,hbN,Nat.lt_of_lt_of_le hb hg.size,fun i hi=>?_⟩;obtain⟨vi,h1,h2,h3⟩:=hl i hi;have hblk:w'.heap[b]? = w.heap[b]?:=hg.block b hb (fun e=>by have:=hr b e.symm;omega);refine⟨vi,?_,h2.kept hg ?_,h3⟩
  ·
   simp only[World.cell?,hblk] at h1 ⊢;exact h1
  ·
   cases hu:vi.ownBlock with
   |none=>exact .inl rfl
   |some k=>exact .inr (fun e=>by have:=h2.ge k hu;have:=h3 k hu;have:=hr k e.symm;omega)
end Go.Proofs.YtflehmepjhikcaaGreatDoor
