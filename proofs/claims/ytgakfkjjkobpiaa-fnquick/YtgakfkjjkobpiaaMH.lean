/- Gathered texts. -/
import Derived.Test.YtgakfkjjkobpiaaRows
import Derived.OpenShut
import Derived.Deep.Slices
import Derived.Lib.SmallJoins
import Derived.Lib.Hide
import Derived.Outline
import Derived.OwnWalk
import Derived.Maps.AppendAt
import Derived.Laws.OwnMore
import Derived.Laws.Tables
import Derived.Deep.Cut
import Derived.Test.YtgakfkjjkobpiaaMD
import Derived.RegionTactic
import Derived.Deep.RegionHeld3
set_option maxRecDepth 100000
set_option maxHeartbeats 8000000
namespace Go.Proofs.Ytgakfkjjkobpiaa
open Go.ChangeShapes Go.WideShapes Go.ChangeAt Go.RowKit
theorem l1In_any (x lo hi:Int)(w:World):
  Calls Try.prog 45 #[.int .i64 x,.int .i64 lo,.int .i64 hi] w fun e w'=>e = .returned (.bool (inB x lo hi))∧w'=w:=by
 go_enter Try.func45,Try.ntmps45
 go_wp2
 all_goals
  go_ret;exact⟨ret_bool (by rw[Bool.eq_iff_iff];unfold inB;simp;omega),rfl⟩
abbrev deedV (k p v g:Int):Value:= .agg #[.int .i64 k,.int .i64 p,.int .i64 v,.int .i64 g]
theorem specDeedOk_any (k p v g:Int)(w:World):
  Calls Try.prog 78 #[deedV k p v g] w fun e w'=>e = .returned (.bool (deedB k p v g))∧Keep w w':=by
 unfold deedV;go_enter Try.func78,Try.ntmps78
 go_wp2_with (go_at_call 45;refine (l1In_any _ _ _ _).mono ?_;rintro e w' ⟨rfl,rfl⟩)
 all_goals
  go_ret;refine⟨ret_bool ?_,(Keep.refl w).alloc _⟩;simp[inB] at *;rw[Bool.eq_iff_iff];simp[deedB];omega
abbrev dV (d:Dd):Value:=deedV d.1 d.2.1 d.2.2.1 d.2.2.2
def AtD (w:World)(b o:Nat)(d:Dd):Prop:=
 w.cell? ⟨b,o,none⟩=some (.int .i64 d.1)∧w.cell? ⟨b,o+1,none⟩=some (.int .i64 d.2.1)∧w.cell? ⟨b,o+2,none⟩=some (.int .i64 d.2.2.1)∧w.cell? ⟨b,o+3,none⟩=some (.int .i64 d.2.2.2)
def RdD (w:World)(v:Value)(ds:List Dd):Prop:=
 ∃(a:Option Addr) (cap:Nat),v = .slice a ds.length (ds.length+cap) ∧
  (ds=[]∨∃b off,a=some ⟨b,off,none⟩∧b<w.heap.size∧∀i,i<ds.length→AtD w b (off+i*4) (ds.getD i zD))
def RdW (w:World)(v:Value)(dss:List (List Dd)):Prop:=
 ∃(a:Option Addr) (cap:Nat),v = .slice a dss.length cap ∧
  (dss=[]∨∃b off,a=some ⟨b,off,none⟩∧b<w.heap.size∧∀i,i<dss.length→∃vi,w.cell? ⟨b,off+i,none⟩=some vi∧RdD w vi (dss.getD i []))
theorem AtD.keep {w w':World}{b o:Nat}{d:Dd}(h:AtD w b o d)(hb:b<w.heap.size)(k:Keep w w'):AtD w' b o d:=
 ⟨(k.cell hb).trans h.1,(k.cell hb).trans h.2.1,(k.cell hb).trans h.2.2.1,(k.cell hb).trans h.2.2.2⟩
theorem RdD.keep {w w':World}{v:Value}{ds:List Dd}(h:RdD w v ds)(k:Keep w w'):RdD w' v ds:=by
 obtain⟨a,cap,hv,h⟩:=h;refine⟨a,cap,hv,?_⟩;rcases h with h|⟨b,off,ha,hb,hc⟩
 · exact .inl h
 · exact .inr ⟨b,off,ha,Nat.lt_of_lt_of_le hb k.size,fun i hi=>(hc i hi).keep hb k⟩
theorem RdW.keep {w w':World}{v:Value}{dss:List (List Dd)}(h:RdW w v dss)(k:Keep w w'):RdW w' v dss:=by
 obtain⟨a,cap,hv,h⟩:=h;refine⟨a,cap,hv,?_⟩;rcases h with h|⟨b,off,ha,hb,hc⟩
 · exact .inl h
 ·
  refine .inr ⟨b,off,ha,Nat.lt_of_lt_of_le hb k.size,fun i hi=>?_⟩;obtain⟨vi,h1,h2⟩:=hc i hi;exact⟨vi,(k.cell hb).trans h1,h2.keep k⟩
theorem Keep.set {w wr:World}(h:Keep w wr){g:Nat}(hg:w.heap.size≤g)(i:Nat)(x:Value):Keep w (wr.setCell ⟨g,i,none⟩ x):=
 h.grown (row:=some g) ⟨rfl,rfl,rfl,by simp,fun k _ hk=>heap_setCell_other wr ⟨g,i,none⟩ k x (fun e=>hk (by simp[e]))⟩ (fun k hk=>by simp at hk;omega)
theorem plain_add {b o i:Nat}:(⟨b,o,none⟩:Addr).add i=⟨b,o+i,none⟩:=by unfold Addr.add;split<;>simp_all
abbrev zN:Nt:=(0,0,0)
def cN (x:Nt):List Value:=[.int .i64 x.1,.int .i64 x.2.1,.int .i64 x.2.2]
theorem cN_len (x:Nt):(cN x).length=3:=rfl
abbrev RdN (w:World)(v:Value)(ns:List Nt):Prop:=RdT cN 3 w v ns
theorem atN {w:World}{b o:Nat}{x:Nt}(h:AtT cN w b o x):w.cell? ⟨b,o,none⟩=some (.int .i64 x.1)∧w.cell? ⟨b,o+1,none⟩=some (.int .i64 x.2.1)∧w.cell? ⟨b,o+2,none⟩=some (.int .i64 x.2.2):=
 ⟨h 0 _ rfl,h 1 _ rfl,h 2 _ rfl⟩
theorem nts_get {ns:List Nt}{i:Nat}(h:i<ns.length):ns[i]? = some (ns.getD i zN):=by
 rw[List.getD_eq_getElem?_getD,List.getElem?_eq_getElem h];rfl
def RdNN (w:World)(v:Value)(nss:List (List Nt)):Prop:=
 ∃(a:Option Addr) (cap:Nat),v = .slice a nss.length cap ∧
  (nss=[]∨∃b off,a=some ⟨b,off,none⟩∧b<w.heap.size∧∀i,i<nss.length→∃vi,w.cell? ⟨b,off+i,none⟩=some vi∧RdN w vi (nss.getD i []))
theorem RdNN.keep {w w':World}{v:Value}{nss:List (List Nt)}(h:RdNN w v nss)(k:Keep w w'):RdNN w' v nss:=by
 obtain⟨a,cap,hv,h⟩:=h;refine⟨a,cap,hv,?_⟩;rcases h with h|⟨b,off,ha,hb,hc⟩
 · exact .inl h
 ·
  refine .inr ⟨b,off,ha,Nat.lt_of_lt_of_le hb k.size,fun i hi=>?_⟩;obtain⟨vi,h1,h2⟩:=hc i hi;exact⟨vi,(k.cell hb).trans h1,h2.keep k⟩
structure BV where
 W:Value
 P:Value
 L:Value
 N:Value
 X:Value
 S:Value
 F:Value
 R:Value
abbrev BV.arr (v:BV):Array Value:=#[v.W,v.P,v.L,v.N,v.X,v.S,v.F,v.R]
abbrev BV.agg (v:BV):Value:= .agg #[v.W,v.P,v.L,v.N,v.X,v.S,v.F,v.R]
structure RdBd (w:World)(v:BV)(dss:List (List Dd))(b:Bd):Prop where
 W:RdW w v.W dss
 P:Rd w v.P b.plc
 L:Rd w v.L b.lst
 N:RdNN w v.N b.nts
 X:Rd w v.X b.nxt
 S:Rd w v.S b.sn
 F:Rd w v.F b.fr
 R:RdL w v.R b.rws
theorem RdBd.keep {w w':World}{v:BV}{dss:List (List Dd)}{b:Bd}(h:RdBd w v dss b)(k:Keep w w'):RdBd w' v dss b:=
 ⟨h.W.keep k,h.P.keep k,h.L.keep k,h.N.keep k,h.X.keep k,h.S.keep k,h.F.keep k,h.R.keep k⟩
structure SzBd (dss:List (List Dd))(b:Bd):Prop where
 w1:dss.length≤1048576
 w2:∀i,i<dss.length→(dss.getD i []).length≤1048576
 plc:b.plc.length≤1048576
 lst:b.lst.length≤1048576
 n1:b.nts.length≤1048576
 n2:∀i,i<b.nts.length→(b.nts.getD i []).length≤1048576
 nxt:b.nxt.length≤1048576
 sn:b.sn.length≤1048576
 fr:b.fr.length≤1048576
 r1:b.rws.length≤1048576
 r2:∀i,i<b.rws.length→(b.rws.getD i []).length≤1048576
theorem RdBd.shapes {w:World}{v:BV}{dss:List (List Dd)}{b:Bd}(h:RdBd w v dss b):
  ∃(aW aP aL aN aX aS aF aR:Option Addr) (cW cP cL cN cX cS cF cR:Nat),v=⟨.slice aW dss.length cW,.slice aP b.plc.length cP,.slice aL b.lst.length cL,.slice aN b.nts.length cN,.slice aX b.nxt.length cX,.slice aS b.sn.length cS,.slice aF b.fr.length cF,.slice aR b.rws.length cR⟩:=by
 obtain⟨vW,vP,vL,vN,vX,vS,vF,vR⟩:=v;obtain⟨hW,hP,hL,hN,hX,hS,hF,hR⟩:=h;obtain⟨aW,cW,eW,-⟩:=hW;obtain⟨aP,cP,eP,-⟩:=hP;obtain⟨aL,cL,eL,-⟩:=hL;obtain⟨aN,cN,eN,-⟩:=hN;obtain⟨aX,cX,eX,-⟩:=hX;obtain⟨aS,cS,eS,-⟩:=hS;obtain⟨aF,cF,eF,-⟩:=hF;obtain⟨aR,cR,eR,-⟩:=hR;simp only at eW eP eL eN eX eS eF eR;exact⟨aW,aP,aL,aN,aX,aS,aF,aR,cW,cP,cL,cN,cX,cS,cF,cR,by rw[eW,eP,eL,eN,eX,eS,eF,eR]⟩
theorem Try.infoD:(Try.prog.info? 98).map (fun i=>(i.zero,i.size,i.bytes))=some (some (.agg #[.int .i64 0,.int .i64 0,.int .i64 0,.int .i64 0]),4,32):=by kernel_rfl
def Blk (w:World)(g n:Nat):Prop:=∃cur t,w.heap[g]? = some (.cells cur t (0,0))∧n≤cur.size
theorem Blk.free {w:World}{g n:Nat}(h:Blk w g n)(i:Nat):w.frozen? ⟨g,i,none⟩=false:=by
 obtain⟨cur,t,h,_⟩:=h;exact frozen_of_row w g i cur t h
theorem Blk.cell {w:World}{g n:Nat}(h:Blk w g n){i:Nat}(hi:i<n):∃u,w.cell? ⟨g,i,none⟩=some u:=by
 obtain⟨cur,t,h,hn⟩:=h;exact⟨cur[i]'(by omega),by rw[cell_of_row w g i cur t (0,0) h,Array.getElem?_eq_getElem (by omega)]⟩
theorem Blk.lt {w:World}{g n:Nat}(h:Blk w g n):g<w.heap.size:=by
 obtain⟨cur,t,h,_⟩:=h;exact (Array.getElem?_eq_some_iff.1 h).1
theorem Blk.set {w:World}{g n:Nat}(h:Blk w g n)(i:Nat)(x:Value):Blk (w.setCell ⟨g,i,none⟩ x) g n:=by
 obtain⟨cur,t,h,hn⟩:=h;exact⟨cur.setIfInBounds i x,t,heap_setCell_same w g i cur t x h,by simpa using hn⟩
theorem Blk.kept {w w':World}{g n:Nat}{row:Option Nat}(h:Blk w g n)(hg:w.grownBy w' row)(hne:row≠some g):Blk w' g n:=by
 have hl:=h.lt;obtain⟨cur,t,h,hn⟩:=h;exact⟨cur,t,(hg.block g hl (fun e=>hne e.symm)).trans h,hn⟩
def OwnD (w:World)(base:Nat)(v:Value)(ds:List Dd):Prop:=
 ∃(a:Option Addr) (cap:Nat),v = .slice a ds.length (ds.length+cap)∧(ds=[]∨∃g,a=some ⟨g,0,none⟩∧base≤g∧Blk w g (ds.length*4)∧∀i,i<ds.length→AtD w g (i*4) (ds.getD i zD))
theorem OwnD.rd {w:World}{base:Nat}{v:Value}{ds:List Dd}(h:OwnD w base v ds):RdD w v ds:=by
 obtain⟨a,cap,hv,h⟩:=h;refine⟨a,cap,hv,?_⟩;rcases h with h|⟨g,ha,_,hb,hc⟩
 · exact .inl h
 · exact .inr ⟨g,0,ha,hb.lt,fun i hi=>by rw[Nat.zero_add];exact hc i hi⟩
theorem OwnD.keep {w w':World}{base:Nat}{v:Value}{ds:List Dd}(h:OwnD w base v ds)(k:Keep w w'):OwnD w' base v ds:=by
 obtain⟨a,cap,hv,h⟩:=h;refine⟨a,cap,hv,?_⟩;rcases h with h|⟨g,ha,hb,hB,hc⟩
 · exact .inl h
 · exact .inr ⟨g,ha,hb,hB.kept k.grownBy (by simp),fun i hi=>(hc i hi).keep hB.lt k⟩
theorem OwnD.kept {w w':World}{base:Nat}{v:Value}{ds:List Dd}{row:Option Nat}(h:OwnD w base v ds)(hg:w.grownBy w' row)(hne:ds=[]∨v.ownBlock≠row):OwnD w' base v ds:=by
 obtain⟨a,cap,rfl,h⟩:=h;refine⟨a,cap,rfl,?_⟩;rcases h with h|⟨g,rfl,hb,hB,hc⟩
 · exact .inl h
 ·
  rcases hne with hne|hne
  · exact .inl hne
  ·
   have hne':row≠some g:=fun e=>hne (by simp[Value.ownBlock,e])
   have hcell:∀j,w'.cell? ⟨g,j,none⟩=w.cell? ⟨g,j,none⟩:=fun j=>World.cell?_of_block (w:=w) (hg.block g hB.lt (fun e=>hne' e.symm))
   exact .inr ⟨g,rfl,hb,hB.kept hg hne',fun i hi=>⟨(hcell _).trans (hc i hi).1,(hcell _).trans (hc i hi).2.1,(hcell _).trans (hc i hi).2.2.1,(hcell _).trans (hc i hi).2.2.2⟩⟩
theorem OwnD.mono {w:World}{base base':Nat}{v:Value}{ds:List Dd}(h:OwnD w base v ds)(hb:base'≤base):OwnD w base' v ds:=by
 obtain⟨a,cap,hv,h⟩:=h;refine⟨a,cap,hv,?_⟩;rcases h with h|⟨g,ha,hg,rest⟩
 · exact .inl h
 · exact .inr ⟨g,ha,Nat.le_trans hb hg,rest⟩
theorem OwnD.block {w:World}{base:Nat}{v:Value}{ds:List Dd}(h:OwnD w base v ds)(hne:ds≠[]):∃g,v.ownBlock=some g∧base≤g∧g<w.heap.size:=by
 obtain⟨a,cap,rfl,h⟩:=h;rcases h with h|⟨g,rfl,hb,hB,_⟩
 · exact absurd h hne
 · exact⟨g,rfl,hb,hB.lt⟩
def Apart (g n:Nat)(V:Nat→Value)(D:Nat→List Dd):Prop:=
 (∀i,i<n→D i≠[]→(V i).ownBlock≠some g)∧∀i j,i<j→j<n→D i≠[]→D j≠[]→(V i).ownBlock≠(V j).ownBlock
def OwnW (w:World)(base:Nat)(v:Value)(dss:List (List Dd)):Prop:=
 ∃(a:Option Addr) (cap:Nat),v = .slice a dss.length cap∧(dss=[]∨∃(g:Nat) (V:Nat→Value),a=some ⟨g,0,none⟩∧base≤g∧Blk w g dss.length ∧
  (∀i,i<dss.length→w.cell? ⟨g,i,none⟩=some (V i)∧OwnD w base (V i) (dss.getD i []))∧Apart g dss.length V (fun i=>dss.getD i []))
theorem OwnW.rd {w:World}{base:Nat}{v:Value}{dss:List (List Dd)}(h:OwnW w base v dss):RdW w v dss:=by
 obtain⟨a,cap,hv,h⟩:=h;refine⟨a,cap,hv,?_⟩;rcases h with h|⟨g,V,ha,_,hb,hc,_⟩
 · exact .inl h
 · exact .inr ⟨g,0,ha,hb.lt,fun i hi=>⟨V i,by rw[Nat.zero_add];exact (hc i hi).1,(hc i hi).2.rd⟩⟩
theorem Try.infoDS:(Try.prog.info? 72).map (fun i=>(i.zero,i.size,i.bytes))=some (some (.slice none 0 0),1,24):=by kernel_rfl
theorem grown_put (w:World)(g j:Nat)(v:Value):w.grownBy (w.setCell ⟨g,j,none⟩ v) (some g):=
 ⟨rfl,rfl,rfl,by simp,fun k _ hk=>heap_setCell_other w ⟨g,j,none⟩ k v (fun e=>hk (by simp[e]))⟩
def ownO (v:Value)(ds:List Dd):Option Nat:=if ds=[] then none else v.ownBlock
theorem cell_same {w w':World}{b:Nat}(h:w'.heap[b]? = w.heap[b]?)(o:Nat):w'.cell? ⟨b,o,none⟩=w.cell? ⟨b,o,none⟩:=by
 simp only[World.cell?,h]
theorem AtD.same {w w':World}{b o:Nat}{d:Dd}(h:AtD w b o d)(hh:w'.heap[b]? = w.heap[b]?):AtD w' b o d:=
 ⟨(cell_same hh _).trans h.1,(cell_same hh _).trans h.2.1,(cell_same hh _).trans h.2.2.1,(cell_same hh _).trans h.2.2.2⟩
theorem Blk.same {w w':World}{g n:Nat}(h:Blk w g n)(hh:w'.heap[g]? = w.heap[g]?):Blk w' g n:=by
 obtain⟨cur,t,h,hn⟩:=h;exact⟨cur,t,hh.trans h,hn⟩
theorem OwnD.same {w w':World}{base:Nat}{v:Value}{ds:List Dd}(h:OwnD w base v ds)(hh:∀g,ownO v ds=some g→g<w.heap.size→base≤g→w'.heap[g]? = w.heap[g]?):OwnD w' base v ds:=by
 obtain⟨a,cap,rfl,h⟩:=h;refine⟨a,cap,rfl,?_⟩;rcases h with h|⟨g,rfl,hb,hB,hA⟩
 · exact .inl h
 ·
  by_cases h0:ds=[]
  · exact .inl h0
  ·
   have e:=hh g (by rw[ownO,if_neg h0];rfl) hB.lt hb;exact .inr ⟨g,rfl,hb,hB.same e,fun i hi=>(hA i hi).same e⟩
structure Only (lo hi:Nat)(w w':World):Prop where
 os:w'.os=w.os
 tape:w'.tape=w.tape
 output:w'.output=w.output
 size:w.heap.size≤w'.heap.size
 block:∀b,b<w.heap.size→(b<lo∨hi≤b)→w'.heap[b]? = w.heap[b]?
theorem Only.refl (lo hi:Nat)(w:World):Only lo hi w w:=⟨rfl,rfl,rfl,Nat.le_refl _,fun _ _ _=>rfl⟩
theorem Only.grown {lo hi:Nat}{a w w':World}{row:Option Nat}(h:Only lo hi a w)(hg:w.grownBy w' row)(hr:∀k,row=some k→lo≤k∧k<hi):Only lo hi a w':=
 ⟨hg.os.trans h.os,hg.tape.trans h.tape,hg.output.trans h.output,Nat.le_trans h.size hg.size,fun b hb ho=>(hg.block b (Nat.lt_of_lt_of_le hb h.size) (fun e=>by have:=hr b e.symm;omega)).trans (h.block b hb ho)⟩
theorem Keep.only {a w w':World}{lo hi:Nat}(h:Keep a w)(k:Only lo hi w w')(hl:a.heap.size≤lo):Keep a w':=
 ⟨k.os.trans (Below.os h),k.tape.trans (Below.tape h),k.output.trans (Below.output h),Nat.le_trans (Below.size h) k.size,fun b hb=>(k.block b (Nat.lt_of_lt_of_le hb h.size) (.inl (Nat.lt_of_lt_of_le hb hl))).trans (Below.block h b hb)⟩
theorem OwnW.only {w w':World}{base lo hi:Nat}{v:Value}{dss:List (List Dd)}(h:OwnW w base v dss)(k:Only lo hi w w')(hb:hi≤base):OwnW w' base v dss:=by
 obtain⟨a,cap,rfl,h⟩:=h;refine⟨a,cap,rfl,?_⟩;rcases h with h|⟨g,V,rfl,hg,hB,hc,hA⟩
 · exact .inl h
 ·
  have e:=k.block g hB.lt (.inr (Nat.le_trans hb hg));exact .inr ⟨g,V,rfl,hg,hB.same e,fun i hi=>⟨(cell_same e _).trans (hc i hi).1,(hc i hi).2.same (fun b _ hlt hbb=>k.block b hlt (.inr (Nat.le_trans hb hbb)))⟩,hA⟩
theorem OwnW.base_le {w:World}{base base':Nat}{v:Value}{dss:List (List Dd)}(h:OwnW w base v dss)(hb:base'≤base):OwnW w base' v dss:=by
 obtain⟨a,cap,hv,h⟩:=h;refine⟨a,cap,hv,?_⟩;rcases h with h|⟨g,V,ha,hg,hB,hc,hA⟩
 · exact .inl h
 · exact .inr ⟨g,V,ha,Nat.le_trans hb hg,hB,fun i hi=>⟨(hc i hi).1,(hc i hi).2.mono hb⟩,hA⟩
def cD (d:Dd):List Value:=[.int .i64 d.1,.int .i64 d.2.1,.int .i64 d.2.2.1,.int .i64 d.2.2.2]
def AppD (w:World)(base:Nat)(v:Value)(ds:List Dd):Prop:=w.ownsRow base 98 4 v ds.length (ds.flatMap cD)
theorem AppD.keep {w w':World}{base:Nat}{v:Value}{ds:List Dd}(h:AppD w base v ds)(k:Keep w w'):AppD w' base v ds:=
 World.ownsRow.kept h k.grownBy (by cases v.ownBlock<;>simp)
theorem AppD.ge {w:World}{base:Nat}{v:Value}{ds:List Dd}(h:AppD w base v ds):∀k,v.ownBlock=some k→base≤k:=fun k hk=>(World.ownsRow.lt h k hk).1
theorem appD_hit {w:World}{base:Nat}{v:Value}{ds:List Dd}{d:Dd}(h:w.ownsRow base 98 4 v (ds.length+1) (ds.flatMap cD++cD d)):AppD w base v (ds++[d]):=by
 unfold AppD;simpa using h
theorem cD_at:∀(ds:List Dd) (i m:Nat),i<ds.length→m<4→(ds.flatMap cD)[i*4+m]? = (cD (ds.getD i zD))[m]?
 | [],i,m,h,_=>by simp at h
 |d::r,0,m,_,hm=>by
  rw[List.flatMap_cons,List.getElem?_append_left (by simp[cD];omega)];simp
 |d::r,i+1,m,h,hm=>by
  have ih:=cD_at r i m (by simpa using h) hm;rw[List.flatMap_cons,List.getElem?_append_right (by simp[cD];omega),show (i+1)*4+m-(cD d).length=i*4+m by simp[cD];omega,ih];simp
theorem AppD.ownD {w:World}{base:Nat}{v:Value}{ds:List Dd}(h:AppD w base v ds):OwnD w base v ds:=by
 have h2:=h;rcases h.2 with ⟨rfl,hn⟩|⟨g,cap,cur,rfl,hb,hg,hcap,_,hs,_⟩
 ·
  have:ds=[]:=List.eq_nil_of_length_eq_zero hn;subst this;exact⟨none,0,rfl,.inl rfl⟩
 ·
  obtain⟨x,rfl⟩:∃x,cap=ds.length+x:=⟨cap-ds.length,by omega⟩;by_cases h0:ds=[]
  · exact⟨_,x,rfl,.inl h0⟩
  ·
   have len:(ds.flatMap cD).length=ds.length*4:=h.1
   have big:ds.length*4≤cur.size:=by
    have h5:=World.ownsRow.cellAt h2 (ds.length*4-1) (by
     have:ds.length≠0:=fun e=>h0 (List.eq_nil_of_length_eq_zero e)
     omega)
    rw[cell_of_row w g _ cur _ (0,0) hg] at h5;have hpos:ds.length≠0:=fun e=>h0 (List.eq_nil_of_length_eq_zero e)
    rw[List.getElem?_eq_getElem (by omega)] at h5;have:=(Array.getElem?_eq_some_iff.1 h5).1;omega
   refine⟨_,x,rfl,.inr ⟨g,rfl,hb,⟨cur,_,hg,big⟩,fun i hi=>?_⟩⟩
   have key:∀m,m<4→w.cell? ⟨g,i*4+m,none⟩=(cD (ds.getD i zD))[m]?:=fun m hm=>by
    rw[World.ownsRow.cellAt h2 (i*4+m) (by omega),cD_at ds i m hi hm]
   exact⟨key 0 (by omega),key 1 (by omega),key 2 (by omega),key 3 (by omega)⟩
theorem AppD.shape {w:World}{base:Nat}{v:Value}{ds:List Dd}(h:AppD w base v ds):∃a c,v = .slice a ds.length c:=by
 obtain⟨a,c,hv,_⟩:=h.ownD;exact⟨a,_,hv⟩
def vZ:Value:= .slice none 0 0
def AppW (w:World)(base:Nat)(v:Value)(dss:List (List Dd)):Prop:=
 ∃vs:List Value,vs.length=dss.length∧w.ownsRow base 72 1 v dss.length vs∧(∀i,i<dss.length→OwnD w base (vs.getD i vZ) (dss.getD i [])) ∧
  (∀i,i<dss.length→dss.getD i []≠[]→(vs.getD i vZ).ownBlock≠v.ownBlock) ∧
  ∀i j,i<j→j<dss.length→dss.getD i []≠[]→dss.getD j []≠[]→(vs.getD i vZ).ownBlock≠(vs.getD j vZ).ownBlock
theorem AppW.keep {w w':World}{base:Nat}{v:Value}{dss:List (List Dd)}(h:AppW w base v dss)(k:Keep w w'):AppW w' base v dss:=by
 obtain⟨vs,h1,h2,h3,h4⟩:=h;exact⟨vs,h1,World.ownsRow.kept h2 k.grownBy (by cases v.ownBlock<;>simp),fun i hi=>(h3 i hi).keep k,h4⟩
theorem OwnD.blockIn {w:World}{base:Nat}{v:Value}{ds:List Dd}(h:OwnD w base v ds)(h0:ds≠[]):∃g,v.ownBlock=some g∧base≤g∧g<w.heap.size:=by
 obtain⟨a,cap,rfl,h⟩:=h;rcases h with h|⟨g,rfl,hb,hB,_⟩
 · exact absurd h h0
 · exact⟨g,rfl,hb,hB.lt⟩
theorem OwnD.base_le {w:World}{base base':Nat}{v:Value}{ds:List Dd}(h:OwnD w base v ds)(hb:base'≤base):OwnD w base' v ds:=by
 obtain⟨a,cap,rfl,h⟩:=h;refine⟨a,cap,rfl,?_⟩;rcases h with h|⟨g,rfl,hg,r⟩
 · exact .inl h
 · exact .inr ⟨g,rfl,Nat.le_trans hb hg,r⟩
theorem getD_left {α:Type}(l m:List α)(i:Nat)(z:α)(h:i<l.length):(l++m).getD i z=l.getD i z:=by
 rw[List.getD_eq_getElem?_getD,List.getElem?_append_left h,List.getD_eq_getElem?_getD]
theorem getD_last {α:Type}(l:List α)(x z:α):(l++[x]).getD l.length z=x:=by
 rw[List.getD_eq_getElem?_getD];simp
theorem AppW.push {w0 w w1:World}{base B:Nat}{v v' u:Value}{dss:List (List Dd)}{ds:List Dd}{vs:List Value}
  (hvs:vs.length=dss.length) (ho:w0.ownsRow base 72 1 v dss.length vs)
  (h3:∀i,i<dss.length→OwnD w0 base (vs.getD i vZ) (dss.getD i []))
  (h4:∀i,i<dss.length→dss.getD i []≠[]→(vs.getD i vZ).ownBlock≠v.ownBlock)
  (h5:∀i j,i<j→j<dss.length→dss.getD i []≠[]→dss.getD j []≠[]→(vs.getD i vZ).ownBlock≠(vs.getD j vZ).ownBlock)
  (k:Keep w0 w) (hB:w0.heap.size≤B) (hb:base≤B) (hu:OwnD w B u ds)
  (hown:w1.ownsRow base 72 1 v' (dss.length+1) (vs++[u])) (hgrow:w.grownBy w1 v.ownBlock) (hblk:v'.ownBlock=v.ownBlock∨v'.ownBlock=some w.heap.size):
  AppW w1 base v' (dss++[ds]):=by
 have old:∀i,i<dss.length→dss.getD i []≠[]→∃g,(vs.getD i vZ).ownBlock=some g∧g<w0.heap.size:=fun i hi hd=>by
  obtain⟨g,e,_,hl⟩:=(h3 i hi).blockIn hd;exact⟨g,e,hl⟩
 have vlt:∀g,v.ownBlock=some g→g<w0.heap.size:=fun g hg=>(World.ownsRow.lt ho g hg).2
 have new:ds≠[]→∃g,u.ownBlock=some g∧w0.heap.size≤g∧g<w.heap.size:=fun hd=>by
  obtain⟨g,e,hbg,hl⟩:=hu.blockIn hd;exact⟨g,e,Nat.le_trans hB hbg,hl⟩
 have ksz:=k.size;refine⟨vs++[u],by simp[hvs],by simpa using hown,?_,?_,?_⟩
 ·
  intro i hi;by_cases e:i<dss.length
  ·
   rw[getD_left vs [u] i vZ (by omega),getD_left dss [ds] i [] e];refine ((h3 i e).keep k).kept hgrow ?_;by_cases hd:dss.getD i []=[]
   · exact .inl hd
   · exact .inr (h4 i e hd)
  ·
   have:i=dss.length:=by simp at hi;omega
   subst this;rw[getD_last dss ds [],←hvs,getD_last vs u vZ];refine (hu.base_le hb).kept hgrow ?_;by_cases hd:ds=[]
   · exact .inl hd
   ·
    right;obtain⟨g,e,hl,_⟩:=new hd;rw[e];intro e';have:=vlt g e'.symm;omega
 ·
  intro i hi;by_cases e:i<dss.length
  ·
   rw[getD_left vs [u] i vZ (by omega),getD_left dss [ds] i [] e];intro hd;rcases hblk with hv|hv
   · rw[hv];exact h4 i e hd
   ·
    obtain⟨g,e1,hl⟩:=old i e hd;rw[hv,e1];simp only[ne_eq,Option.some.injEq];omega
  ·
   have:i=dss.length:=by simp at hi;omega
   subst this;rw[getD_last dss ds [],←hvs,getD_last vs u vZ];intro hd;obtain⟨g,e1,hl,hl2⟩:=new hd;rw[e1];rcases hblk with hv|hv
   ·
    rw[hv];intro e';have:=vlt g e'.symm;omega
   ·
    rw[hv];simp only[ne_eq,Option.some.injEq];omega
 ·
  intro i j hij hj;have hi:i<dss.length:=by simp at hj;omega
  rw[getD_left vs [u] i vZ (by omega),getD_left dss [ds] i [] hi];by_cases e:j<dss.length
  ·
   rw[getD_left vs [u] j vZ (by omega),getD_left dss [ds] j [] e];exact h5 i j hij e
  ·
   have:j=dss.length:=by simp at hj;omega
   subst this;rw[getD_last dss ds [],←hvs,getD_last vs u vZ];intro hd hd2;obtain⟨g,e1,hl⟩:=old i hi hd;obtain⟨g2,e2,hl2,_⟩:=new hd2;rw[e1,e2];simp only[ne_eq,Option.some.injEq];omega
def RdX (w:World)(base:Nat)(v:Value)(dss:List (List Dd)):Prop:=
 ∃(a:Option Addr) (cap:Nat),v = .slice a dss.length cap ∧
  (dss=[]∨∃b off,a=some ⟨b,off,none⟩∧base≤b∧b<w.heap.size∧∀i,i<dss.length→∃vi,w.cell? ⟨b,off+i,none⟩=some vi∧AppD w base vi (dss.getD i []))
theorem RdX.rd {w:World}{base:Nat}{v:Value}{dss:List (List Dd)}(h:RdX w base v dss):RdW w v dss:=by
 obtain⟨a,cap,hv,h⟩:=h;refine⟨a,cap,hv,?_⟩;rcases h with h|⟨b,off,ha,_,hb,hc⟩
 · exact .inl h
 ·
  refine .inr ⟨b,off,ha,hb,fun i hi=>?_⟩;obtain⟨vi,h1,h2⟩:=hc i hi;exact⟨vi,h1,h2.ownD.rd⟩
theorem RdX.keep {w w':World}{base:Nat}{v:Value}{dss:List (List Dd)}(h:RdX w base v dss)(k:Keep w w'):RdX w' base v dss:=by
 obtain⟨a,cap,hv,h⟩:=h;refine⟨a,cap,hv,?_⟩;rcases h with h|⟨b,off,ha,hbb,hb,hl⟩
 · exact .inl h
 ·
  refine .inr ⟨b,off,ha,hbb,Nat.lt_of_lt_of_le hb k.size,fun i hi=>?_⟩;obtain⟨vi,h1,h2⟩:=hl i hi;exact⟨vi,(k.cell hb).trans h1,h2.keep k⟩
def RdXN (w:World)(base N:Nat)(v:Value)(dss:List (List Dd)):Prop:=
 ∃(a:Option Addr) (cap:Nat),v = .slice a dss.length cap ∧
  (dss=[]∨∃b off,a=some ⟨b,off,none⟩∧base≤b∧b<N∧b<w.heap.size∧∀i,i<dss.length→∃vi,w.cell? ⟨b,off+i,none⟩=some vi∧AppD w base vi (dss.getD i [])∧∀k,vi.ownBlock=some k→k<N)
theorem RdX.upto {w:World}{base:Nat}{v:Value}{dss:List (List Dd)}(h:RdX w base v dss):RdXN w base w.heap.size v dss:=by
 obtain⟨a,cap,hv,h⟩:=h;refine⟨a,cap,hv,?_⟩;rcases h with h|⟨b,off,ha,hbb,hb,hl⟩
 · exact .inl h
 ·
  refine .inr ⟨b,off,ha,hbb,hb,hb,fun i hi=>?_⟩;obtain⟨vi,h1,h2⟩:=hl i hi;exact⟨vi,h1,h2,fun k hk=>(h2.lt k hk).2⟩
theorem RdXN.rd {w:World}{base N:Nat}{v:Value}{dss:List (List Dd)}(h:RdXN w base N v dss):RdW w v dss:=by
 obtain⟨a,cap,hv,h⟩:=h;refine⟨a,cap,hv,?_⟩;rcases h with h|⟨b,off,ha,_,_,hb,hc⟩
 · exact .inl h
 ·
  refine .inr ⟨b,off,ha,hb,fun i hi=>?_⟩;obtain⟨vi,h1,h2,_⟩:=hc i hi;exact⟨vi,h1,h2.ownD.rd⟩
theorem RdXN.kept {w w':World}{base N:Nat}{row:Option Nat}{v:Value}{dss:List (List Dd)}(h:RdXN w base N v dss)(hg:w.grownBy w' row)(hr:∀g,row=some g→g<base∨N≤g):RdXN w' base N v dss:=by
 obtain⟨a,cap,hv,h⟩:=h;refine⟨a,cap,hv,?_⟩;rcases h with h|⟨b,off,ha,hbb,hbN,hb,hl⟩
 · exact .inl h
 ·
  refine .inr ⟨b,off,ha,hbb,hbN,Nat.lt_of_lt_of_le hb hg.size,fun i hi=>?_⟩;obtain⟨vi,h1,h2,h3⟩:=hl i hi;have hblk:w'.heap[b]? = w.heap[b]?:=hg.block b hb (fun e=>by have:=hr b e.symm;omega);refine⟨vi,?_,h2.kept hg ?_,h3⟩
  ·
   simp only[World.cell?,hblk] at h1 ⊢;exact h1
  ·
   cases hu:vi.ownBlock with
   |none=>exact .inl rfl
   |some k=>exact .inr (fun e=>by have:=h2.ge k hu;have:=h3 k hu;have:=hr k e.symm;omega)
section
inductive BI where
 |bd|plc|lst|nts|nxt|sn|fr|rws
 |nt (c:Nat)
 |rw (p:Nat) deriving DecidableEq
abbrev nilS:Value:= .slice none 0 0
abbrev ivR (zs:List Int)(v:Value):Rw:=⟨2,1,v,zs.length,zs.map (Value.int .i64)⟩
abbrev nvR (ns:List Nt)(v:Value):Rw:=⟨66,3,v,ns.length,ns.flatMap cN⟩
abbrev hdR (t:TypeId)(vs:List Value)(v:Value):Rw:=⟨t,1,v,vs.length,vs⟩
abbrev bdR (D:Nat)(v:BV):Rw:=⟨29,8,.slice (some ⟨D,0,none⟩) 1 1,1,[v.W,v.P,v.L,v.N,v.X,v.S,v.F,v.R]⟩
def famR (D:Nat)(v:BV)(nv rv:List Value)(b:Bd):BI→Rw
 | .bd=>bdR D v
 | .plc=>ivR b.plc v.P
 | .lst=>ivR b.lst v.L
 | .nts=>hdR 36 nv v.N
 | .nxt=>ivR b.nxt v.X
 | .sn=>ivR b.sn v.S
 | .fr=>ivR b.fr v.F
 | .rws=>hdR 25 rv v.R
 | .nt c=>nvR (b.nts.getD c []) (nv.getD c nilS)
 | .rw p=>ivR (b.rws.getD p []) (rv.getD p nilS)
def liveB (nv rv:List Value):BI→Prop
 | .nt c=>c<nv.length
 | .rw p=>p<rv.length
 |_=>True
theorem Fam.new {ι:Type}[DecidableEq ι]{w w':World}{m:Nat}{live:ι→Prop}{R:ι→Rw}(h:Fam w m live R){i:ι}{r:Rw}(k:Keep w w')(hn:∀b,r.v.ownBlock=some b→w.heap.size≤b)(ho:r.own w' m):Fam w' m live (upd R i r):=by
 have hk:=h.keep k
 have new:∀j,live j→(R j).v.ownBlock=none∨(R j).v.ownBlock≠r.v.ownBlock:=fun j hj=>by
  cases e:(R j).v.ownBlock with
  |none=>exact .inl rfl
  |some b=>exact .inr (fun e'=>by have:=(h.lt hj b e).2;have:=hn b e'.symm;omega)
 refine⟨fun j hj=>?_,fun j l hj hl hjl=>?_⟩
 ·
  by_cases e:j=i
  · subst e;rw[upd_same];exact ho
  · rw[upd_other R r e];exact hk.own j hj
 ·
  by_cases ej:j=i
  ·
   subst ej;have el:l≠j:=fun e=>hjl e.symm
   rw[upd_same,upd_other R r el];rcases new l hl with h1|h1
   ·
    rw[h1]
    cases r.v.ownBlock with
    |none=>exact .inl rfl
    |some b=>exact .inr (by simp)
   · exact .inr (fun e=>h1 e.symm)
  ·
   rw[upd_other R r ej];by_cases el:l=i
   · subst el;rw[upd_same];exact new j hj
   · rw[upd_other R r el];exact h.apart j l hj hl hjl
structure OwnBd (w:World)(m D:Nat)(v:BV)(nv rv:List Value)(bs N:Nat)(dss:List (List Dd))(b:Bd):Prop where
 fam:Fam w m (liveB nv rv) (famR D v nv rv b)
 ln:nv.length=b.nts.length
 lr:rv.length=b.rws.length
 work:RdXN w bs N v.W dss
 top:N≤w.heap.size
 out:∀i,liveB nv rv i→∀k,(famR D v nv rv b i).v.ownBlock=some k→k<bs∨N≤k
def vB (D:Nat)(v:BV)(nv rv:List Value):BI→Value
 | .bd => .slice (some ⟨D,0,none⟩) 1 1
 | .plc=>v.P
 | .lst=>v.L
 | .nts=>v.N
 | .nxt=>v.X
 | .sn=>v.S
 | .fr=>v.F
 | .rws=>v.R
 | .nt c=>nv.getD c nilS
 | .rw p=>rv.getD p nilS
theorem famR_v (D:Nat)(v:BV)(nv rv:List Value)(b:Bd)(i:BI):(famR D v nv rv b i).v=vB D v nv rv i:=by cases i<;>rfl
def blkB (D:Nat)(v:BV)(nv rv:List Value)(g:Nat):Prop:=∃i,liveB nv rv i∧(vB D v nv rv i).ownBlock=some g
structure TurnB (w w':World)(F F':Nat→Prop):Prop where
 os:w'.os=w.os
 tape:w'.tape=w.tape
 output:w'.output=w.output
 size:w.heap.size≤w'.heap.size
 block:∀g,g<w.heap.size→¬F g→w'.heap[g]? = w.heap[g]?
 news:∀g,F' g→F g∨w.heap.size≤g
theorem TurnB.refl (w:World)(F:Nat→Prop):TurnB w w F F:=⟨rfl,rfl,rfl,Nat.le_refl _,fun _ _ _=>rfl,fun _ h => .inl h⟩
theorem TurnB.trans {a b c:World}{F G H:Nat→Prop}(h:TurnB a b F G)(k:TurnB b c G H):TurnB a c F H:=
 ⟨k.os.trans h.os,k.tape.trans h.tape,k.output.trans h.output,Nat.le_trans h.size k.size,fun g hg hF=>(k.block g (Nat.lt_of_lt_of_le hg h.size) (fun hG=>by
  rcases h.news g hG with h1|h1
  · exact hF h1
  · omega)).trans (h.block g hg hF),fun g hg=>by
  rcases k.news g hg with h1|h1
  · exact h.news g h1
  · exact .inr (Nat.le_trans h.size h1)⟩
theorem TurnB.keep {a w w':World}{F G:Nat→Prop}(h:TurnB a w F G)(k:Keep w w'):TurnB a w' F G:=
 h.trans ⟨Below.os k,Below.tape k,Below.output k,k.size,fun g hg _=>Below.block k g hg,fun _ h => .inl h⟩
theorem TurnB.grown {a w w':World}{F G:Nat→Prop}{row:Option Nat}(h:TurnB a w F G)(hg:w.grownBy w' row)(hr:∀k,row=some k→G k):TurnB a w' F G:=
 h.trans ⟨hg.os,hg.tape,hg.output,hg.size,fun g h1 h2=>hg.block g h1 (fun e=>h2 (hr g e.symm)),fun _ h => .inl h⟩
theorem TurnB.low {a w:World}{F G:Nat→Prop}{m:Nat}(h:TurnB a w F G)(hs:m≤a.heap.size)(hF:∀g,F g→m≤g):Below m a w:=
 ⟨h.os,h.tape,h.output,h.size,fun g hg=>h.block g (Nat.lt_of_lt_of_le hg hs) (fun e=>by have:=hF g e;omega)⟩
theorem TurnB.cell {a w:World}{F G:Nat→Prop}(h:TurnB a w F G){g j:Nat}(hg:g<a.heap.size)(hF:¬F g):w.cell? ⟨g,j,none⟩=a.cell? ⟨g,j,none⟩:=World.cell?_of_block (w:=a) (h.block g hg hF)
theorem TurnB.more {a w:World}{F G G':Nat→Prop}(h:TurnB a w F G)(hn:∀g,G' g→F g∨a.heap.size≤g):TurnB a w F G':=⟨h.os,h.tape,h.output,h.size,h.block,hn⟩
section
variable {w w':World} {m D:Nat} {v:BV} {nv rv:List Value} {bs N:Nat} {dss:List (List Dd)} {b:Bd}
theorem OwnBd.keep (h:OwnBd w m D v nv rv bs N dss b)(k:Keep w w'):OwnBd w' m D v nv rv bs N dss b:=
 ⟨h.fam.keep k,h.ln,h.lr,h.work.kept k.grownBy (by simp),Nat.le_trans h.top k.size,h.out⟩
theorem OwnBd.far (h:OwnBd w m D v nv rv bs N dss b){row:Option Nat}(hg:w.grownBy w' row)(hr:∀k,row=some k→k<m∧(k<bs∨N≤k)):OwnBd w' m D v nv rv bs N dss b:=
 ⟨h.fam.far hg (fun i hi=>by
  cases e:(famR D v nv rv b i).v.ownBlock with
  |none=>exact .inl rfl
  |some k=>exact .inr (fun e'=>by have:=(h.fam.lt hi k e).1;have:=hr k e'.symm;omega)),h.ln,h.lr,h.work.kept hg (fun g hg'=>(hr g hg').2),Nat.le_trans h.top hg.size,h.out⟩
theorem OwnBd.drewN (h:OwnBd w m D v nv rv bs N dss b)(n:Nat):OwnBd (w.drewN n) m D v nv rv bs N dss b:=h.keep ((Keep.refl w).drewN n)
theorem OwnBd.drew (h:OwnBd w m D v nv rv bs N dss b):OwnBd w.drew m D v nv rv bs N dss b:=h.keep (Keep.refl w).drew
theorem OwnBd.set (h:OwnBd w m D v nv rv bs N dss b)(i:BI)(hi:liveB nv rv i){r:Rw}(hg:w.grownBy w' (famR D v nv rv b i).v.ownBlock)
  (hb:r.v.ownBlock=(famR D v nv rv b i).v.ownBlock∨r.v.ownBlock=some w.heap.size∨r.v.ownBlock=none) (ho:r.own w' m)
  {v':BV} {nv' rv':List Value} {b':Bd} (hl:nv'.length=nv.length) (hl2:rv'.length=rv.length) (hn:b'.nts.length=b.nts.length) (hr:b'.rws.length=b.rws.length) (hW:v'.W=v.W)
  (hf:∀j,famR D v' nv' rv' b' j=upd (famR D v nv rv b) i r j):OwnBd w' m D v' nv' rv' bs N dss b':=by
 have hlive:∀j,liveB nv' rv' j→liveB nv rv j:=fun j=>by cases j<;>simp[liveB,hl,hl2]
 refine⟨(h.fam.set hi hg hb ho).congr hlive (fun j _=>hf j),by rw[hl,hn];exact h.ln,by rw[hl2,hr];exact h.lr,?_,Nat.le_trans h.top hg.size,fun j hj k hk=>?_⟩
 ·
  rw[hW];exact h.work.kept hg (fun g hg'=>h.out i hi g hg')
 ·
  rw[hf j] at hk;by_cases e:j=i
  ·
   subst e;rw[upd_same] at hk;rcases hb with hb|hb|hb
   · rw[hb] at hk;exact h.out j hi k hk
   ·
    rw[hb] at hk;have:=Option.some.inj hk;have:=h.top;right;omega
   · rw[hb] at hk;cases hk
  ·
   rw[upd_other _ _ e] at hk;exact h.out j (hlive j hj) k hk
theorem OwnBd.blk (h:OwnBd w m D v nv rv bs N dss b):∀g,blkB D v nv rv g→m≤g∧g<w.heap.size∧(g<bs∨N≤g):=fun g ⟨i,hi,e⟩=>by
 rw[←famR_v D v nv rv b i] at e;exact⟨(h.fam.lt hi g e).1,(h.fam.lt hi g e).2,h.out i hi g e⟩
theorem OwnBd.base (h:OwnBd w m D v nv rv bs N dss b):m≤D∧D<w.heap.size:=h.fam.lt (i:= .bd) trivial D rfl
theorem OwnBd.ge (h:OwnBd w m D v nv rv bs N dss b)(i:BI)(hi:liveB nv rv i):∀k,(famR D v nv rv b i).v.ownBlock=some k→m≤k:=fun k hk=>(h.fam.lt hi k hk).1
theorem OwnBd.cells (h:OwnBd w m D v nv rv bs N dss b):w.cell? ⟨D,0,none⟩=some v.W∧w.cell? ⟨D,1,none⟩=some v.P∧w.cell? ⟨D,2,none⟩=some v.L∧w.cell? ⟨D,3,none⟩=some v.N ∧
  w.cell? ⟨D,4,none⟩=some v.X∧w.cell? ⟨D,5,none⟩=some v.S∧w.cell? ⟨D,6,none⟩=some v.F∧w.cell? ⟨D,7,none⟩=some v.R:=by
 have o:=h.fam.own .bd trivial;have c:=fun j hj=>World.ownsRow.cellAt (show w.ownsRow m 29 8 (.slice (some ⟨D,0,none⟩) 1 1) 1 [v.W,v.P,v.L,v.N,v.X,v.S,v.F,v.R] from o) j hj
 exact⟨c 0 (by decide),c 1 (by decide),c 2 (by decide),c 3 (by decide),c 4 (by decide),c 5 (by decide),c 6 (by decide),c 7 (by decide)⟩
theorem OwnBd.free (h:OwnBd w m D v nv rv bs N dss b)(j:Nat):w.frozen? ⟨D,j,none⟩=false:=
 World.ownsRow.frozenAt (show w.ownsRow m 29 8 (.slice (some ⟨D,0,none⟩) 1 1) 1 [v.W,v.P,v.L,v.N,v.X,v.S,v.F,v.R] from h.fam.own .bd trivial) j
theorem OwnBd.oP (h:OwnBd w m D v nv rv bs N dss b):Own w m v.P b.plc:=h.fam.own .plc trivial
theorem OwnBd.oL (h:OwnBd w m D v nv rv bs N dss b):Own w m v.L b.lst:=h.fam.own .lst trivial
theorem OwnBd.oX (h:OwnBd w m D v nv rv bs N dss b):Own w m v.X b.nxt:=h.fam.own .nxt trivial
theorem OwnBd.oS (h:OwnBd w m D v nv rv bs N dss b):Own w m v.S b.sn:=h.fam.own .sn trivial
theorem OwnBd.oF (h:OwnBd w m D v nv rv bs N dss b):Own w m v.F b.fr:=h.fam.own .fr trivial
theorem OwnBd.oN (h:OwnBd w m D v nv rv bs N dss b){c:Nat}(hc:c<b.nts.length):AppT cN 66 3 w m (nv.getD c nilS) (b.nts.getD c []):=h.fam.own (.nt c) (by show c<nv.length;rw[h.ln];exact hc)
theorem OwnBd.oR (h:OwnBd w m D v nv rv bs N dss b){p:Nat}(hp:p<b.rws.length):Own w m (rv.getD p nilS) (b.rws.getD p []):=h.fam.own (.rw p) (by show p<rv.length;rw[h.lr];exact hp)
theorem own_head {t:TypeId}{u:Value}{vs:List Value}(o:(hdR t vs u).own w m):∃a cap,u = .slice a vs.length cap∧(vs=[]∨∃g,a=some ⟨g,0,none⟩∧g<w.heap.size∧∀i,i<vs.length→w.cell? ⟨g,i,none⟩=some (vs.getD i nilS)):=by
 have hlt:=World.ownsRow.lt o;have o':=o;rcases o.2 with ⟨h1,h2⟩|⟨g,cap,cur,h1,_⟩
 ·
  have:vs=[]:=List.eq_nil_of_length_eq_zero h2;subst this;exact⟨none,0,h1,.inl rfl⟩
 ·
  refine⟨some ⟨g,0,none⟩,cap,h1,.inr ⟨g,rfl,(hlt g (by show u.ownBlock=_;rw[show u=_ from h1];rfl)).2,fun i hi=>?_⟩⟩;have o2:w.ownsRow m t 1 (.slice (some ⟨g,0,none⟩) vs.length cap) vs.length vs:=by rw[←show u=_ from h1];exact o'
  rw[World.ownsRow.cellAt o2 i (by omega),List.getD_eq_getElem?_getD,List.getElem?_eq_getElem hi];rfl
theorem OwnBd.hN (h:OwnBd w m D v nv rv bs N dss b):∃a cap,v.N = .slice a b.nts.length cap∧(b.nts=[]∨∃g,a=some ⟨g,0,none⟩∧g<w.heap.size∧∀i,i<b.nts.length→w.cell? ⟨g,i,none⟩=some (nv.getD i nilS)):=by
 obtain⟨a,cap,e,h1⟩:=own_head (h.fam.own .nts trivial);rw[h.ln] at e;refine⟨a,cap,e,?_⟩;rcases h1 with h1|⟨g,e1,e2,e3⟩
 ·
  left;have:=h.ln;rw[h1] at this;exact List.eq_nil_of_length_eq_zero this.symm
 · exact .inr ⟨g,e1,e2,fun i hi=>e3 i (by rw[h.ln];exact hi)⟩
theorem OwnBd.hR (h:OwnBd w m D v nv rv bs N dss b):∃a cap,v.R = .slice a b.rws.length cap∧(b.rws=[]∨∃g,a=some ⟨g,0,none⟩∧g<w.heap.size∧∀i,i<b.rws.length→w.cell? ⟨g,i,none⟩=some (rv.getD i nilS)):=by
 obtain⟨a,cap,e,h1⟩:=own_head (h.fam.own .rws trivial);rw[h.lr] at e;refine⟨a,cap,e,?_⟩;rcases h1 with h1|⟨g,e1,e2,e3⟩
 ·
  left;have:=h.lr;rw[h1] at this;exact List.eq_nil_of_length_eq_zero this.symm
 · exact .inr ⟨g,e1,e2,fun i hi=>e3 i (by rw[h.lr];exact hi)⟩
theorem OwnBd.rd (h:OwnBd w m D v nv rv bs N dss b):RdBd w v dss b:=by
 refine⟨h.work.rd,h.oP.rd,h.oL.rd,?_,h.oX.rd,h.oS.rd,h.oF.rd,?_⟩
 ·
  obtain⟨a,cap,e,h1⟩:=h.hN;refine⟨a,cap,e,?_⟩;rcases h1 with h1|⟨g,e1,e2,e3⟩
  · exact .inl h1
  · exact .inr ⟨g,0,e1,e2,fun i hi=>⟨_,by rw[Nat.zero_add];exact e3 i hi,AppT.rd cN_len (h.oN hi)⟩⟩
 ·
  obtain⟨a,cap,e,h1⟩:=h.hR;refine⟨a,cap,e,?_⟩;rcases h1 with h1|⟨g,e1,e2,e3⟩
  · exact .inl h1
  · exact .inr ⟨g,0,e1,e2,fun i hi=>⟨_,by rw[Nat.zero_add];exact e3 i hi,(h.oR hi).rd⟩⟩
theorem iv_put {zs:List Int}{u:Value}{g cap k:Nat}{x:Int}(o:(ivR zs u).own w m)(hv:u = .slice (some ⟨g,0,none⟩) zs.length cap):(ivR (zs.set k x) u).own (w.setCell ⟨g,k,none⟩ (.int .i64 x)) m∧w.grownBy (w.setCell ⟨g,k,none⟩ (.int .i64 x)) u.ownBlock∧w.frozen? ⟨g,k,none⟩=false:=by
 obtain⟨h1,h2,h3⟩:=Rw.put o (g:=g) (cap:=cap) (k:=k) hv (.int .i64 x);refine⟨?_,h2,h3⟩
 have e:(ivR (zs.set k x) u)={ ivR zs u with xs:=(ivR zs u).xs.set k (.int .i64 x) }:=by
  simp[ivR,List.map_set]
 rw[e];exact h1
theorem OwnBd.putP (h:OwnBd w m D v nv rv bs N dss b){g cap k:Nat}{x:Int}(hv:v.P = .slice (some ⟨g,0,none⟩) b.plc.length cap):OwnBd (w.setCell ⟨g,k,none⟩ (.int .i64 x)) m D v nv rv bs N dss { b with plc:=b.plc.set k x }:=by
 obtain⟨h1,h2,_⟩:=iv_put (k:=k) (x:=x) (h.fam.own .plc trivial) hv;exact h.set .plc trivial (r:=ivR (b.plc.set k x) v.P) h2 (.inl rfl) h1 rfl rfl rfl rfl rfl (fun j=>by cases j<;>rfl)
theorem OwnBd.putL (h:OwnBd w m D v nv rv bs N dss b){g cap k:Nat}{x:Int}(hv:v.L = .slice (some ⟨g,0,none⟩) b.lst.length cap):OwnBd (w.setCell ⟨g,k,none⟩ (.int .i64 x)) m D v nv rv bs N dss { b with lst:=b.lst.set k x }:=by
 obtain⟨h1,h2,_⟩:=iv_put (k:=k) (x:=x) (h.fam.own .lst trivial) hv;exact h.set .lst trivial (r:=ivR (b.lst.set k x) v.L) h2 (.inl rfl) h1 rfl rfl rfl rfl rfl (fun j=>by cases j<;>rfl)
theorem OwnBd.putX (h:OwnBd w m D v nv rv bs N dss b){g cap k:Nat}{x:Int}(hv:v.X = .slice (some ⟨g,0,none⟩) b.nxt.length cap):OwnBd (w.setCell ⟨g,k,none⟩ (.int .i64 x)) m D v nv rv bs N dss { b with nxt:=b.nxt.set k x }:=by
 obtain⟨h1,h2,_⟩:=iv_put (k:=k) (x:=x) (h.fam.own .nxt trivial) hv;exact h.set .nxt trivial (r:=ivR (b.nxt.set k x) v.X) h2 (.inl rfl) h1 rfl rfl rfl rfl rfl (fun j=>by cases j<;>rfl)
theorem OwnBd.putS (h:OwnBd w m D v nv rv bs N dss b){g cap k:Nat}{x:Int}(hv:v.S = .slice (some ⟨g,0,none⟩) b.sn.length cap):OwnBd (w.setCell ⟨g,k,none⟩ (.int .i64 x)) m D v nv rv bs N dss { b with sn:=b.sn.set k x }:=by
 obtain⟨h1,h2,_⟩:=iv_put (k:=k) (x:=x) (h.fam.own .sn trivial) hv;exact h.set .sn trivial (r:=ivR (b.sn.set k x) v.S) h2 (.inl rfl) h1 rfl rfl rfl rfl rfl (fun j=>by cases j<;>rfl)
theorem OwnBd.putF (h:OwnBd w m D v nv rv bs N dss b){g cap k:Nat}{x:Int}(hv:v.F = .slice (some ⟨g,0,none⟩) b.fr.length cap):OwnBd (w.setCell ⟨g,k,none⟩ (.int .i64 x)) m D v nv rv bs N dss { b with fr:=b.fr.set k x }:=by
 obtain⟨h1,h2,_⟩:=iv_put (k:=k) (x:=x) (h.fam.own .fr trivial) hv;exact h.set .fr trivial (r:=ivR (b.fr.set k x) v.F) h2 (.inl rfl) h1 rfl rfl rfl rfl rfl (fun j=>by cases j<;>rfl)
theorem getD_setV {α:Type}(l:List α)(k:Nat)(x z:α)(hk:k<l.length)(j:Nat):(l.set k x).getD j z=if j=k then x else l.getD j z:=by
 rw[List.getD_eq_getElem?_getD,List.getD_eq_getElem?_getD,List.getElem?_set];by_cases e:k=j
 · subst e;simp[hk]
 · rw[if_neg e,if_neg (fun h=>e h.symm)]
theorem OwnBd.stay (h:OwnBd w m D v nv rv bs N dss b)(i:BI)(hi:liveB nv rv i)(hb:i≠.bd)(hg:w.grownBy w' (famR D v nv rv b i).v.ownBlock)(j:Nat):w'.cell? ⟨D,j,none⟩=w.cell? ⟨D,j,none⟩:=by
 have hne:some D≠(famR D v nv rv b i).v.ownBlock:=by
  rcases h.fam.apart .bd i trivial hi (fun e=>hb e.symm) with e|e
  · cases e
  · exact e
 exact World.cell?_of_block (w:=w) (hg.block D h.base.2 hne)
theorem OwnBd.headR (h:OwnBd w m D v nv rv bs N dss b){p:Nat}(hp:p<b.rws.length){u:Value}{zs:List Int}(hg:w.grownBy w' (rv.getD p nilS).ownBlock)
  (hb:u.ownBlock=(rv.getD p nilS).ownBlock∨u.ownBlock=some w.heap.size∨u.ownBlock=none) (ho:Own w' m u zs) {g cap:Nat} (hv:v.R = .slice (some ⟨g,0,none⟩) b.rws.length cap):
  OwnBd (w'.setCell ⟨g,p,none⟩ u) m D v nv (rv.set p u) bs N dss { b with rws:=b.rws.set p zs }∧w'.cell? ⟨g,p,none⟩=some (rv.getD p nilS)∧w'.frozen? ⟨g,p,none⟩=false:=by
 have hp':p<rv.length:=by rw[h.lr];exact hp
 have hv':v.R = .slice (some ⟨g,0,none⟩) rv.length cap:=by rw[h.lr];exact hv
 have F1:=h.fam.set (i:= .rw p) hp' (r:=ivR zs u) hg hb ho;have o1:(hdR 25 rv v.R).own w' m:=by have:=F1.own .rws trivial;rw[upd_other _ _ (by simp)] at this;exact this
 obtain⟨q1,q2,q3⟩:=Rw.put o1 (g:=g) (cap:=cap) (k:=p) hv' u;have F2:=F1.set (i:= .rws) trivial (r:={ hdR 25 rv v.R with xs:=rv.set p u }) (by rw[upd_other _ _ (by simp)];exact q2) (.inl (by rw[upd_other _ _ (by simp)];rfl)) q1
 have hf:∀j,famR D v nv (rv.set p u) { b with rws:=b.rws.set p zs } j=upd (upd (famR D v nv rv b) (.rw p) (ivR zs u)) .rws { hdR 25 rv v.R with xs:=rv.set p u } j:=fun j=>by
  cases j with
  |rws=>
   rw[upd_same];simp[famR,hdR]
  |rw q=>
   rw[upd_other _ _ (by simp)];show ivR ((b.rws.set p zs).getD q []) ((rv.set p u).getD q nilS)=_;rw[getD_setV _ _ _ _ hp,getD_setV _ _ _ _ hp'];by_cases e:q=p
   · subst e;rw[upd_same];simp
   · rw[upd_other _ _ (by simpa using e),if_neg e,if_neg e];rfl
  |_=>rw[upd_other _ _ (by simp),upd_other _ _ (by simp)];rfl
 refine⟨⟨F2.congr (fun j=>by cases j<;>simp[liveB]) (fun j _=>hf j),h.ln,by simpa using h.lr,?_,?_,fun j hj k hk=>?_⟩,?_,q3⟩
 · exact (h.work.kept hg (fun g' hg'=>h.out (.rw p) hp' g' hg')).kept q2 (fun g' hg'=>h.out .rws trivial g' hg')
 · exact Nat.le_trans h.top (Nat.le_trans hg.size q2.size)
 ·
  rw[hf j] at hk;by_cases e:j = .rws
  ·
   subst e;rw[upd_same] at hk;exact h.out .rws trivial k hk
  ·
   rw[upd_other _ _ e] at hk;by_cases e2:j = .rw p
   ·
    subst e2;rw[upd_same] at hk;rcases hb with hb|hb|hb
    · rw[show (ivR zs u).v.ownBlock=u.ownBlock from rfl,hb] at hk;exact h.out (.rw p) hp' k hk
    ·
     rw[show (ivR zs u).v.ownBlock=u.ownBlock from rfl,hb] at hk;have:=Option.some.inj hk;have:=h.top;right;omega
    · rw[show (ivR zs u).v.ownBlock=u.ownBlock from rfl,hb] at hk;cases hk
   ·
    rw[upd_other _ _ e2] at hk;exact h.out j (by cases j<;>simp[liveB] at hj ⊢<;>exact hj) k hk
 ·
  have:=Rw.cell o1 (g:=g) (cap:=cap) (k:=p) hv' (by show p<rv.length*1;omega);rw[this,List.getD_eq_getElem?_getD];show rv[p]? = _;rw[List.getElem?_eq_getElem hp'];rfl
theorem OwnBd.headN (h:OwnBd w m D v nv rv bs N dss b){c:Nat}(hc:c<b.nts.length){u:Value}{ns:List Nt}(hg:w.grownBy w' (nv.getD c nilS).ownBlock)
  (hb:u.ownBlock=(nv.getD c nilS).ownBlock∨u.ownBlock=some w.heap.size∨u.ownBlock=none) (ho:AppT cN 66 3 w' m u ns) {g cap:Nat} (hv:v.N = .slice (some ⟨g,0,none⟩) b.nts.length cap):
  OwnBd (w'.setCell ⟨g,c,none⟩ u) m D v (nv.set c u) rv bs N dss { b with nts:=b.nts.set c ns }∧w'.cell? ⟨g,c,none⟩=some (nv.getD c nilS)∧w'.frozen? ⟨g,c,none⟩=false:=by
 have hc':c<nv.length:=by rw[h.ln];exact hc
 have hv':v.N = .slice (some ⟨g,0,none⟩) nv.length cap:=by rw[h.ln];exact hv
 have F1:=h.fam.set (i:= .nt c) hc' (r:=nvR ns u) hg hb ho;have o1:(hdR 36 nv v.N).own w' m:=by have:=F1.own .nts trivial;rw[upd_other _ _ (by simp)] at this;exact this
 obtain⟨q1,q2,q3⟩:=Rw.put o1 (g:=g) (cap:=cap) (k:=c) hv' u;have F2:=F1.set (i:= .nts) trivial (r:={ hdR 36 nv v.N with xs:=nv.set c u }) (by rw[upd_other _ _ (by simp)];exact q2) (.inl (by rw[upd_other _ _ (by simp)];rfl)) q1
 have hf:∀j,famR D v (nv.set c u) rv { b with nts:=b.nts.set c ns } j=upd (upd (famR D v nv rv b) (.nt c) (nvR ns u)) .nts { hdR 36 nv v.N with xs:=nv.set c u } j:=fun j=>by
  cases j with
  |nts=>
   rw[upd_same];simp[famR,hdR]
  |nt q=>
   rw[upd_other _ _ (by simp)];show nvR ((b.nts.set c ns).getD q []) ((nv.set c u).getD q nilS)=_;rw[getD_setV _ _ _ _ hc,getD_setV _ _ _ _ hc'];by_cases e:q=c
   · subst e;rw[upd_same];simp
   · rw[upd_other _ _ (by simpa using e),if_neg e,if_neg e];rfl
  |_=>rw[upd_other _ _ (by simp),upd_other _ _ (by simp)];rfl
 refine⟨⟨F2.congr (fun j=>by cases j<;>simp[liveB]) (fun j _=>hf j),by simpa using h.ln,h.lr,?_,?_,fun j hj k hk=>?_⟩,?_,q3⟩
 · exact (h.work.kept hg (fun g' hg'=>h.out (.nt c) hc' g' hg')).kept q2 (fun g' hg'=>h.out .nts trivial g' hg')
 · exact Nat.le_trans h.top (Nat.le_trans hg.size q2.size)
 ·
  rw[hf j] at hk;by_cases e:j = .nts
  ·
   subst e;rw[upd_same] at hk;exact h.out .nts trivial k hk
  ·
   rw[upd_other _ _ e] at hk;by_cases e2:j = .nt c
   ·
    subst e2;rw[upd_same] at hk;rcases hb with hb|hb|hb
    · rw[show (nvR ns u).v.ownBlock=u.ownBlock from rfl,hb] at hk;exact h.out (.nt c) hc' k hk
    ·
     rw[show (nvR ns u).v.ownBlock=u.ownBlock from rfl,hb] at hk;have:=Option.some.inj hk;have:=h.top;right;omega
    · rw[show (nvR ns u).v.ownBlock=u.ownBlock from rfl,hb] at hk;cases hk
   ·
    rw[upd_other _ _ e2] at hk;exact h.out j (by cases j<;>simp[liveB] at hj ⊢<;>exact hj) k hk
 ·
  have:=Rw.cell o1 (g:=g) (cap:=cap) (k:=c) hv' (by show c<nv.length*1;omega);rw[this,List.getD_eq_getElem?_getD];show nv[c]? = _;rw[List.getElem?_eq_getElem hc'];rfl
theorem OwnBd.headNew (h:OwnBd w m D v nv rv bs N dss b){c:Nat}(hc:c<b.nts.length){u:Value}{ns:List Nt}(kw:Keep w w')
  (hb:∀k,u.ownBlock=some k→w.heap.size≤k) (ho:AppT cN 66 3 w' m u ns) {g cap:Nat} (hv:v.N = .slice (some ⟨g,0,none⟩) b.nts.length cap):
  OwnBd (w'.setCell ⟨g,c,none⟩ u) m D v (nv.set c u) rv bs N dss { b with nts:=b.nts.set c ns }∧w'.cell? ⟨g,c,none⟩=some (nv.getD c nilS)∧w'.frozen? ⟨g,c,none⟩=false:=by
 have hc':c<nv.length:=by rw[h.ln];exact hc
 have hv':v.N = .slice (some ⟨g,0,none⟩) nv.length cap:=by rw[h.ln];exact hv
 have F1:=h.fam.new (i:= .nt c) (r:=nvR ns u) kw hb ho;have o1:(hdR 36 nv v.N).own w' m:=by have:=F1.own .nts trivial;rw[upd_other _ _ (by simp)] at this;exact this
 obtain⟨q1,q2,q3⟩:=Rw.put o1 (g:=g) (cap:=cap) (k:=c) hv' u;have F2:=F1.set (i:= .nts) trivial (r:={ hdR 36 nv v.N with xs:=nv.set c u }) (by rw[upd_other _ _ (by simp)];exact q2) (.inl (by rw[upd_other _ _ (by simp)];rfl)) q1
 have hf:∀j,famR D v (nv.set c u) rv { b with nts:=b.nts.set c ns } j=upd (upd (famR D v nv rv b) (.nt c) (nvR ns u)) .nts { hdR 36 nv v.N with xs:=nv.set c u } j:=fun j=>by
  cases j with
  |nts=>
   rw[upd_same];simp[famR,hdR]
  |nt q=>
   rw[upd_other _ _ (by simp)];show nvR ((b.nts.set c ns).getD q []) ((nv.set c u).getD q nilS)=_;rw[getD_setV _ _ _ _ hc,getD_setV _ _ _ _ hc'];by_cases e:q=c
   · subst e;rw[upd_same];simp
   · rw[upd_other _ _ (by simpa using e),if_neg e,if_neg e];rfl
  |_=>rw[upd_other _ _ (by simp),upd_other _ _ (by simp)];rfl
 refine⟨⟨F2.congr (fun j=>by cases j<;>simp[liveB]) (fun j _=>hf j),by simpa using h.ln,h.lr,?_,?_,fun j hj k hk=>?_⟩,?_,q3⟩
 · exact (h.work.kept kw.grownBy (by simp)).kept q2 (fun g' hg'=>h.out .nts trivial g' hg')
 · exact Nat.le_trans h.top (Nat.le_trans kw.size q2.size)
 ·
  rw[hf j] at hk;by_cases e:j = .nts
  ·
   subst e;rw[upd_same] at hk;exact h.out .nts trivial k hk
  ·
   rw[upd_other _ _ e] at hk;by_cases e2:j = .nt c
   ·
    subst e2;rw[upd_same] at hk;have:=hb k hk;have:=h.top;right;omega
   ·
    rw[upd_other _ _ e2] at hk;exact h.out j (by cases j<;>simp[liveB] at hj ⊢<;>exact hj) k hk
 ·
  have:=Rw.cell o1 (g:=g) (cap:=cap) (k:=c) hv' (by show c<nv.length*1;omega);rw[this,List.getD_eq_getElem?_getD];show nv[c]? = _;rw[List.getElem?_eq_getElem hc'];rfl
theorem blk_setN {c:Nat}(hc:c<nv.length){u:Value}{g:Nat}(hg:blkB D v (nv.set c u) rv g):blkB D v nv rv g∨u.ownBlock=some g:=by
 obtain⟨i,hi,e⟩:=hg
 cases i with
 |nt q=>
  have hq:q<nv.length:=by simpa [liveB] using hi
  have e:((nv.set c u).getD q nilS).ownBlock=some g:=e;by_cases eq:q=c
  ·
   subst eq;rw[getD_setV _ _ _ _ hq,if_pos rfl] at e;exact .inr e
  ·
   rw[getD_setV _ _ _ _ hc,if_neg eq] at e;exact .inl ⟨.nt q,hq,e⟩
 |rw q=>exact .inl ⟨.rw q,hi,e⟩
 |bd=>exact .inl ⟨.bd,trivial,e⟩
 |plc=>exact .inl ⟨.plc,trivial,e⟩
 |lst=>exact .inl ⟨.lst,trivial,e⟩
 |nts=>exact .inl ⟨.nts,trivial,e⟩
 |nxt=>exact .inl ⟨.nxt,trivial,e⟩
 |sn=>exact .inl ⟨.sn,trivial,e⟩
 |fr=>exact .inl ⟨.fr,trivial,e⟩
 |rws=>exact .inl ⟨.rws,trivial,e⟩
end
end
theorem board_info:(Try.prog.info? 29).map (·.size)=some 8:=by kernel_rfl
theorem grown_row3 (w:World)(g:Nat)(cs:Array Value):w.grownBy (w.setRow g cs) (some g):=
 ⟨rfl,rfl,rfl,by simp,fun k _ hk=>by
  unfold World.setRow;have hk':k≠g:=fun e=>hk (by rw[e])
  rw[Array.getElem?_modify]
  simp[hk'.symm]⟩
theorem setRow_at (w:World)(g:Nat)(t:TypeId)(old cs:Array Value)(fr:Nat×Nat)(h:w.heap[g]? = some (.cells old t fr)):(w.setRow g cs).heap[g]? = some (.cells cs t fr):=setRow_heap w g old cs t fr h
theorem box_own (w:World){m:Nat}(hm:m≤w.heap.size):Rw.own (w.alloc (.cells #[nilS,nilS,nilS,nilS,nilS,nilS,nilS,nilS] 29)) m ⟨29,8,.slice (some ⟨w.heap.size,0,none⟩) 1 1,1,[nilS,nilS,nilS,nilS,nilS,nilS,nilS,nilS]⟩:=
 ⟨rfl,.inr ⟨w.heap.size,1,_,rfl,hm,heap_alloc_new w _,Nat.le_refl _,by unfold maxLen;decide,rfl,rfl⟩⟩
theorem box_put {w:World}{m D:Nat}{cs:List Value}{v:BV}(h:Rw.own w m ⟨29,8,.slice (some ⟨D,0,none⟩) 1 1,1,cs⟩):(∃old:Array Value,w.heap[D]? = some (.cells old 29 (0,0))∧old.size=8)∧(bdR D v).own (w.setRow D v.arr) m:=by
 rcases h.2 with ⟨e,_⟩|⟨g,cap,cur,e,hb,hg,hn,hm,hs,ht⟩
 · cases e
 ·
  simp only[Value.slice.injEq,Option.some.injEq,Addr.mk.injEq,and_true,true_and] at e;obtain⟨rfl,rfl⟩:=e;exact⟨⟨cur,hg,hs⟩,rfl,.inr ⟨D,1,v.arr,rfl,hb,setRow_at w D _ _ _ _ hg,Nat.le_refl _,hm,rfl,rfl⟩⟩
theorem Try.infoNl:(Try.prog.info? 36).map (fun i=>(i.zero,i.size,i.bytes))=some (some (.slice none 0 0),1,24):=by kernel_rfl
theorem Try.infoIl:(Try.prog.info? 25).map (fun i=>(i.zero,i.size,i.bytes))=some (some (.slice none 0 0),1,24):=by kernel_rfl
theorem own_base {w:World}{m m':Nat}{e:TypeId}{n:Nat}{v:Value}{k:Nat}{xs:List Value}(o:w.ownsRow m e n v k xs)(hm:m'≤m):w.ownsRow m' e n v k xs:=by
 refine⟨o.1,?_⟩;rcases o.2 with q|⟨g,cap,cur,e,hg,r⟩
 · exact .inl q
 · exact .inr ⟨g,cap,cur,e,Nat.le_trans hm hg,r⟩
theorem eventsB_len9 (dss:List (List Dd)):(eventsB dss).length≤9:=by
 unfold eventsB;split
 ·
  rename_i h;simp only[workB,Bool.and_eq_true,decide_eq_true_eq] at h;obtain⟨⟨⟨⟨_,h2⟩,_⟩,h4⟩,_⟩:=h;have:=evsW_len (fun i hi=>all_get [] h2 i hi) dss.length (Nat.le_refl _);omega
 · simp
def nxD (dss:List (List Dd))(b:Bd)(c:Nat):Dd:=if nxN b c<(dss.getD c []).length then dAt dss c (nxN b c) else zD
def nxI (dss:List (List Dd))(b:Bd)(c:Nat):Bool:=decide (nxN b c<(dss.getD c []).length)
structure NxOk (dss:List (List Dd))(b:Bd)(c:Nat):Prop where
 ck:c<dss.length
 l:b.nxt.length=dss.length
 n0:0≤b.nxt.getD c 0
 n1:b.nxt.getD c 0≤((dss.getD c []).length:Int)
 top:(dss.getD c []).length≤1048576
theorem l15Next_any (w:World)(v:BV)(dss:List (List Dd))(b:Bd)(c:Nat)(h:RdBd w v dss b)(hc:NxOk dss b c):
  Calls Try.prog 77 #[v.agg,.int .i64 c] w fun e w'=>e = .returned (.tuple #[dV (nxD dss b c),.bool (nxI dss b c)])∧Keep w w':=by
 obtain⟨aW,aP,aL,aN,aX,aS,aF,aR,cW,cP,cL,cN,cX,cS,cF,cR,rfl⟩:=h.shapes;obtain⟨hcl,hl,hn0,hn1,htop⟩:=hc;have hcx:c<b.nxt.length:=by omega
 have KW:Keep w ((w.alloc (.cells #[.slice aW dss.length cW,.slice aP b.plc.length cP,.slice aL b.lst.length cL,.slice aN b.nts.length cN,.slice aX b.nxt.length cX,.slice aS b.sn.length cS,.slice aF b.fr.length cF,.slice aR b.rws.length cR] 29)).alloc (.cells #[.int .i64 0,.int .i64 0,.int .i64 0,.int .i64 0] 98)):=((Keep.refl w).alloc _).alloc _;have h':=h.keep KW;obtain⟨a',c',he',hX⟩:=h'.X;simp only[Value.slice.injEq,true_and] at he';obtain⟨rfl,rfl⟩:=he';rcases hX with h0|⟨bx,ox,rfl,hbx,hcx'⟩
 · exfalso;rw[h0] at hcx;simp at hcx
 obtain⟨a',c',he',hW⟩:=h'.W;simp only[Value.slice.injEq,true_and] at he';obtain⟨rfl,rfl⟩:=he';rcases hW with h0|⟨bw,ow,rfl,hbw,hcw⟩
 · exfalso;rw[h0] at hcl;simp at hcl
 obtain⟨vd,d3,r3⟩:=hcw c hcl;obtain⟨k,hk⟩:=Int.eq_ofNat_of_zero_le hn0;have d1:=hcx' c hcx;rw[hk] at d1 hn1;have hkN:nxN b c=k:=by unfold nxN;rw[hk,Int.toNat_natCast]
 have HB:Hid (nxI dss b c=decide (k<(dss.getD c []).length)):=Lib.hid (by rw[nxI,hkN]);have HD:Hid (nxD dss b c=if k<(dss.getD c []).length then dAt dss c k else zD):=Lib.hid (by rw[nxD,hkN]);generalize nxD dss b c=ND at HD ⊢;generalize nxI dss b c=NI at HB ⊢;obtain⟨ad,cd,rfl,r3⟩:=r3;unfold dAt at HD;generalize dss.getD c []=ds at *;have j1:(0:Int)≤(c:Int):=Int.natCast_nonneg _;have j2:(c:Int)<(b.nxt.length:Int):=by omega
 have j3:(c:Int)<(dss.length:Int):=by omega
 have k1:(0:Int)≤(k:Int):=Int.natCast_nonneg _;clear hcw hcx' h h' hkN hl;by_cases hlt:k<ds.length
 ·
  have HB:Hid (NI=true):=Lib.hid (by rw[HB.out,decide_eq_true hlt]);have HD:Hid (ND=ds.getD k zD):=Lib.hid (by rw[HD.out,if_pos hlt]);rcases r3 with h0|⟨bd,od,rfl,hbd,hcd⟩
  · exfalso;rw[h0] at hlt;simp at hlt
  obtain⟨q0,q1,q2,q3⟩:=hcd k hlt;generalize ds.getD k zD=y at q0 q1 q2 q3 HD;obtain⟨y0,y1,y2,y3⟩:=y;simp only at q0 q1 q2 q3;have k2:(k:Int)<(ds.length:Int):=by omega
  have k3:((k:Int)==(ds.length:Int))=false:=by simp;omega
  clear hcd hn1;go_enter Try.func77,Try.ntmps77
  go_wp2;refine bodyPost_ret (results_row_tmp (by rfl) _ _ (w.heap.size+1) 98 #[.int .i64 y0,.int .i64 y1,.int .i64 y2,.int .i64 y3] (0,0) _ (.bool true) rfl (by rw[heap_at,if_pos (by rw[heap_size])]) rfl Try.underlying98 rfl (by kernel_rfl)) rfl ?_;exact⟨by rw[HD.out,HB.out],((Keep.refl w).alloc _).alloc _⟩
 ·
  have HB2:Hid (NI=false):=Lib.hid (by rw[HB.out,decide_eq_false hlt]);have HD2:Hid (ND=zD):=Lib.hid (by rw[HD.out,if_neg hlt]);obtain rfl:k=ds.length:=by omega
  have k3:((ds.length:Int)==(ds.length:Int))=true:=by simp
  clear hn1 HB HD;go_enter Try.func77,Try.ntmps77
  go_wp2;refine bodyPost_ret (results_row_tmp (by rfl) _ _ (w.heap.size+1) 98 #[.int .i64 0,.int .i64 0,.int .i64 0,.int .i64 0] (0,0) _ (.bool false) rfl (by rw[heap_at,if_pos (by rw[heap_size])]) rfl Try.underlying98 rfl (by kernel_rfl)) rfl ?_;exact⟨by rw[HD2.out,HB2.out];rfl,((Keep.refl w).alloc _).alloc _⟩
structure PsOk (dss:List (List Dd))(b:Bd):Prop where
 n:b.nts.length=dss.length
 x:b.nxt.length=dss.length
 m:dss.length≤1048576
 each:∀c,c<dss.length→0≤b.nxt.getD c 0∧b.nxt.getD c 0≤((dss.getD c []).length:Int)∧(dss.getD c []).length≤1048576∧(b.nts.getD c []).length≤1048576
theorem PsOk.nx {dss:List (List Dd)}{b:Bd}(h:PsOk dss b){c:Nat}(hc:c<dss.length):NxOk dss b c:=
 ⟨hc,h.x,(h.each c hc).1,(h.each c hc).2.1,(h.each c hc).2.2.1⟩
theorem can_next (dss:List (List Dd))(b:Bd)(c:Nat):canM dss b c=(nxI dss b c&&((decide ((nxD dss b c).1≤2)&&decide ((nxD dss b c).2.2.2=0))||(b.nts.getD c []).isEmpty)):=by
 unfold canM nxI nxD gAt;by_cases h:nxN b c<(dss.getD c []).length
 · rw[if_pos h,decide_eq_true h]
 · rw[decide_eq_false h];rfl
theorem l15Can_any (w:World)(v:BV)(dss:List (List Dd))(b:Bd)(c:Nat)(h:RdBd w v dss b)(hp:PsOk dss b)(hc:c<dss.length):
  Calls Try.prog 36 #[v.agg,.int .i64 c] w fun e w'=>e = .returned (.bool (canM dss b c))∧Keep w w':=by
 have C:=fun (W:World) (kW:Keep w W)=>l15Next_any W v dss b c (h.keep kW) (hp.nx hc)
 have HC:Hid (canM dss b c=(nxI dss b c&&((decide ((nxD dss b c).1≤2)&&decide ((nxD dss b c).2.2.2=0))||(b.nts.getD c []).isEmpty))):=Lib.hid (can_next dss b c);have hcn:c<b.nts.length:=by rw[hp.n];exact hc
 have hN:=h.N;obtain⟨aW,aP,aL,aN,aX,aS,aF,aR,cW,cP,cL,cN,cX,cS,cF,cR,rfl⟩:=h.shapes;obtain⟨a',c',he',hN⟩:=hN;simp only[Value.slice.injEq,true_and] at he';obtain⟨rfl,rfl⟩:=he';rcases hN with h0|⟨bn,on,rfl,hbn,hcn'⟩
 · exfalso;rw[h0] at hcn;simp at hcn
 obtain⟨vn,d3,r3⟩:=hcn' c hcn;obtain⟨an,cn,rfl,-⟩:=r3;generalize canM dss b c=ANS at HC ⊢;generalize nxD dss b c=D at C HC;generalize nxI dss b c=I at C HC;generalize b.nts.getD c []=ns at *;obtain⟨y0,y1,y2,y3⟩:=D;simp only at HC;have j1:(0:Int)≤(c:Int):=Int.natCast_nonneg _;have j2:(c:Int)<(b.nts.length:Int):=by omega
 clear hcn' h;go_enter Try.func36,Try.ntmps36
 go_wp2_with fail
 refine (C _ ((Keep.refl w).alloc _)).mono ?_;rintro e w1 ⟨rfl,k1⟩;have K1:=((Keep.refl w).alloc _).trans k1;have e3:w1.cell? ⟨w.heap.size,3,none⟩=some (.slice (some ⟨bn,on,none⟩) b.nts.length cN):=box_cell k1 3;have d4:=(K1.cell hbn).trans d3;have s1:=K1.size;have z1:w.heap.size<w1.heap.size:=by have:=k1.size;simp at this;omega
 have z2:bn<w1.heap.size:=Nat.lt_of_lt_of_le hbn s1;have e5:(w1.alloc (.cells #[.int .i64 y0,.int .i64 y1,.int .i64 y2,.int .i64 y3] 98)).cell? ⟨w.heap.size,3,none⟩=some (.slice (some ⟨bn,on,none⟩) b.nts.length cN):=(((Keep.refl w1).alloc _).cell z1).trans e3;have e6:(w1.alloc (.cells #[.int .i64 y0,.int .i64 y1,.int .i64 y2,.int .i64 y3] 98)).cell? ⟨bn,on+c,none⟩=some (.slice an ns.length (ns.length+cn)):=(((Keep.refl w1).alloc _).cell z2).trans d4;clear C d3;cases I
 ·
  have HE:Hid (ANS=false):=Lib.hid (by rw[HC.out];rfl);go_wp2;go_ret;exact⟨by rw[HE.out];rfl,K1.alloc _⟩
 ·
  by_cases h2:y0≤2
  ·
   by_cases h0:y3=0
   ·
    have HE:Hid (ANS=true):=Lib.hid (by rw[HC.out,decide_eq_true h2,decide_eq_true h0];rfl);have b0:(y3==0)=true:=by simp[h0]
    clear HC;subst h0;go_wp2;go_ret;exact⟨by rw[HE.out];rfl,K1.alloc _⟩
   ·
    have HE:Hid (ANS=ns.isEmpty):=Lib.hid (by rw[HC.out,decide_eq_true h2,decide_eq_false h0];simp);have b0:(y3==0)=false:=by simp[h0]
    have HQ:Hid (((ns.length:Int)==0)=ns.isEmpty):=Lib.hid (by cases ns<;>simp;omega);clear HC;go_wp2;go_ret;exact⟨by rw[HE.out,←HQ.out];rfl,K1.alloc _⟩
  ·
   have HE:Hid (ANS=ns.isEmpty):=Lib.hid (by rw[HC.out,decide_eq_false h2];simp);have HQ:Hid (((ns.length:Int)==0)=ns.isEmpty):=Lib.hid (by cases ns<;>simp;omega);have h2':¬(y0≤2):=h2;clear HC;go_wp2;go_ret;exact⟨by rw[HE.out,←HQ.out];rfl,K1.alloc _⟩
theorem ps_of {dss:List (List Dd)}{b:Bd}(h:boardB dss b=true):PsOk dss b:=by
 have S:=Shp.of h;have u:=workB_useR S.work;refine⟨S.nts,S.nxt,by omega,fun c hc=>?_⟩;have h1:=board_clerk h hc;have h2:=u.2 c hc;simp only[okL,Bool.and_eq_true,decide_eq_true_eq] at h2;have h3:=S.nl c;exact⟨h1.1,h1.2,by omega,by omega⟩
section
theorem tf_no {x:Bool}{C:Prop}(h:x=true)(q:x=false):C:=absurd (h.symm.trans q) (by simp)
def updB (B:Nat→Bool)(i:Nat):Nat→Bool:=fun k=>if k=i then true else B k
def liveM (rows:List Nat)(B:Nat→Bool)(j:Nat):Prop:=j∈rows∧B j=true
theorem liveM_upd {rows:List Nat}{B:Nat→Bool}{i j:Nat}(h:liveM rows (updB B i) j):liveM rows B j∨j=i:=by
 obtain⟨h1,h2⟩:=h;by_cases e:j=i
 · exact .inr e
 ·
  refine .inl ⟨h1,?_⟩;unfold updB at h2;rw[if_neg e] at h2;exact h2
theorem liveM_pure {rows:List Nat}{B:Nat→Bool}{i j:Nat}(hi:i∉rows)(h:liveM rows (updB B i) j):liveM rows B j:=by
 rcases liveM_upd h with q|rfl
 · exact q
 · exact absurd h.1 hi
structure Mk (w:World)(m:Nat)(live:Nat→Prop)(R:Nat→Rw)(wk:Bool)(vW:Value)(bs N:Nat)(dss:List (List Dd)):Prop where
 fam:Fam w m live R
 work:wk=true→RdXN w bs N vW dss∧N≤w.heap.size∧m≤bs
 out:wk=true→∀i,live i→∀k,(R i).v.ownBlock=some k→k<bs∨N≤k
section
variable {w w':World} {m:Nat} {rows:List Nat} {B:Nat→Bool} {R:Nat→Rw} {wk:Bool} {vW:Value} {bs N:Nat} {dss:List (List Dd)}
theorem Mk.start (w:World)(m:Nat)(rows:List Nat)(R:Nat→Rw)(vW:Value)(bs N:Nat)(dss:List (List Dd)):Mk w m (liveM rows (fun _=>false)) R false vW bs N dss:=
 ⟨⟨fun _ h=>(by cases h.2),fun _ _ h=>(by cases h.2)⟩,fun h=>(by cases h),fun h=>(by cases h)⟩
theorem Mk.keep {live:Nat→Prop}(h:Mk w m live R wk vW bs N dss)(k:Keep w w'):Mk w' m live R wk vW bs N dss:=
 ⟨h.fam.keep k,fun e=>⟨(h.work e).1.kept k.grownBy (by simp),Nat.le_trans (h.work e).2.1 k.size,(h.work e).2.2⟩,h.out⟩
theorem Mk.pass (h:Mk w m (liveM rows B) R wk vW bs N dss){i:Nat}(hi:i∉rows):Mk w m (liveM rows (updB B i)) R wk vW bs N dss:=
 ⟨h.fam.congr (fun _ hj=>liveM_pure hi hj) (fun _ _=>rfl),h.work,fun e j hj=>h.out e j (liveM_pure hi hj)⟩
theorem Mk.add (h:Mk w m (liveM rows B) R wk vW bs N dss){i:Nat}(hi:B i=false){r:Rw}(k:Keep w w')(ho:r.own w' m)(hn:∀b,r.v.ownBlock=some b→w.heap.size≤b):Mk w' m (liveM rows (updB B i)) (upd R i r) wk vW bs N dss:=by
 have F:=h.fam.add (i:=i) (fun q=>by have q2:=q.2;rw[hi] at q2;cases q2) (r:=r) rfl k ho hn;refine⟨F.congr (fun j hj=>liveM_upd hj) (fun _ _=>rfl),(h.keep k).work,fun e j hj b hb=>?_⟩;by_cases ej:j=i
 ·
  subst ej;rw[upd_same] at hb;have:=hn b hb;have:=(h.work e).2.1;right;omega
 ·
  rw[upd_other _ _ ej] at hb;exact h.out e j ((liveM_upd hj).resolve_right ej) b hb
theorem Mk.copied (h:Mk w m (liveM rows B) R false vW bs N dss){i:Nat}(hi:i∉rows){v':Value}(k:Keep w w')(hx:RdX w' w.heap.size v' dss)(hm:m≤w.heap.size):Mk w' m (liveM rows (updB B i)) R true v' w.heap.size w'.heap.size dss:=
 ⟨(h.fam.keep k).congr (fun _ hj=>liveM_pure hi hj) (fun _ _=>rfl),fun _=>⟨hx.upto,Nat.le_refl _,hm⟩,fun _ _ hj b hb => .inl (h.fam.lt (liveM_pure hi hj) b hb).2⟩
theorem Mk.turn (h:Mk w m (liveM rows B) R wk vW bs N dss){i j:Nat}(hi:i∉rows)(hj:liveM rows B j){r:Rw}(hg:w.grownBy w' (R j).v.ownBlock)(hv:r.v=(R j).v)(ho:r.own w' m):Mk w' m (liveM rows (updB B i)) (upd R j r) wk vW bs N dss:=by
 have F:=h.fam.set hj (r:=r) hg (.inl (by rw[hv])) ho;refine⟨F.congr (fun _ q=>liveM_pure hi q) (fun _ _=>rfl),fun e=>⟨(h.work e).1.kept hg (fun g e'=>h.out e j hj g e'),Nat.le_trans (h.work e).2.1 hg.size,(h.work e).2.2⟩,fun e q hq b hb=>?_⟩;by_cases eq:q=j
 ·
  subst eq;rw[upd_same,hv] at hb;exact h.out e q hj b hb
 ·
  rw[upd_other _ _ eq] at hb;exact h.out e q (liveM_pure hi hq) b hb
theorem Mk.grow (h:Mk w m (liveM rows B) R wk vW bs N dss){i j:Nat}(hi:i∉rows)(hj:liveM rows B j){r:Rw}(hg:w.grownBy w' (R j).v.ownBlock)(hv:r.v.ownBlock=(R j).v.ownBlock∨r.v.ownBlock=some w.heap.size)(ho:r.own w' m):Mk w' m (liveM rows (updB B i)) (upd R j r) wk vW bs N dss:=by
 have F:=h.fam.set hj (r:=r) hg (by rcases hv with e|e;exact .inl e;exact .inr (.inl e)) ho;refine⟨F.congr (fun _ q=>liveM_pure hi q) (fun _ _=>rfl),fun e=>⟨(h.work e).1.kept hg (fun g e'=>h.out e j hj g e'),Nat.le_trans (h.work e).2.1 hg.size,(h.work e).2.2⟩,fun e q hq b hb=>?_⟩;by_cases eq:q=j
 ·
  subst eq;rw[upd_same] at hb;rcases hv with e1|e1
  · rw[e1] at hb;exact h.out e q hj b hb
  ·
   rw[e1] at hb;have:=Option.some.inj hb;have:=(h.work e).2.1;right;omega
 ·
  rw[upd_other _ _ eq] at hb;exact h.out e q (liveM_pure hi hq) b hb
theorem Mk.far (h:Mk w m (liveM rows B) R false vW bs N dss){i:Nat}(hi:i∉rows){g:Nat}(hg:w.grownBy w' (some g))(hl:g<m):Mk w' m (liveM rows (updB B i)) R false vW bs N dss:=
 ⟨(h.fam.far hg (fun j hj=>by
  cases e:(R j).v.ownBlock with
  |none=>exact .inl rfl
  |some k=>exact .inr (fun e'=>by have:=(h.fam.lt hj k e).1;have:=Option.some.inj e';omega))).congr (fun _ q=>liveM_pure hi q) (fun _ _=>rfl),fun e=>(by cases e),fun e=>(by cases e)⟩
end
theorem Fam.via {ι κ:Type}{w:World}{m:Nat}{live:ι→Prop}{R:ι→Rw}(h:Fam w m live R)(g:κ→Option ι)(inj:∀a b i,g a=some i→g b=some i→a=b){live':κ→Prop}{R':κ→Rw}
  (h1:∀a i,live' a→g a=some i→live i∧R' a=R i) (h2:∀a,live' a→g a=none→(R' a).own w m∧(R' a).v.ownBlock=none):Fam w m live' R':=by
 refine⟨fun a ha=>?_,fun a b ha hb hab=>?_⟩
 ·
  cases e:g a with
  |none=>exact (h2 a ha e).1
  |some i=>rw[(h1 a i ha e).2];exact h.own i (h1 a i ha e).1
 ·
  cases e:g a with
  |none=>exact .inl (h2 a ha e).2
  |some i=>
   cases e':g b with
   |none=>
    rw[(h2 b hb e').2]
    cases (R' a).v.ownBlock with
    |none=>exact .inl rfl
    |some q=>exact .inr (by simp)
   |some j=>
    rw[(h1 a i ha e).2,(h1 b j hb e').2];exact h.apart i j (h1 a i ha e).1 (h1 b j hb e').1 (fun q=>by subst q;exact hab (inj a b i e e'))
theorem own_none (w:World)(m:Nat)(t:TypeId)(s:Nat):Rw.own w m ⟨t,s,nilS,0,[]⟩:=⟨by simp,.inl ⟨rfl,rfl⟩⟩
theorem own_lit (w:World){m:Nat}(hm:m≤w.heap.size)(t:TypeId)(cs:Array Value)(h:cs.size≤maxLen):Rw.own (w.alloc (.cells cs t)) m ⟨t,1,.slice (some ⟨w.heap.size,0,none⟩) cs.size cs.size,cs.size,cs.toList⟩:=by
 refine⟨by simp,.inr ⟨w.heap.size,cs.size,cs,rfl,hm,heap_alloc_new w _,Nat.le_refl _,h,by simp,?_⟩⟩;rw[Nat.mul_one];exact List.take_of_length_le (by simp)
section
variable {P:Program} {ops:Array Oper} {Q:Exit→Act→World→Prop} {md:Region.Mode}
theorem ready_none {listed:Array Bool}(h:Region.ready md ops listed=[])(i:Nat)(o:Oper)(ho:ops[i]? = some o)(hd:o.after.all (fun e=>!Region.binds md e||listed.getD e.on false)=true):listed.getD i true=true:=by
 cases e:listed.getD i true with
 |true=>rfl
 |false=>
  exfalso;have hi:i<ops.size:=(Array.getElem?_eq_some_iff.1 ho).1
  have:i∈Region.ready md ops listed:=by
   unfold Region.ready;rw[List.mem_filter,List.mem_range];refine⟨hi,?_⟩;simp only[Bool.and_eq_true,Bool.not_eq_true'];refine⟨e,?_⟩;rw[ho];exact hd
  rw[h] at this;cases this
theorem ready_dep {listed:Array Bool}{i:Nat}(h:i∈Region.ready md ops listed)(k:Nat){o:Oper}(ho:ops[i]? = some o)(he:o.after.any (fun e=>e.on==k&&Region.binds md e)=true):listed.getD k false=true:=by
 have h1:=(ready_use h).2.2 o ho;rw[Array.any_eq_true'] at he;obtain⟨e,hm,he⟩:=he;rw[Array.all_eq_true'] at h1;have h2:=h1 e hm;rw[Bool.and_eq_true,beq_iff_eq] at he;rw[he.2,he.1] at h2
 simpa using h2
theorem ready_all {listed:Array Bool}(h:Region.ready md ops listed=[])(hs:listed.size=ops.size)(ha:(List.range ops.size).all (fun i=>match ops[i]? with|some o=>o.after.all (fun e=>decide (e.on<i))|none=>true)=true):∀i,i<ops.size→listed.getD i false=true:=by
 intro i
 induction i using Nat.strongRecOn with
 |ind i ih=>
  intro hi;have hi':=List.all_eq_true.1 ha i (List.mem_range.2 hi);rw[Array.getElem?_eq_getElem hi] at hi'
  have h1:=ready_none h i ops[i] (Array.getElem?_eq_getElem hi) (by
   rw[Array.all_eq_true'];intro e he;have h2:=(Array.all_eq_true'.1 hi') e he;rw[decide_eq_true_eq] at h2;rw[ih e.on h2 (by omega)]
   simp)
  rw[Array.getD_eq_getD_getElem?,Array.getElem?_eq_getElem (by omega)] at h1 ⊢;exact h1
theorem wpOp_law {i:Nat}{o:Oper}{K:Act→World→Prop}{a:Act}{w:World}(ho:ops[i]? = some o)(hg:Region.wanted o (yielded ops a.tmps)=true)
  (h:∀K':Act→World→Prop,Shut (∀a w,K a w→K' a w)→Oper.wp P o a w K' Q):wpOp P ops Q i K a w:=wpOp_step ho (fun K' hK=>by rw[if_pos hg];exact h K' hK)
end
theorem wp_make_ints {o:Oper}{a:Act}{w:World}{K:Act→World→Prop}{Q:Exit→Act→World→Prop}(x y:Operand)(ho:o.op = .makeSlice 25 x y)(n:Nat)(hx:a.eval x = .int .i64 (n:Int))(hy:a.eval y = .int .i64 (n:Int))(hn:n≤1048576)(m:Nat)(hm:m≤w.heap.size)
  (h:∀w',Own w' m (.slice (some ⟨w.heap.size,0,none⟩) n n) (List.replicate n 0)→Keep w w'→K (a.put o.dst (.slice (some ⟨w.heap.size,0,none⟩) n n)) w'):o.wp Try.prog a w K Q:=by
 obtain⟨i0,hi,hz0,hz1,hz2⟩:=info_parts Try.infoI;obtain⟨w',hrun,r1,r2⟩:=run_make_full (P:=Try.prog) w m 25 2 i0 (.int .i64 0) 1 Try.underlying25 hi hz0 hz1 .i64 .i64 n (by rw[hz2];omega) (by unfold maxLen;omega) hm;unfold Oper.wp;simp[execOp,ho,hx,hy,hrun,Result.andThen];refine h w' ?_ ((Keep.refl w).grown r2 (by simp));unfold Own;rw[Nat.mul_one,show (Value.int .i64 0).cells=#[.int .i64 0] from rfl,toList_madeCells_one] at r1
 simpa using r1
theorem new_ge {g n cap b:Nat}(h:(Value.slice (some ⟨g,0,none⟩) n cap).ownBlock=some b):g≤b:=Nat.le_of_eq (Option.some.inj h)
end
section
section
variable {w w1 w2 w':World} {m D:Nat} {v:BV} {nv rv:List Value} {bs N:Nat} {dss:List (List Dd)} {b:Bd}
theorem OwnBd.mk2 (h:OwnBd w m D v nv rv bs N dss b){v':BV}{nv' rv':List Value}{b':Bd}(F:Fam w' m (liveB nv' rv') (famR D v' nv' rv' b'))(ln:nv'.length=b'.nts.length)(lr:rv'.length=b'.rws.length)(hW:v'.W=v.W)(hs:w.heap.size≤w'.heap.size)(hwk:RdXN w' bs N v.W dss)
  (hout:∀i,liveB nv' rv' i→∀k,(famR D v' nv' rv' b' i).v.ownBlock=some k→(∃j,liveB nv rv j∧(famR D v nv rv b j).v.ownBlock=some k)∨w.heap.size≤k):OwnBd w' m D v' nv' rv' bs N dss b':=
 ⟨F,ln,lr,by rw[hW];exact hwk,Nat.le_trans h.top hs,fun i hi k hk=>by
  rcases hout i hi k hk with ⟨j,hj,e⟩|e
  · exact h.out j hj k e
  ·
   have:=h.top
   right;omega⟩
theorem bd_put {k:Nat}{x:Value}{v':BV}(o:(bdR D v).own w m)(hv:(bdR D v').xs=(bdR D v).xs.set k x):(bdR D v').own (w.setCell ⟨D,k,none⟩ x) m∧w.grownBy (w.setCell ⟨D,k,none⟩ x) (some D)∧w.frozen? ⟨D,k,none⟩=false:=by
 obtain⟨h1,h2,h3⟩:=Rw.put o (g:=D) (cap:=1) (k:=k) rfl x;refine⟨?_,h2,h3⟩;have e:bdR D v'={ bdR D v with xs:=(bdR D v).xs.set k x }:=by rw[←hv]
 rw[e];exact h1
theorem OwnBd.nD (h:OwnBd w m D v nv rv bs N dss b):∀g,some D=some g→g<bs∨N≤g:=fun g e=>h.out .bd trivial g e
theorem OwnBd.growS (h:OwnBd w m D v nv rv bs N dss b){u:Value}{zs:List Int}(hg:w.grownBy w2 v.S.ownBlock)(hb:u.ownBlock=v.S.ownBlock∨u.ownBlock=some w.heap.size∨u.ownBlock=none)(ho:Own w2 m u zs):
  OwnBd (w2.setCell ⟨D,5,none⟩ u) m D { v with S:=u } nv rv bs N dss { b with sn:=zs }∧w2.cell? ⟨D,5,none⟩=some v.S∧w2.frozen? ⟨D,5,none⟩=false:=by
 have F1:=h.fam.set (i:= .sn) trivial (r:=ivR zs u) hg hb ho;have o1:(bdR D v).own w2 m:=F1.own .bd trivial;obtain⟨q1,q2,q3⟩:=bd_put (k:=5) (x:=u) (v':={ v with S:=u }) o1 rfl;have F2:=F1.set (i:= .bd) trivial (r:=bdR D { v with S:=u }) q2 (.inl rfl) q1;have hf:∀j,famR D { v with S:=u } nv rv { b with sn:=zs } j=upd (upd (famR D v nv rv b) .sn (ivR zs u)) .bd (bdR D { v with S:=u }) j:=fun j=>by cases j<;>rfl
 refine⟨h.mk2 (F2.congr (fun _ hj=>hj) (fun j _=>hf j)) h.ln h.lr rfl (Nat.le_trans hg.size q2.size) ((h.work.kept hg (fun g e=>h.out .sn trivial g e)).kept q2 h.nD) (fun j hj k hk=>?_),(h.stay .sn trivial (by simp) hg 5).trans h.cells.2.2.2.2.2.1,q3⟩;by_cases e:j = .sn
 ·
  subst e;have hk:u.ownBlock=some k:=hk;rcases hb with e|e|e
  · exact .inl ⟨.sn,trivial,by rw[←hk,e];rfl⟩
  · rw[e] at hk;exact .inr (Nat.le_of_eq (Option.some.inj hk))
  · rw[e] at hk;cases hk
 ·
  refine .inl ⟨j,hj,?_⟩;cases j<;>first|exact hk|exact absurd rfl e
theorem OwnBd.growF (h:OwnBd w m D v nv rv bs N dss b){u:Value}{zs:List Int}(hg:w.grownBy w2 v.F.ownBlock)(hb:u.ownBlock=v.F.ownBlock∨u.ownBlock=some w.heap.size∨u.ownBlock=none)(ho:Own w2 m u zs):
  OwnBd (w2.setCell ⟨D,6,none⟩ u) m D { v with F:=u } nv rv bs N dss { b with fr:=zs }∧w2.cell? ⟨D,6,none⟩=some v.F∧w2.frozen? ⟨D,6,none⟩=false:=by
 have F1:=h.fam.set (i:= .fr) trivial (r:=ivR zs u) hg hb ho;have o1:(bdR D v).own w2 m:=F1.own .bd trivial;obtain⟨q1,q2,q3⟩:=bd_put (k:=6) (x:=u) (v':={ v with F:=u }) o1 rfl;have F2:=F1.set (i:= .bd) trivial (r:=bdR D { v with F:=u }) q2 (.inl rfl) q1;have hf:∀j,famR D { v with F:=u } nv rv { b with fr:=zs } j=upd (upd (famR D v nv rv b) .fr (ivR zs u)) .bd (bdR D { v with F:=u }) j:=fun j=>by cases j<;>rfl
 refine⟨h.mk2 (F2.congr (fun _ hj=>hj) (fun j _=>hf j)) h.ln h.lr rfl (Nat.le_trans hg.size q2.size) ((h.work.kept hg (fun g e=>h.out .fr trivial g e)).kept q2 h.nD) (fun j hj k hk=>?_),(h.stay .fr trivial (by simp) hg 6).trans h.cells.2.2.2.2.2.2.1,q3⟩;by_cases e:j = .fr
 ·
  subst e;have hk:u.ownBlock=some k:=hk;rcases hb with e|e|e
  · exact .inl ⟨.fr,trivial,by rw[←hk,e];rfl⟩
  · rw[e] at hk;exact .inr (Nat.le_of_eq (Option.some.inj hk))
  · rw[e] at hk;cases hk
 ·
  refine .inl ⟨j,hj,?_⟩;cases j<;>first|exact hk|exact absurd rfl e
theorem getD_app {α:Type}(l:List α)(x z:α)(q:Nat):(l++[x]).getD q z=if q=l.length then x else l.getD q z:=by
 rw[List.getD_eq_getElem?_getD,List.getD_eq_getElem?_getD];by_cases e:q=l.length
 · subst e;simp
 ·
  rw[if_neg e];by_cases hl:q<l.length
  · rw[List.getElem?_append_left hl]
  · rw[List.getElem?_eq_none (by rw[List.length_append];simp;omega),List.getElem?_eq_none (by omega)]
theorem OwnBd.pushN (h:OwnBd w m D v nv rv bs N dss b){u u':Value}{ns:List Nt}(k1:Keep w w1)(hu:∀k,u.ownBlock=some k→w.heap.size≤k)(ou:AppT cN 66 3 w1 m u ns)
  (hg:w1.grownBy w2 v.N.ownBlock) (hb:u'.ownBlock=v.N.ownBlock∨u'.ownBlock=some w1.heap.size∨u'.ownBlock=none) (ho:(hdR 36 (nv++[u]) u').own w2 m):
  OwnBd (w2.setCell ⟨D,3,none⟩ u') m D { v with N:=u' } (nv++[u]) rv bs N dss { b with nts:=b.nts++[ns] }∧w2.cell? ⟨D,3,none⟩=some v.N∧w2.frozen? ⟨D,3,none⟩=false:=by
 have F1:=h.fam.add (i:= .nt nv.length) (fun q=>Nat.lt_irrefl _ (show nv.length<nv.length from q)) (r:=nvR ns u) rfl k1 ou hu;have F2:=F1.set (i:= .nts) (.inl trivial) (r:=hdR 36 (nv++[u]) u') hg hb ho;have o1:(bdR D v).own w2 m:=F2.own .bd (.inl trivial);obtain⟨q1,q2,q3⟩:=bd_put (k:=3) (x:=u') (v':={ v with N:=u' }) o1 rfl;have F3:=F2.set (i:= .bd) (.inl trivial) (r:=bdR D { v with N:=u' }) q2 (.inl rfl) q1;have hs:w.heap.size≤w1.heap.size:=k1.size
 have hf:∀j,famR D { v with N:=u' } (nv++[u]) rv { b with nts:=b.nts++[ns] } j=upd (upd (upd (famR D v nv rv b) (.nt nv.length) (nvR ns u)) .nts (hdR 36 (nv++[u]) u')) .bd (bdR D { v with N:=u' }) j:=fun j=>by
  cases j with
  |nt q=>
   rw[upd_other _ _ (by simp),upd_other _ _ (by simp)];show nvR ((b.nts++[ns]).getD q []) ((nv++[u]).getD q nilS)=_;rw[getD_app,getD_app,←h.ln];by_cases e:q=nv.length
   · subst e;rw[upd_same,if_pos rfl,if_pos rfl]
   · rw[upd_other _ _ (by simpa using e),if_neg e,if_neg e];rfl
  |_=>rfl
 have hne:some D≠v.N.ownBlock:=by
  rcases h.fam.apart .bd .nts trivial trivial (by simp) with e|e
  · cases e
  · exact e
 refine⟨h.mk2 (F3.congr (fun j hj=>?_) (fun j _=>hf j)) (by rw[List.length_append];simp[h.ln]) h.lr rfl (Nat.le_trans hs (Nat.le_trans hg.size q2.size)) (((h.work.kept k1.grownBy (by simp)).kept hg (fun g e=>h.out .nts trivial g e)).kept q2 h.nD) (fun j hj k hk=>?_),?_,q3⟩
 ·
  cases j with
  |nt q=>
   have hq:q<(nv++[u]).length:=hj;rw[List.length_append] at hq;by_cases e:q=nv.length
   · exact .inr (by rw[e])
   · exact .inl (show q<nv.length by simp at hq;omega)
  |rw q=>exact .inl hj
  |_=>exact .inl trivial
 ·
  cases j with
  |nt q=>
   have hk:((nv++[u]).getD q nilS).ownBlock=some k:=hk;rw[getD_app] at hk;by_cases e:q=nv.length
   · rw[if_pos e] at hk;exact .inr (hu k hk)
   ·
    rw[if_neg e] at hk;have hq:q<(nv++[u]).length:=hj;rw[List.length_append] at hq;exact .inl ⟨.nt q,show q<nv.length by simp at hq;omega,hk⟩
  |nts=>
   have hk:u'.ownBlock=some k:=hk;rcases hb with e|e|e
   · exact .inl ⟨.nts,trivial,by rw[←hk,e];rfl⟩
   · rw[e] at hk;exact .inr (by have:=Option.some.inj hk;omega)
   · rw[e] at hk;cases hk
  |rw q=>exact .inl ⟨.rw q,hj,hk⟩
  |bd=>exact .inl ⟨.bd,trivial,hk⟩
  |plc=>exact .inl ⟨.plc,trivial,hk⟩
  |lst=>exact .inl ⟨.lst,trivial,hk⟩
  |nxt=>exact .inl ⟨.nxt,trivial,hk⟩
  |sn=>exact .inl ⟨.sn,trivial,hk⟩
  |fr=>exact .inl ⟨.fr,trivial,hk⟩
  |rws=>exact .inl ⟨.rws,trivial,hk⟩
 ·
  have hD:=h.base.2;have e1:w2.cell? ⟨D,3,none⟩=w1.cell? ⟨D,3,none⟩:=World.cell?_of_block (w:=w1) (hg.block D (by omega) hne);rw[e1,k1.cell hD];exact h.cells.2.2.2.1
theorem OwnBd.pushR (h:OwnBd w m D v nv rv bs N dss b){u u':Value}{zs:List Int}(k1:Keep w w1)(hu:∀k,u.ownBlock=some k→w.heap.size≤k)(ou:Own w1 m u zs)
  (hg:w1.grownBy w2 v.R.ownBlock) (hb:u'.ownBlock=v.R.ownBlock∨u'.ownBlock=some w1.heap.size∨u'.ownBlock=none) (ho:(hdR 25 (rv++[u]) u').own w2 m):
  OwnBd (w2.setCell ⟨D,7,none⟩ u') m D { v with R:=u' } nv (rv++[u]) bs N dss { b with rws:=b.rws++[zs] }∧w2.cell? ⟨D,7,none⟩=some v.R∧w2.frozen? ⟨D,7,none⟩=false:=by
 have F1:=h.fam.add (i:= .rw rv.length) (fun q=>Nat.lt_irrefl _ (show rv.length<rv.length from q)) (r:=ivR zs u) rfl k1 ou hu;have F2:=F1.set (i:= .rws) (.inl trivial) (r:=hdR 25 (rv++[u]) u') hg hb ho;have o1:(bdR D v).own w2 m:=F2.own .bd (.inl trivial);obtain⟨q1,q2,q3⟩:=bd_put (k:=7) (x:=u') (v':={ v with R:=u' }) o1 rfl;have F3:=F2.set (i:= .bd) (.inl trivial) (r:=bdR D { v with R:=u' }) q2 (.inl rfl) q1;have hs:w.heap.size≤w1.heap.size:=k1.size
 have hf:∀j,famR D { v with R:=u' } nv (rv++[u]) { b with rws:=b.rws++[zs] } j=upd (upd (upd (famR D v nv rv b) (.rw rv.length) (ivR zs u)) .rws (hdR 25 (rv++[u]) u')) .bd (bdR D { v with R:=u' }) j:=fun j=>by
  cases j with
  |rw q=>
   rw[upd_other _ _ (by simp),upd_other _ _ (by simp)];show ivR ((b.rws++[zs]).getD q []) ((rv++[u]).getD q nilS)=_;rw[getD_app,getD_app,←h.lr];by_cases e:q=rv.length
   · subst e;rw[upd_same,if_pos rfl,if_pos rfl]
   · rw[upd_other _ _ (by simpa using e),if_neg e,if_neg e];rfl
  |_=>rfl
 have hne:some D≠v.R.ownBlock:=by
  rcases h.fam.apart .bd .rws trivial trivial (by simp) with e|e
  · cases e
  · exact e
 refine⟨h.mk2 (F3.congr (fun j hj=>?_) (fun j _=>hf j)) h.ln (by rw[List.length_append];simp[h.lr]) rfl (Nat.le_trans hs (Nat.le_trans hg.size q2.size)) (((h.work.kept k1.grownBy (by simp)).kept hg (fun g e=>h.out .rws trivial g e)).kept q2 h.nD) (fun j hj k hk=>?_),?_,q3⟩
 ·
  cases j with
  |rw q=>
   have hq:q<(rv++[u]).length:=hj;rw[List.length_append] at hq;by_cases e:q=rv.length
   · exact .inr (by rw[e])
   · exact .inl (show q<rv.length by simp at hq;omega)
  |nt q=>exact .inl hj
  |_=>exact .inl trivial
 ·
  cases j with
  |rw q=>
   have hk:((rv++[u]).getD q nilS).ownBlock=some k:=hk;rw[getD_app] at hk;by_cases e:q=rv.length
   · rw[if_pos e] at hk;exact .inr (hu k hk)
   ·
    rw[if_neg e] at hk;have hq:q<(rv++[u]).length:=hj;rw[List.length_append] at hq;exact .inl ⟨.rw q,show q<rv.length by simp at hq;omega,hk⟩
  |rws=>
   have hk:u'.ownBlock=some k:=hk;rcases hb with e|e|e
   · exact .inl ⟨.rws,trivial,by rw[←hk,e];rfl⟩
   · rw[e] at hk;exact .inr (by have:=Option.some.inj hk;omega)
   · rw[e] at hk;cases hk
  |nt q=>exact .inl ⟨.nt q,hj,hk⟩
  |bd=>exact .inl ⟨.bd,trivial,hk⟩
  |plc=>exact .inl ⟨.plc,trivial,hk⟩
  |lst=>exact .inl ⟨.lst,trivial,hk⟩
  |nxt=>exact .inl ⟨.nxt,trivial,hk⟩
  |sn=>exact .inl ⟨.sn,trivial,hk⟩
  |fr=>exact .inl ⟨.fr,trivial,hk⟩
  |nts=>exact .inl ⟨.nts,trivial,hk⟩
 ·
  have hD:=h.base.2;have e1:w2.cell? ⟨D,7,none⟩=w1.cell? ⟨D,7,none⟩:=World.cell?_of_block (w:=w1) (hg.block D (by omega) hne);rw[e1,k1.cell hD];exact h.cells.2.2.2.2.2.2.2
end
end
section
def rowsV (s:Nat)(V:Nat→Value)(ln:Nat→Nat):Nat→List (Value×Nat)
 | 0=>[]
 |n+1=>rowsV s V ln n++[(V n,s*ln n)]
def SlV (v:Value)(n:Nat):Prop:=∃a c,v = .slice a n c∧(n=0∨∃b o,a=some ⟨b,o,none⟩)
section
variable (v:BV) (Vw Vn Vr:Nat→Value) (dss:List (List Dd)) (b:Bd)
def bdR0:List (Value×Nat):=rowsV 4 Vw (fun i=>(dss.getD i []).length) dss.length
def bdR1:List (Value×Nat):=bdR0 Vw dss++[(v.P,b.plc.length)]
def bdR2:List (Value×Nat):=bdR1 v Vw dss b++[(v.L,b.lst.length)]
def bdR3:List (Value×Nat):=bdR2 v Vw dss b++rowsV 3 Vn (fun i=>(b.nts.getD i []).length) b.nts.length
def bdR4:List (Value×Nat):=bdR3 v Vw Vn dss b++[(v.X,b.nxt.length)]
def bdR5:List (Value×Nat):=bdR4 v Vw Vn dss b++[(v.S,b.sn.length)]
def bdR6:List (Value×Nat):=bdR5 v Vw Vn dss b++[(v.F,b.fr.length)]
def bdR7:List (Value×Nat):=bdR6 v Vw Vn dss b++rowsV 1 Vr (fun i=>(b.rws.getD i []).length) b.rws.length
end
def HdL (w:World)(v:Value)(V:Nat→Value)(n:Nat)(S:Addr→Prop):Prop:=
 ∃a c,v = .slice a n c∧(n=0∨∃b o,a=some ⟨b,o,none⟩∧b<w.heap.size∧∀i,i<n→w.cell? ⟨b,o+i,none⟩=some (V i)∧¬S ⟨b,o+i,none⟩)
theorem HdL.keep {w w':World}{v:Value}{V:Nat→Value}{n:Nat}{S:Addr→Prop}(h:HdL w v V n S)(k:Keep w w'):HdL w' v V n S:=by
 obtain⟨a,c,e,h⟩:=h;refine⟨a,c,e,?_⟩;rcases h with h|⟨b,o,ea,hb,hc⟩
 · exact .inl h
 · exact .inr ⟨b,o,ea,Nat.lt_of_lt_of_le hb k.size,fun i hi=>⟨(k.cell hb).trans (hc i hi).1,(hc i hi).2⟩⟩
theorem HdL.kept {w w':World}{v:Value}{V:Nat→Value}{n:Nat}{S T:Addr→Prop}(h:HdL w v V n S)(k:Wrt T w w')(hs:∀x,T x→S x):HdL w' v V n S:=by
 obtain⟨a,c,e,h⟩:=h;refine⟨a,c,e,?_⟩;rcases h with h|⟨b,o,ea,hb,hc⟩
 · exact .inl h
 · exact .inr ⟨b,o,ea,Nat.lt_of_lt_of_le hb k.size,fun i hi=>⟨(k.cell _ hb (fun h=>(hc i hi).2 (hs _ h))).trans (hc i hi).1,(hc i hi).2⟩⟩
theorem HdL.less {w:World}{v:Value}{V:Nat→Value}{n:Nat}{S T:Addr→Prop}(h:HdL w v V n S)(hs:∀x,T x→S x):HdL w v V n T:=by
 obtain⟨a,c,e,h⟩:=h;refine⟨a,c,e,?_⟩;rcases h with h|⟨b,o,ea,hb,hc⟩
 · exact .inl h
 · exact .inr ⟨b,o,ea,hb,fun i hi=>⟨(hc i hi).1,fun h=>(hc i hi).2 (hs _ h)⟩⟩
theorem HdL.plain {w:World}{v:Value}{V:Nat→Value}{n:Nat}{S:Addr→Prop}(h:HdL w v V n S):∃a c,v = .slice a n c∧(n=0∨∃b o,a=some ⟨b,o,none⟩∧b<w.heap.size∧∀i,i<n→w.cell? ⟨b,o+i,none⟩=some (V i)):=by
 obtain⟨a,c,e,h⟩:=h;refine⟨a,c,e,?_⟩;rcases h with h|⟨b,o,ea,hb,hc⟩
 · exact .inl h
 · exact .inr ⟨b,o,ea,hb,fun i hi=>(hc i hi).1⟩
structure HdBd (w:World)(v:BV)(Vw Vn Vr:Nat→Value)(dss:List (List Dd))(b:Bd):Prop where
 hW:HdL w v.W Vw dss.length (rowsS (bdR7 v Vw Vn Vr dss b))
 sW:∀i,i<dss.length→SlV (Vw i) (dss.getD i []).length
 sP:SlV v.P b.plc.length
 sL:SlV v.L b.lst.length
 hN:HdL w v.N Vn b.nts.length (rowsS (bdR7 v Vw Vn Vr dss b))
 sN:∀i,i<b.nts.length→SlV (Vn i) (b.nts.getD i []).length
 sX:SlV v.X b.nxt.length
 sS:SlV v.S b.sn.length
 sF:SlV v.F b.fr.length
 hR:HdL w v.R Vr b.rws.length (rowsS (bdR7 v Vw Vn Vr dss b))
 sR:∀i,i<b.rws.length→SlV (Vr i) (b.rws.getD i []).length
section
variable {w w':World} {v:BV} {Vw Vn Vr:Nat→Value} {dss:List (List Dd)} {b:Bd}
theorem HdBd.keep (h:HdBd w v Vw Vn Vr dss b)(k:Keep w w'):HdBd w' v Vw Vn Vr dss b:=
 ⟨h.hW.keep k,h.sW,h.sP,h.sL,h.hN.keep k,h.sN,h.sX,h.sS,h.sF,h.hR.keep k,h.sR⟩
theorem HdBd.kept (h:HdBd w v Vw Vn Vr dss b){T:Addr→Prop}(k:Wrt T w w')(hs:∀x,T x→rowsS (bdR7 v Vw Vn Vr dss b) x):HdBd w' v Vw Vn Vr dss b:=
 ⟨h.hW.kept k hs,h.sW,h.sP,h.sL,h.hN.kept k hs,h.sN,h.sX,h.sS,h.sF,h.hR.kept k hs,h.sR⟩
end
end
end Go.Proofs.Ytgakfkjjkobpiaa
