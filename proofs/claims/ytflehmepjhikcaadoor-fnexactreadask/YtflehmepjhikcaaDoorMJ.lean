/- Gathered texts. -/
import Derived.Test.YtflehmepjhikcaaDoorMC
import Derived.Outline
import Derived.OwnWalk
import Derived.Lib.Hide
set_option maxRecDepth 100000
set_option maxHeartbeats 8000000
namespace Go.Proofs.YtflehmepjhikcaaDoor
open Go.ChangeShapes Go.WideShapes Go.ChangeAt Go.RowKit
def Blk (w:World)(g n:Nat):Prop:=∃cur t,w.heap[g]? = some (.cells cur t (0,0))∧n≤cur.size
theorem Blk.free {w:World}{g n:Nat}(h:Blk w g n)(i:Nat):w.frozen? ⟨g,i,none⟩=false:=by
 obtain⟨cur,t,h,_⟩:=h;exact frozen_of_row w g i cur t h
theorem Blk.cell {w:World}{g n:Nat}(h:Blk w g n){i:Nat}(hi:i<n):∃u,w.cell? ⟨g,i,none⟩=some u:=by
 obtain⟨cur,t,h,hn⟩:=h;exact⟨cur[i]'(by omega),by rw[cell_of_row w g i cur t (0,0) h,Array.getElem?_eq_getElem (by omega)]⟩
theorem Blk.lt {w:World}{g n:Nat}(h:Blk w g n):g<w.heap.size:=by
 obtain⟨cur,t,h,_⟩:=h;exact (Array.getElem?_eq_some_iff.1 h).1
theorem Blk.set {w:World}{g n:Nat}(h:Blk w g n)(i:Nat)(x:Value):Blk (w.setCell ⟨g,i,none⟩ x) g n:=by
 obtain⟨cur,t,h,hn⟩:=h;exact⟨cur.setIfInBounds i x,t,heap_setCell_same w g i cur t x h,by simpa using hn⟩
theorem Blk.kept {w w':World}{g n:Nat}{row:Option Nat}(h:Blk w g n)(hg:w.grownBy w' row)(hne:row≠some g):Blk w' g n:=by
 have hl:=h.lt;obtain⟨cur,t,h,hn⟩:=h;exact⟨cur,t,(hg.block g hl (fun e=>hne e.symm)).trans h,hn⟩
def OwnD (w:World)(base:Nat)(v:Value)(ds:List Dd):Prop:=
 ∃(a:Option Addr) (cap:Nat),v = .slice a ds.length (ds.length+cap)∧(ds=[]∨∃g,a=some ⟨g,0,none⟩∧base≤g∧Blk w g (ds.length*4)∧∀i,i<ds.length→AtD w g (i*4) (ds.getD i zD))
theorem OwnD.rd {w:World}{base:Nat}{v:Value}{ds:List Dd}(h:OwnD w base v ds):RdD w v ds:=by
 obtain⟨a,cap,hv,h⟩:=h;refine⟨a,cap,hv,?_⟩;rcases h with h|⟨g,ha,_,hb,hc⟩
 · exact .inl h
 · exact .inr ⟨g,0,ha,hb.lt,fun i hi=>by rw[Nat.zero_add];exact hc i hi⟩
theorem OwnD.keep {w w':World}{base:Nat}{v:Value}{ds:List Dd}(h:OwnD w base v ds)(k:Keep w w'):OwnD w' base v ds:=by
 obtain⟨a,cap,hv,h⟩:=h;refine⟨a,cap,hv,?_⟩;rcases h with h|⟨g,ha,hb,hB,hc⟩
 · exact .inl h
 · exact .inr ⟨g,ha,hb,hB.kept k.grownBy (by simp),fun i hi=>(hc i hi).keep hB.lt k⟩
theorem OwnD.kept {w w':World}{base:Nat}{v:Value}{ds:List Dd}{row:Option Nat}(h:OwnD w base v ds)(hg:w.grownBy w' row)(hne:ds=[]∨v.ownBlock≠row):OwnD w' base v ds:=by
 obtain⟨a,cap,rfl,h⟩:=h;refine⟨a,cap,rfl,?_⟩;rcases h with h|⟨g,rfl,hb,hB,hc⟩
 · exact .inl h
 ·
  rcases hne with hne|hne
  · exact .inl hne
  ·
   have hne':row≠some g:=fun e=>hne (by simp[Value.ownBlock,e])
   have hcell:∀j,w'.cell? ⟨g,j,none⟩=w.cell? ⟨g,j,none⟩:=fun j=>World.cell?_of_block (w:=w) (hg.block g hB.lt (fun e=>hne' e.symm))
   exact .inr ⟨g,rfl,hb,hB.kept hg hne',fun i hi=>⟨(hcell _).trans (hc i hi).1,(hcell _).trans (hc i hi).2.1,(hcell _).trans (hc i hi).2.2.1,(hcell _).trans (hc i hi).2.2.2⟩⟩
theorem OwnD.mono {w:World}{base base':Nat}{v:Value}{ds:List Dd}(h:OwnD w base v ds)(hb:base'≤base):OwnD w base' v ds:=by
 obtain⟨a,cap,hv,h⟩:=h;refine⟨a,cap,hv,?_⟩;rcases h with h|⟨g,ha,hg,rest⟩
 · exact .inl h
 · exact .inr ⟨g,ha,Nat.le_trans hb hg,rest⟩
theorem OwnD.block {w:World}{base:Nat}{v:Value}{ds:List Dd}(h:OwnD w base v ds)(hne:ds≠[]):∃g,v.ownBlock=some g∧base≤g∧g<w.heap.size:=by
 obtain⟨a,cap,rfl,h⟩:=h;rcases h with h|⟨g,rfl,hb,hB,_⟩
 · exact absurd h hne
 · exact⟨g,rfl,hb,hB.lt⟩
def Apart (g n:Nat)(V:Nat→Value)(D:Nat→List Dd):Prop:=
 (∀i,i<n→D i≠[]→(V i).ownBlock≠some g)∧∀i j,i<j→j<n→D i≠[]→D j≠[]→(V i).ownBlock≠(V j).ownBlock
def OwnW (w:World)(base:Nat)(v:Value)(dss:List (List Dd)):Prop:=
 ∃(a:Option Addr) (cap:Nat),v = .slice a dss.length cap∧(dss=[]∨∃(g:Nat) (V:Nat→Value),a=some ⟨g,0,none⟩∧base≤g∧Blk w g dss.length ∧
  (∀i,i<dss.length→w.cell? ⟨g,i,none⟩=some (V i)∧OwnD w base (V i) (dss.getD i []))∧Apart g dss.length V (fun i=>dss.getD i []))
theorem OwnW.rd {w:World}{base:Nat}{v:Value}{dss:List (List Dd)}(h:OwnW w base v dss):RdW w v dss:=by
 obtain⟨a,cap,hv,h⟩:=h;refine⟨a,cap,hv,?_⟩;rcases h with h|⟨g,V,ha,_,hb,hc,_⟩
 · exact .inl h
 · exact .inr ⟨g,0,ha,hb.lt,fun i hi=>⟨V i,by rw[Nat.zero_add];exact (hc i hi).1,(hc i hi).2.rd⟩⟩
def ownO (v:Value)(ds:List Dd):Option Nat:=if ds=[] then none else v.ownBlock
theorem cell_same {w w':World}{b:Nat}(h:w'.heap[b]? = w.heap[b]?)(o:Nat):w'.cell? ⟨b,o,none⟩=w.cell? ⟨b,o,none⟩:=by
 simp only[World.cell?,h]
theorem AtD.same {w w':World}{b o:Nat}{d:Dd}(h:AtD w b o d)(hh:w'.heap[b]? = w.heap[b]?):AtD w' b o d:=
 ⟨(cell_same hh _).trans h.1,(cell_same hh _).trans h.2.1,(cell_same hh _).trans h.2.2.1,(cell_same hh _).trans h.2.2.2⟩
theorem Blk.same {w w':World}{g n:Nat}(h:Blk w g n)(hh:w'.heap[g]? = w.heap[g]?):Blk w' g n:=by
 obtain⟨cur,t,h,hn⟩:=h;exact⟨cur,t,hh.trans h,hn⟩
theorem OwnD.same {w w':World}{base:Nat}{v:Value}{ds:List Dd}(h:OwnD w base v ds)(hh:∀g,ownO v ds=some g→g<w.heap.size→base≤g→w'.heap[g]? = w.heap[g]?):OwnD w' base v ds:=by
 obtain⟨a,cap,rfl,h⟩:=h;refine⟨a,cap,rfl,?_⟩;rcases h with h|⟨g,rfl,hb,hB,hA⟩
 · exact .inl h
 ·
  by_cases h0:ds=[]
  · exact .inl h0
  ·
   have e:=hh g (by rw[ownO,if_neg h0];rfl) hB.lt hb;exact .inr ⟨g,rfl,hb,hB.same e,fun i hi=>(hA i hi).same e⟩
structure Only (lo hi:Nat)(w w':World):Prop where
 os:w'.os=w.os
 tape:w'.tape=w.tape
 output:w'.output=w.output
 size:w.heap.size≤w'.heap.size
 block:∀b,b<w.heap.size→(b<lo∨hi≤b)→w'.heap[b]? = w.heap[b]?
theorem Only.refl (lo hi:Nat)(w:World):Only lo hi w w:=⟨rfl,rfl,rfl,Nat.le_refl _,fun _ _ _=>rfl⟩
theorem Only.grown {lo hi:Nat}{a w w':World}{row:Option Nat}(h:Only lo hi a w)(hg:w.grownBy w' row)(hr:∀k,row=some k→lo≤k∧k<hi):Only lo hi a w':=
 ⟨hg.os.trans h.os,hg.tape.trans h.tape,hg.output.trans h.output,Nat.le_trans h.size hg.size,fun b hb ho=>(hg.block b (Nat.lt_of_lt_of_le hb h.size) (fun e=>by have:=hr b e.symm;omega)).trans (h.block b hb ho)⟩
theorem Keep.only {a w w':World}{lo hi:Nat}(h:Keep a w)(k:Only lo hi w w')(hl:a.heap.size≤lo):Keep a w':=
 ⟨k.os.trans (Below.os h),k.tape.trans (Below.tape h),k.output.trans (Below.output h),Nat.le_trans (Below.size h) k.size,fun b hb=>(k.block b (Nat.lt_of_lt_of_le hb h.size) (.inl (Nat.lt_of_lt_of_le hb hl))).trans (Below.block h b hb)⟩
theorem OwnW.only {w w':World}{base lo hi:Nat}{v:Value}{dss:List (List Dd)}(h:OwnW w base v dss)(k:Only lo hi w w')(hb:hi≤base):OwnW w' base v dss:=by
 obtain⟨a,cap,rfl,h⟩:=h;refine⟨a,cap,rfl,?_⟩;rcases h with h|⟨g,V,rfl,hg,hB,hc,hA⟩
 · exact .inl h
 ·
  have e:=k.block g hB.lt (.inr (Nat.le_trans hb hg));exact .inr ⟨g,V,rfl,hg,hB.same e,fun i hi=>⟨(cell_same e _).trans (hc i hi).1,(hc i hi).2.same (fun b _ hlt hbb=>k.block b hlt (.inr (Nat.le_trans hb hbb)))⟩,hA⟩
theorem OwnW.base_le {w:World}{base base':Nat}{v:Value}{dss:List (List Dd)}(h:OwnW w base v dss)(hb:base'≤base):OwnW w base' v dss:=by
 obtain⟨a,cap,hv,h⟩:=h;refine⟨a,cap,hv,?_⟩;rcases h with h|⟨g,V,ha,hg,hB,hc,hA⟩
 · exact .inl h
 · exact .inr ⟨g,V,ha,Nat.le_trans hb hg,hB,fun i hi=>⟨(hc i hi).1,(hc i hi).2.mono hb⟩,hA⟩
end Go.Proofs.YtflehmepjhikcaaDoor
