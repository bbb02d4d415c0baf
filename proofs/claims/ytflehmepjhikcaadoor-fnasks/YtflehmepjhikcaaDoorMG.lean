/- Gathered texts. -/
import Derived.Outline
import Derived.RegionTactic
import Derived.Deep.QuietTactic
import Derived.BigQuiet
import Derived.Deep.Cut
import Derived.Lib.Hide
import Derived.Lib.ConvBytes
import Derived.Laws.BytesArg
import Derived.Shelf.Bytes.SlSmallAll
import Derived.Deep.RegionLaw
import Derived.Test.YtflehmepjhikcaaDoorMC
import Derived.Lib.AtoiErrMem
import Derived.Deep.RegionHeld3
import Derived.Deep.RegionWith
import Derived.Lib.ItoaLen
set_option maxRecDepth 100000
set_option maxHeartbeats 8000000
namespace Go.Proofs.YtflehmepjhikcaaDoor
open Go.ChangeShapes Go.WideShapes Go.ChangeAt Go.RowKit
theorem and255 (a:Int):0≤bits .and .i64 a 255∧bits .and .i64 a 255≤255:=by
 have e:bits .and .i64 a 255=IntKind.i64.wrap (((BitVec.ofInt 64 a &&& BitVec.ofInt 64 255).toNat:Nat):Int):=rfl
 have h:(BitVec.ofInt 64 a &&& BitVec.ofInt 64 255).toNat≤255:=by
  rw[BitVec.toNat_and];exact Nat.and_le_right
 rw[e,IntKind.wrap_i64];omega
def RdB (w:World)(B:Nat)(a:Option Addr)(zs:List Int):Prop:=
 zs.length≤4096∧(zs=[]∨∃b off,a=some ⟨b,off,none⟩∧b<B∧b<w.heap.size∧∀i,i<zs.length→w.cell? ⟨b,off+i,none⟩=some (.int .u8 (zs.getD i 0))∧0≤zs.getD i 0∧zs.getD i 0≤255)
def Cur (w:World)(B g:Nat):Prop:=
 B≤g∧∃(a:Option Addr) (cap:Nat) (zs:List Int) (i:Nat) (h:Int),w.heap[g]? = some (.cells #[.slice a zs.length cap,.int .i64 i,.int .i64 h] 83 (0,0))∧i≤zs.length∧RdB w B a zs
theorem RdB.kept {w w':World}{B:Nat}{a:Option Addr}{zs:List Int}{row:Option Nat}(h:RdB w B a zs)(hg:w.grownBy w' row)(hr:∀k,row=some k→B≤k):RdB w' B a zs:=by
 refine⟨h.1,?_⟩;rcases h.2 with h|⟨b,off,ha,hb,hbs,hc⟩
 · exact .inl h
 ·
  refine .inr ⟨b,off,ha,hb,Nat.lt_of_lt_of_le hbs hg.size,fun i hi=>⟨?_,(hc i hi).2⟩⟩;rw[World.cell?_of_block (w:=w) (hg.block b hbs (fun e=>by have:=hr b e.symm;omega))];exact (hc i hi).1
theorem Cur.lt {w:World}{B g:Nat}(h:Cur w B g):g<w.heap.size:=by
 obtain⟨_,a,cap,zs,i,x,hh,_⟩:=h;exact (Array.getElem?_eq_some_iff.1 hh).1
theorem Cur.kept {w w':World}{B g:Nat}{row:Option Nat}(h:Cur w B g)(hg:w.grownBy w' row)(hne:row≠some g)(hr:∀k,row=some k→B≤k):Cur w' B g:=by
 have hlt:=h.lt;obtain⟨hB,a,cap,zs,i,x,hh,hi,hb⟩:=h;exact⟨hB,a,cap,zs,i,x,by rw[hg.block g hlt (fun e=>hne e.symm)];exact hh,hi,hb.kept hg hr⟩
theorem Cur.keep {w w':World}{B g:Nat}(h:Cur w B g)(k:Keep w w'):Cur w' B g:=h.kept k.grownBy (by simp) (by simp)
def CurI (w:World)(B g:Nat)(a:Option Addr)(cap:Nat)(zs:List Int)(i h:Int):Prop:=
 B≤g∧w.heap[g]? = some (.cells #[.slice a zs.length cap,.int .i64 i,.int .i64 h] 83 (0,0))∧RdB w B a zs
theorem CurI.cur {w:World}{B g:Nat}{a:Option Addr}{cap:Nat}{zs:List Int}{i h:Int}(c:CurI w B g a cap zs i h)(h0:0≤i)(hi:i≤zs.length):Cur w B g:=by
 obtain⟨n,rfl⟩:=Int.eq_ofNat_of_zero_le h0;exact⟨c.1,a,cap,zs,n,h,c.2.1,by omega,c.2.2⟩
theorem grown_setCell (w:World)(g j:Nat)(v:Value):w.grownBy (w.setCell ⟨g,j,none⟩ v) (some g):=
 ⟨rfl,rfl,rfl,by simp,fun k _ hk=>heap_setCell_other w ⟨g,j,none⟩ k v (fun e=>hk (by simp[e]))⟩
theorem CurI.seth {w:World}{B g:Nat}{a:Option Addr}{cap:Nat}{zs:List Int}{i h:Int}(c:CurI w B g a cap zs i h)(y:Int):CurI (w.setCell ⟨g,2,none⟩ (.int .i64 y)) B g a cap zs i y:=
 ⟨c.1,by rw[heap_setCell_same w g 2 _ _ _ c.2.1];rfl,c.2.2.kept (grown_setCell w g 2 _) (by intro k hk;simp at hk;subst hk;exact c.1)⟩
theorem CurI.seti {w:World}{B g:Nat}{a:Option Addr}{cap:Nat}{zs:List Int}{i h:Int}(c:CurI w B g a cap zs i h)(y:Int):CurI (w.setCell ⟨g,1,none⟩ (.int .i64 y)) B g a cap zs y h:=
 ⟨c.1,by rw[heap_setCell_same w g 1 _ _ _ c.2.1];rfl,c.2.2.kept (grown_setCell w g 1 _) (by intro k hk;simp at hk;subst hk;exact c.1)⟩
theorem grown_drewN (w:World)(n:Nat)(row:Option Nat):w.grownBy (w.drewN n) row:=⟨rfl,rfl,rfl,Nat.le_refl _,fun _ _ _=>rfl⟩
theorem CurI.drewN {w:World}{B g:Nat}{a:Option Addr}{cap:Nat}{zs:List Int}{i h:Int}(c:CurI w B g a cap zs i h)(n:Nat):CurI (w.drewN n) B g a cap zs i h:=
 ⟨c.1,c.2.1,c.2.2.kept (row:=none) (grown_drewN w n none) (by simp)⟩
theorem byte_any (w:World)(B g:Nat)(hc:Cur w B g):
  Calls Tryd.prog 52 #[.pointer (some ⟨g,0,none⟩)] w fun e w'=>∃x,e = .returned (.int .i64 x)∧0≤x∧x≤255∧Cur w' B g∧w.grownBy w' (some g):=by
 obtain⟨hB,a,cap,zs,i,x,hh,hi,hb⟩:=hc;have C:CurI w B g a cap zs i x:=⟨hB,hh,hb⟩;have c0:w.cell? ⟨g,0,none⟩=some (.slice a zs.length cap):=by rw[cell_of_row w g 0 _ _ (0,0) hh];rfl
 have c1:w.cell? ⟨g,1,none⟩=some (.int .i64 i):=by rw[cell_of_row w g 1 _ _ (0,0) hh];rfl
 have c2:w.cell? ⟨g,2,none⟩=some (.int .i64 x):=by rw[cell_of_row w g 2 _ _ (0,0) hh];rfl
 have f1:w.frozen? ⟨g,1,none⟩=false:=frozen_of_row w g 1 _ _ hh;have f2:w.frozen? ⟨g,2,none⟩=false:=frozen_of_row w g 2 _ _ hh;clear hh;have hzl:=hb.1;by_cases hlt:i<zs.length
 ·
  rcases hb.2 with h|⟨b,off,rfl,hbB,hbs,hcc⟩
  · exfalso;rw[h] at hlt;simp at hlt
  obtain⟨d1,d2,d3⟩:=hcc i hlt;have hbg:b≠g:=by omega
  obtain⟨q,hq⟩:∃q,q=zs.getD i 0:=⟨_,rfl⟩;rw[←hq] at d1 d2 d3;clear hcc hq hb;go_enter Tryd.func52,Tryd.ntmps52
  go_wp2;go_quiet (fail)
  go_wp2;go_quiet (fail)
  go_wp2;go_quiet (fail)
  go_wp2;go_ret;exact⟨_,rfl,(and255 _).1,(and255 _).2,(((C.seth _).drewN _).seti _).cur (by omega) (by omega),grown_trans (grown_trans (grown_setCell w g 2 _) (grown_drewN _ _ _)) (grown_setCell _ g 1 _)⟩
 ·
  clear hb;go_enter Tryd.func52,Tryd.ntmps52
  go_wp2;go_quiet (fail)
  go_wp2;go_quiet (fail)
  go_wp2;go_ret;exact⟨_,rfl,(and255 _).1,(and255 _).2,(((C.seth _).drewN _).drewN _).cur (by omega) (by omega),grown_trans (grown_trans (grown_setCell w g 2 _) (grown_drewN _ _ _)) (grown_drewN _ _ _)⟩
theorem new_any (w:World)(a:Option Addr)(cap:Nat)(zs:List Int)(hb:RdB w w.heap.size a zs):
  Calls Tryd.prog 27 #[.slice a zs.length cap] w fun e w'=>e = .returned (.pointer (some ⟨w.heap.size,0,none⟩))∧Cur w' w.heap.size w.heap.size∧Keep w w':=by
 have hzl:=hb.1;go_enter Tryd.func27,Tryd.ntmps27
 go_wp2;go_loop [3,4] (fun x i=>∃(k:Nat) (h:Int),k≤zs.length∧i = .int .i64 k∧x = .int .i64 h) (fun _ i=>zs.length-(intOf i).toNat)
 case atStart=>exact⟨0,_,Nat.zero_le _,rfl,rfl⟩
 case round=>
  obtain⟨k,h,hk,rfl,rfl⟩:=hrel;by_cases hlt:k<zs.length
  ·
   rcases hb.2 with h|⟨b,off,rfl,hbB,hbs,hcc⟩
   · exfalso;rw[h] at hlt;simp at hlt
   obtain⟨d1,d2,d3⟩:=hcc k hlt;obtain⟨q,hq⟩:∃q,q=zs.getD k 0:=⟨_,rfl⟩;rw[←hq] at d1 d2 d3;clear hcc hq;go_wp2;go_round
   case rel=>exact⟨k+1,_,by omega,by go_num,rfl⟩
   case measure=>simp[intOf];omega
  ·
   go_wp2;go_ret;refine⟨rfl,⟨Nat.le_refl _,a,cap,zs,0,h,heap_alloc_new w _,Nat.zero_le _,?_⟩,(Keep.refl w).alloc _⟩;exact hb.kept (World.grownBy_alloc w _ none) (by simp)
theorem emod_lt' {x n:Int}(h1:1≤n):0≤x % n∧x % n<n:=⟨Int.emod_nonneg x (by omega),Int.emod_lt_of_pos x (by omega)⟩
theorem below_any (w:World)(B g:Nat)(n:Int)(hc:Cur w B g)(h1:1≤n):
  Calls Tryd.prog 28 #[.pointer (some ⟨g,0,none⟩),.int .i64 n] w fun e w'=>∃x,e = .returned (.int .i64 x)∧0≤x∧x<n∧Cur w' B g∧w.grownBy w' (some g):=by
 by_cases h2:n≤256
 ·
  go_enter Tryd.func28,Tryd.ntmps28
  go_wp2_with fail
  refine (byte_any _ B g hc).mono ?_;rintro e w1 ⟨x,rfl,x0,x1,c1,g1⟩;go_wp2;go_ret;exact⟨_,rfl,(emod_lt' h1).1,(emod_lt' h1).2,c1,g1⟩
 ·
  go_enter Tryd.func28,Tryd.ntmps28
  go_wp2_with fail
  refine (byte_any _ B g hc).mono ?_;rintro e w1 ⟨x,rfl,x0,x1,c1,g1⟩;go_wp2_with fail
  refine (byte_any _ B g c1).mono ?_;rintro e w2 ⟨y,rfl,y0,y1,c2,g2⟩;go_wp2_with fail
  refine (byte_any _ B g c2).mono ?_;rintro e w3 ⟨z,rfl,z0,z1,c3,g3⟩;go_wp2_with fail
  refine (byte_any _ B g c3).mono ?_;rintro e w4 ⟨u,rfl,u0,u1,c4,g4⟩;go_wp2;go_ret;exact⟨_,rfl,(emod_lt' h1).1,(emod_lt' h1).2,c4,grown_trans (grown_trans (grown_trans g1 g2) g3) g4⟩
theorem once_any (w:World)(B g:Nat)(n:Int)(hc:Cur w B g)(h1:1≤n):
  Calls Tryd.prog 30 #[.pointer (some ⟨g,0,none⟩),.int .i64 n] w fun e w'=>∃b:Bool,e = .returned (.bool b)∧Cur w' B g∧w.grownBy w' (some g):=by
 go_enter Tryd.func30,Tryd.ntmps30
 go_wp2_with fail
 refine (below_any _ B g _ hc h1).mono ?_;rintro e w1 ⟨x,rfl,x0,x1,c1,g1⟩;go_wp2;go_ret;exact⟨_,rfl,c1,g1⟩
theorem rdb_of_row {w:World}{a:Option Addr}{len cap:Nat}{ys:List Int}(hlen:len≤4096)
  (h:(a=none∧len=0∧cap=0∧ys=[])∨∃x,a=some x∧len≤cap∧cap≤maxLen∧ys.length=cap∧(∀i,i<ys.length→w.cell? (x.add i)=some (.int .u8 (ys.getD i 0)))∧∀n∈ys,(Lit.int .u8 n).wf=true):
  ∃zs:List Int,zs.length=len∧RdB w w.heap.size a zs:=by
 rcases h with ⟨rfl,rfl,rfl,rfl⟩|⟨x,rfl,hl,hm,hy,hc,hw⟩
 · exact⟨[],rfl,by simp,.inl rfl⟩
 ·
  have hzl:(ys.take len).length=len:=by rw[List.length_take];omega
  refine⟨ys.take len,hzl,by omega,?_⟩;by_cases h0:len=0
  · left;subst h0;simp
  ·
   right;obtain⟨b,off,spot⟩:=x;have hc0:=hc 0 (by omega);have hspot:spot=none:=by simpa [Addr.add] using World.cell?_spot hc0
   subst hspot
   have hcc:∀i,i<(ys.take len).length→w.cell? ⟨b,off+i,none⟩=some (.int .u8 ((ys.take len).getD i 0))∧0≤(ys.take len).getD i 0∧(ys.take len).getD i 0≤255:=by
    intro i hi;have hi':i<ys.length:=by omega
    have h1:=hc i hi';have e1:(⟨b,off,none⟩:Addr).add i=⟨b,off+i,none⟩:=by unfold Addr.add;split<;>simp_all
    rw[e1] at h1
    have e2:(ys.take len).getD i 0=ys.getD i 0:=by
     rw[List.getD_eq_getElem?_getD,List.getD_eq_getElem?_getD,List.getElem?_take,if_pos (by omega)]
    rw[e2];refine⟨h1,?_⟩;have hm:ys.getD i 0∈ys:=by rw[List.getD_eq_getElem?_getD,List.getElem?_eq_getElem hi'];exact List.getElem_mem hi'
    have:=bounds_u8 (hw _ hm);omega
   refine⟨b,off,rfl,?_,?_,hcc⟩
   all_goals
    have h2:=(hcc 0 (by omega)).1;apply Classical.byContradiction;intro hnb;have h3:w.heap[b]? = none:=by simp;omega
    simp[World.cell?,h3] at h2
def Dr (w wr:World)(B c:Nat):Prop:=Cur wr B c∧w.grownBy wr (some c)
theorem Dr.step {w wr wr':World}{B c:Nat}(h:Dr w wr B c)(hc:Cur wr' B c)(hg:wr.grownBy wr' (some c)):Dr w wr' B c:=⟨hc,grown_trans h.2 hg⟩
theorem Dr.alloc {w wr:World}{B c:Nat}(h:Dr w wr B c)(o:Obj):Dr w (wr.alloc o) B c:=
 ⟨h.1.keep ((Keep.refl wr).alloc o),grown_trans h.2 (World.grownBy_alloc wr o (some c))⟩
theorem Dr.set {w wr:World}{B c D:Nat}(h:Dr w wr B c)(hD:w.heap.size≤D)(hc:c<w.heap.size)(hB:B≤c)(j:Nat)(x:Value):Dr w (wr.setCell ⟨D,j,none⟩ x) B c:=by
 have hg:=grown_setCell wr D j x;refine⟨h.1.kept hg (by simp;omega) (by intro k hk;simp at hk;omega),?_⟩;exact⟨hg.os.trans h.2.os,hg.tape.trans h.2.tape,hg.output.trans h.2.output,Nat.le_trans h.2.size hg.size,fun i hi hne=>(hg.block i (Nat.lt_of_lt_of_le hi h.2.size) (by simp;omega)).trans (h.2.block i hi hne)⟩
theorem Dr.refl {w:World}{B c:Nat}(h:Cur w B c):Dr w w B c:=⟨h,grown_drewN w 0 _⟩
def RowB (w:World)(B:Nat)(v:Value)(xs:List Int):Prop:=
 ∃(a:Option Addr) (cap:Nat),v = .slice a xs.length cap∧xs.length≤cap ∧
  (xs=[]∨∃g,a=some ⟨g,0,none⟩∧B≤g∧g<w.heap.size∧∀i,i<xs.length→w.cell? ⟨g,i,none⟩=some (.int .u8 (xs.getD i 0))∧w.frozen? ⟨g,i,none⟩=false)
theorem frozen_of_block {w w':World}{g i:Nat}(h:w'.heap[g]? = w.heap[g]?):w'.frozen? ⟨g,i,none⟩=w.frozen? ⟨g,i,none⟩:=by simp[World.frozen?,h]
theorem RowB.kept {w w':World}{B:Nat}{v:Value}{xs:List Int}{row:Option Nat}(h:RowB w B v xs)(hg:w.grownBy w' row)(hr:∀k,row=some k→k<B):RowB w' B v xs:=by
 obtain⟨a,cap,hv,hl,h⟩:=h;refine⟨a,cap,hv,hl,?_⟩;rcases h with h|⟨g,ha,hB,hs,hc⟩
 · exact .inl h
 ·
  have hb:=hg.block g hs (fun e=>by have:=hr g e.symm;omega);exact .inr ⟨g,ha,hB,Nat.lt_of_lt_of_le hs hg.size,fun i hi=>⟨(World.cell?_of_block (w:=w) hb).trans (hc i hi).1,(frozen_of_block hb).trans (hc i hi).2⟩⟩
theorem RowB.ofOwn {w:World}{B:Nat}{v:Value}{xs:List Int}(h:w.ownsRow B 5 1 v xs.length (xs.map (Value.int .u8))):RowB w B v xs:=by
 have hlt:=World.ownsRow.lt h;rcases h.2 with ⟨rfl,hn⟩|⟨g,cap,cur,rfl,hb,hg,hcap,rest⟩
 ·
  have:xs=[]:=List.eq_nil_of_length_eq_zero hn;subst this;exact⟨none,0,rfl,Nat.le_refl _,.inl rfl⟩
 ·
  refine⟨some ⟨g,0,none⟩,cap,rfl,hcap,.inr ⟨g,rfl,hb,(hlt g rfl).2,fun i hi=>⟨?_,World.ownsRow.frozenAt h i⟩⟩⟩;have hc:=World.ownsRow.cellAt h i (by simpa using hi);rw[hc,List.getElem?_map,List.getElem?_eq_getElem hi,List.getD_eq_getElem?_getD,List.getElem?_eq_getElem hi];rfl
def numsOf (l:List UInt8):List Int:=l.map fun b=>(b.toNat:Int)
theorem RowB.ofString (w:World)(l:List UInt8)(cap:Nat)(hcap:l.length≤cap):RowB (Lib.bytesWorld w 5 ⟨l.toArray⟩) w.heap.size (.slice (some ⟨w.heap.size,0,none⟩) l.length cap) (numsOf l):=by
 have hl:(numsOf l).length=l.length:=by simp[numsOf]
 have hsz:(⟨l.toArray⟩:ByteArray).size=l.length:=by simp[ByteArray.size]
 refine⟨some ⟨w.heap.size,0,none⟩,cap,by rw[hl],by omega,?_⟩;by_cases h0:l=[]
 · left;subst h0;rfl
 ·
  refine .inr ⟨w.heap.size,rfl,Nat.le_refl _,by rw[Lib.bytesWorld_size];omega,fun i hi=>⟨?_,?_⟩⟩
  ·
   rw[Lib.bytesWorld_cell _ _ _ i (by rw[hsz];omega)]
   congr 2
   simp[numsOf,List.getD_eq_getElem?_getD,List.getElem?_map];cases h:l[i]?<;>simp
  ·
   have hn:=Lib.bytesWorld_at_new w 5 ⟨l.toArray⟩
   have hcs:l.length≤(Lib.bytesCells w 5 ⟨l.toArray⟩).size:=by
    simp[Lib.bytesCells]
   simp only[World.frozen?,hn];simp;omega
theorem RowB.take {w:World}{B g cap k:Nat}{xs:List Int}(hB:B≤g)(hs:g<w.heap.size)(hcap:xs.length≤cap)(hc:∀i,i<xs.length→w.cell? ⟨g,i,none⟩=some (.int .u8 (xs.getD i 0))∧w.frozen? ⟨g,i,none⟩=false)(hk:k≤xs.length):
  RowB w B (.slice (some ⟨g,0,none⟩) k cap) (xs.take k):=by
 have hl:(xs.take k).length=k:=by rw[List.length_take];omega
 refine⟨some ⟨g,0,none⟩,cap,by rw[hl],by omega,.inr ⟨g,rfl,hB,hs,fun i hi=>?_⟩⟩;have e:(xs.take k).getD i 0=xs.getD i 0:=by rw[List.getD_eq_getElem?_getD,List.getD_eq_getElem?_getD,List.getElem?_take,if_pos (by omega)]
 rw[e];exact hc i (by omega)
theorem RowB.set {w:World}{B g cap k:Nat}{xs:List Int}(hB:B≤g)(hs:g<w.heap.size)(hcap:xs.length≤cap)(hc:∀i,i<xs.length→w.cell? ⟨g,i,none⟩=some (.int .u8 (xs.getD i 0))∧w.frozen? ⟨g,i,none⟩=false)(hk:k<xs.length)(y:Int):
  RowB (w.setCell ⟨g,k,none⟩ (.int .u8 y)) B (.slice (some ⟨g,0,none⟩) xs.length cap) (xs.set k y):=by
 refine⟨some ⟨g,0,none⟩,cap,by simp,by simpa using hcap,.inr ⟨g,rfl,hB,by simpa using hs,fun i hi=>?_⟩⟩;have hi':i<xs.length:=by simpa using hi
 have hf:(w.setCell ⟨g,k,none⟩ (.int .u8 y)).frozen? ⟨g,i,none⟩=w.frozen? ⟨g,i,none⟩:=by simp
 rw[hf];refine⟨?_,(hc i hi').2⟩;by_cases e:i=k
 ·
  subst e;rw[World.cell?_setCell_same _ _ _ (hc i hi').1];simp[List.getD_eq_getElem?_getD,hi']
 ·
  rw[World.cell?_setCell_other _ _ _ _ (by simp),(hc i hi').1];simp[List.getD_eq_getElem?_getD,Ne.symm e]
theorem RowB.open {w:World}{B g cap:Nat}{xs:List Int}(h:RowB w B (.slice (some ⟨g,0,none⟩) xs.length cap) xs)(h1:1≤xs.length):
  g<w.heap.size∧∀i,i<xs.length→w.cell? ⟨g,i,none⟩=some (.int .u8 (xs.getD i 0))∧w.frozen? ⟨g,i,none⟩=false:=by
 obtain⟨a,cap',hv,_,h⟩:=h;simp only[Value.slice.injEq] at hv;obtain⟨rfl,_,rfl⟩:=hv;rcases h with h|⟨g',hg,_,hs,hc⟩
 · rw[h] at h1;simp at h1
 ·
  simp only[Option.some.injEq,Addr.mk.injEq,and_true] at hg;subst hg;exact⟨hs,hc⟩
theorem news_of {W:World}{g o n:Nat}{xs:List Int}(hc:∀i,i<xs.length→W.cell? ⟨g,i,none⟩=some (.int .u8 (xs.getD i 0))):
  ∀j u,(((xs.drop o).take n).map (Value.int .u8))[j]? = some u→W.cell? ((⟨g,o,none⟩:Addr).add j)=some u:=by
 intro j u hj;have hadd:(⟨g,o,none⟩:Addr).add j=⟨g,o+j,none⟩:=by unfold Addr.add;split<;>simp_all
 rw[List.getElem?_map,Option.map_eq_some_iff] at hj;obtain⟨y,hy,rfl⟩:=hj;rw[List.getElem?_take] at hy;split at hy
 ·
  rw[List.getElem?_drop] at hy
  have hl:o+j<xs.length:=by
   rw[List.getElem?_eq_some_iff] at hy;exact hy.1
  rw[hadd,hc (o+j) hl,List.getD_eq_getElem?_getD,hy];rfl
 · cases hy
theorem one_of {xs:List Int}:∀u∈xs.map (Value.int .u8),u.oneCell'=true:=by
 intro u hu;obtain⟨y,_,rfl⟩:=List.mem_map.1 hu;rfl
theorem RowB.ofTwo {w:World}{B n:Nat}{v:Value}{a b:List Int}(h:w.ownsRow B 5 1 v n (([]++a.map (Value.int .u8))++b.map (Value.int .u8)))(hn:n=(a++b).length):RowB w B v (a++b):=by
 subst hn;refine RowB.ofOwn ?_
 simpa using h
theorem RowB.ofThree {w:World}{B n:Nat}{v:Value}{a b d:List Int}(h:w.ownsRow B 5 1 v n ((([]++a.map (Value.int .u8))++b.map (Value.int .u8))++d.map (Value.int .u8)))(hn:n=(a++b++d).length):RowB w B v (a++b++d):=by
 subst hn;refine RowB.ofOwn ?_
 simpa using h
theorem cell_far {w w':World}{row:Option Nat}{g i:Nat}(hg:w.grownBy w' row)(hs:g<w.heap.size)(hne:row≠some g):w'.cell? ⟨g,i,none⟩=w.cell? ⟨g,i,none⟩:=
 World.cell?_of_block (w:=w) (hg.block g hs (fun e=>hne e.symm))
theorem wrap_k1 (k:Nat)(h:k≤2000):IntKind.i64.wrap ((k:Int)+1)=(k:Int)+1:=by
 rw[IntKind.wrap_i64];omega
theorem RowB.mono {w:World}{B B':Nat}{v:Value}{xs:List Int}(h:RowB w B v xs)(hB:B'≤B):RowB w B' v xs:=by
 obtain⟨a,cap,hv,hl,h⟩:=h;refine⟨a,cap,hv,hl,?_⟩;rcases h with h|⟨g,ha,hg,rest⟩
 · exact .inl h
 · exact .inr ⟨g,ha,Nat.le_trans hB hg,rest⟩
theorem news_one (W:World)(x:Int):∀j u,([x].map (Value.int .u8))[j]? = some u→(W.alloc (.cells #[.int .u8 x] 5)).cell? ((⟨W.heap.size,0,none⟩:Addr).add j)=some u:=by
 intro j u hj
 match j,hj with
 | 0,hj=>
  simp at hj;subst hj;simp[Addr.add]
theorem Dr.kept {w wr wr':World}{B c:Nat}{row:Option Nat}(h:Dr w wr B c)(hg:wr.grownBy wr' row)(hr:∀k,row=some k→w.heap.size≤k)(hc:c<w.heap.size)(hB:B≤c):Dr w wr' B c:=by
 refine⟨h.1.kept hg (fun e=>by have:=hr c e;omega) (fun k hk=>by have:=hr k hk;omega),?_⟩;exact⟨hg.os.trans h.2.os,hg.tape.trans h.2.tape,hg.output.trans h.2.output,Nat.le_trans h.2.size hg.size,fun i hi hne=>(hg.block i (Nat.lt_of_lt_of_le hi h.2.size) (fun e=>by have:=hr i e.symm;omega)).trans (h.2.block i hi hne)⟩
theorem Dr.keep {w wr wr':World}{B c:Nat}(h:Dr w wr B c)(k:Keep wr wr'):Dr w wr' B c:=⟨h.1.keep k,grown_trans h.2 ⟨Below.os k,Below.tape k,Below.output k,Below.size k,fun i hi _=>Below.block k i hi⟩⟩
theorem toStr {w:World}{B:Nat}{v:Value}{xs:List Int}(h:RowB w B v xs):∃l:List UInt8,l.length=xs.length∧(convert 22 9 v).run Tryd.prog w = .ok (strV l) w:=by
 obtain⟨a,cap,rfl,hcap,h⟩:=h;rcases h with h|⟨g,rfl,hB,hs,hc⟩
 ·
  subst h;exact⟨[],rfl,run_convert_bytes_zero w 22 5 Tryd.underlying22 Tryd.underlying5 a cap 9 Tryd.underlying9⟩
 ·
  refine⟨xs.map fun n=>UInt8.ofNat n.toNat,by simp,?_⟩;exact run_convert_bytes_arg (P:=Tryd.prog) w 22 5 Tryd.underlying22 Tryd.underlying5 g 0 xs.length cap xs rfl (fun i hi=>by rw[Nat.zero_add];exact (hc i hi).1) 9 Tryd.underlying9
theorem step_append_own {P:Program}{w:World}{ops:Array Oper}{o:Oper}{a:Act}{K:Act→World→Prop}{Q:Exit→Act→World→Prop}{E:Prop}(hgd:o.guard=none)(s x:Operand)(t:TypeId)
  (ho:o.op = .call { callee:= .builtin .append,args:=#[s,x],argTypes:=#[t,t] })
  (base:Nat) (e:TypeId) (i:TypeInfo) (z:Value) (size bytes:Nat) (ht:P.underlying t=some (.slice e)) (hi:P.info? e=some i) (hz:i.zero=some z)
  (hsize:i.size=size) (hby:i.bytes=bytes) (hzs:z.cells.size=size) (hsz:0<size)
  (v:Value) (n:Nat) (xs:List Value) (hs:a.eval s=v) (hown:w.ownsRow base e size v n xs)
  (ad:Addr) (m c:Nat) (news:List Value) (hx:a.eval x = .slice (some ad) m c) (hl:news.length=m*size) (hnews:∀j u,news[j]? = some u→w.cell? (ad.add j)=some u) (h1:∀u∈news,u.oneCell'=true)
  (h63:n+m≤maxLen) (hbytes:(n+m)*bytes≤140737488355328) (hbase:base≤w.heap.size)
  (h:∀v' w',w'.ownsRow base e size v' (n+m) (xs++news)→w.grownBy w' v.ownBlock→K (a.put o.dst v') w'):
  if Region.wanted o (yielded ops a.tmps)=true then Oper.wp P o a w K Q else E:=by
 have hw:Region.wanted o (yielded ops a.tmps)=true:=by simp[Region.wanted,hgd]
 rw[if_pos hw];exact wp_append_own w s x t ho base e i z size bytes ht hi hz hsize hby hzs hsz v n xs hs hown ad m c news hx hl hnews h1 h63 hbytes hbase fun v' w' h2 h3 _=>h v' w' h2 h3
theorem Tryd.infoB:(Tryd.prog.info? 5).map (fun i=>(i.zero,i.size,i.bytes))=some (some (.int .u8 0),1,1):=by kernel_rfl
theorem l1Bend_any (w:World)(B c:Nat)(l sg:List UInt8)(hc:Cur w B c)(hl:l.length≤1000)(h1:1≤sg.length)(h2:sg.length≤100):
  Calls Tryd.prog 31 #[.pointer (some ⟨c,0,none⟩),strV l,strV sg] w fun e w'=>∃l':List UInt8,e = .returned (strV l')∧l'.length≤l.length+2∧Dr w w' B c:=by
 have hcl:=hc.lt;have hB:=hc.1;have hsz:(⟨l.toArray⟩:ByteArray).size=l.length:=by simp[ByteArray.size]
 have hconv:=Lib.run_convert_string_bytes (P:=Tryd.prog) w 9 22 5 ⟨l.toArray⟩ Tryd.underlying9 Tryd.underlying22 Tryd.underlying5;rw[hsz] at hconv;have D0:=(Dr.refl hc).keep (Lib.bytesWorld_below w 5 ⟨l.toArray⟩);have R0:=fun cap h=>RowB.ofString w l cap h
 obtain⟨w0,hw0⟩:∃w0,w0=Lib.bytesWorld w 5 ⟨l.toArray⟩:=⟨_,rfl⟩;rw[←hw0] at hconv D0 R0;clear hw0 hsz;go_enter Tryd.func31,Tryd.ntmps31
 go_wp2_with fail
 refine (below_any _ B c _ D0.1 (by omega)).mono ?_;rintro e w1 ⟨n,rfl,n0,n1,c1,g1⟩;have R1:=(R0 _ (grownCap_ge w l.length 0 5)).kept g1 (by intro k hk;simp at hk;omega);have D1:=D0.step c1 g1;clear R0 D0 c1 g1 hconv;obtain⟨m,rfl⟩:=Int.eq_ofNat_of_zero_le n0;go_wp2;go_loopw [7,8] (fun v n wr=>∃(u:Value) (xs:List Int) (m:Nat),u=v∧n = .int .i64 m∧m≤2∧xs.length+m≤l.length+2∧RowB wr w.heap.size u xs∧Dr w wr B c) (fun _ n _=>(intOf n).toNat)
 case atStart=>exact⟨_,numsOf l,m,rfl,rfl,by omega,by simp[numsOf];omega,R1,D1⟩
 case round=>
  clear R1 D1 n0 n1;obtain⟨u,xs,m,rfl,rfl,hm,hlen,hR,hD⟩:=hrel;obtain⟨l',hl',hstr⟩:=toStr hR;by_cases hm0:m=0
  ·
   subst hm0;go_wp2;go_ret;exact⟨l',rfl,by omega,hD⟩
  ·
   have hm1:1≤m:=by omega
   by_cases hx0:xs=[]
   ·
    subst hx0;obtain⟨a,cap,rfl,hcap,hx⟩:=hR;have hstr':(convert 22 9 (.slice a 0 cap)).run Tryd.prog wr = .ok (strV l') wr:=hstr;clear hstr;go_wp2;go_ret;exact⟨l',rfl,by omega,hD⟩
   have hx1:1≤xs.length:=by
    cases xs with
    |nil=>exact absurd rfl hx0
    |cons _ _=>simp
   clear hstr hl';have Hm:Hid (((m-1:Nat):Int)=(m:Int)-1):=Lib.hid (by omega);obtain⟨a,cap,rfl,hcap,hx⟩:=hR
   obtain⟨g,rfl,hgB,hgs,hcc⟩:∃g,a=some ⟨g,0,none⟩∧w.heap.size≤g∧g<wr.heap.size∧∀i,i<xs.length→wr.cell? ⟨g,i,none⟩=some (.int .u8 (xs.getD i 0))∧wr.frozen? ⟨g,i,none⟩=false:=by
    rcases hx with h|h
    · exact absurd h hx0
    · exact h
   clear hx hx0;go_wp2_with fail
   refine (below_any _ B c _ hD.1 (by omega)).mono ?_;rintro e w2 ⟨k,rfl,k0,k1,c2,g2⟩;obtain⟨k,rfl⟩:=Int.eq_ofNat_of_zero_le k0;have D2:=hD.step c2 g2;have R2:RowB w2 w.heap.size (.slice (some ⟨g,0,none⟩) xs.length cap) xs:=RowB.kept ⟨_,_,rfl,hcap,.inr ⟨g,rfl,hgB,hgs,hcc⟩⟩ g2 (by intro k hk;simp at hk;omega);clear hD c2 g2 hcc hgs;go_wp2_with fail
   refine (below_any _ B c _ D2.1 (by omega)).mono ?_;rintro e w3 ⟨t,rfl,t0,t1,c3,g3⟩;have D3:=D2.step c3 g3;have R3:=R2.kept g3 (by intro k hk;simp at hk;omega);clear D2 R2 c3 g3;have hkl:k<xs.length:=by omega
   have ht:t=0∨t=1∨t=2∨t=3:=by omega
   clear t0 t1;rcases ht with rfl|rfl|rfl|rfl
   ·
    go_wp2_with fail
    refine (below_any _ B c _ D3.1 (by omega)).mono ?_;rintro e w4 ⟨z,rfl,z0,z1,c4,g4⟩;obtain⟨z,rfl⟩:=Int.eq_ofNat_of_zero_le z0;have D4:=D3.step c4 g4;have R4:=R3.kept g4 (by intro k hk;simp at hk;omega);clear D3 R3 c4 g4;have hget:=get_at sg z (by rw[size_at];omega);obtain⟨hgs,hcc⟩:=R4.open hx1;obtain⟨d1,d2⟩:=hcc k hkl;go_wp2;go_roundw;case rel=>exact⟨_,xs.set k ((byteAt sg z).toNat:Int),m-1,rfl,by rw[Hm.out],by omega,by simp;omega,RowB.set hgB hgs hcap hcc hkl _,D4.set hgB hcl hB k _⟩
    case measure=>simp[intOf];omega
   ·
    obtain⟨hgs,hcc⟩:=R3.open hx1;go_wp2;go_roundw;case rel=>exact⟨_,xs.take k,m-1,rfl,by rw[Hm.out],by omega,by rw[List.length_take];omega,RowB.take hgB hgs hcap hcc (by omega),D3⟩
    case measure=>simp[intOf];omega
   ·
    obtain⟨hgs,hcc⟩:=R3.open hx1;obtain⟨i0,hi,hz0,hz1,hz2⟩:=info_parts Tryd.infoB;have b0:(0:Int)≤(k:Int):=Int.natCast_nonneg _;have b1:(k:Int)≤(xs.length:Int):=by omega
    have b2:(k:Int)+1≤(xs.length:Int):=by omega
    have b3:(k:Int)≤(cap:Int):=by omega
    have b4:(xs.length:Int)≤(cap:Int):=by omega
    have hcW:∀i,i<xs.length→((w3.alloc (.cells #[] 5)).drew).cell? ⟨g,i,none⟩=some (.int .u8 (xs.getD i 0)):=fun i hi=>(((Keep.refl w3).alloc _).drew.cell hgs).trans (hcc i hi).1
    have hws:w.heap.size≤w3.heap.size:=D3.2.size;have HO:((w3.alloc (.cells #[] 5)).drew).ownsRow w.heap.size 5 1 (.slice (some ⟨w3.heap.size,0,none⟩) 0 0) 0 []:=World.ownsRow.drew (World.ownsRow_lit w3 #[] 0 hws (by decide) rfl);have HL1:(((xs.drop 0).take k).map (Value.int .u8)).length=k*1:=by simp;omega
    have HX1:0+k≤maxLen:=by unfold maxLen;omega
    have HX2:(0+k)*1≤140737488355328:=by omega
    have HX3:w.heap.size≤((w3.alloc (.cells #[] 5)).drew).heap.size:=by rw[heap_drew,heap_size];omega
    have HGS:g<((w3.alloc (.cells #[] 5)).drew).heap.size:=by rw[heap_drew,heap_size];omega
    have HNE:some w3.heap.size≠some g:=by simp;omega
    have hwr:=wrap_k1 k (by omega);have b5:(0:Int)≤(k:Int)+1:=by omega
    have b6:(k:Int)≤(k:Int)+1:=by omega
    have HX4:0+k+(xs.length-(k+1))≤maxLen:=by unfold maxLen;omega
    have HX5:(0+k+(xs.length-(k+1)))*1≤140737488355328:=by omega
    by_cases hck:cap=k+1
    ·
     subst hck;have HL2:(((xs.drop 0).take 0).map (Value.int .u8)).length=0*1:=by simp
     have HX4:0+k+0≤maxLen:=by unfold maxLen;omega
     have HX5:(0+k+0)*1≤140737488355328:=by omega
     go_wp2_with fail
     go_region_law ((first|(refine step_append_own (by rfl) _ _ 22 (by rfl) w.heap.size 5 i0 (.int .u8 0) 1 1 Tryd.underlying22 hi hz0 hz1 hz2 rfl (by decide) (.slice (some ⟨w3.heap.size,0,none⟩) 0 0) 0 [] (by rfl) HO ⟨g,0,none⟩ k _ (((xs.drop 0).take k).map (Value.int .u8)) (by rfl) HL1 (news_of hcW) one_of HX1 HX2 HX3 ?_;intro v1 wa o1 gr1;have hne1:some w3.heap.size≠some g:=HNE;have hcA:∀i,i<xs.length→wa.cell? ⟨g,i,none⟩=some (.int .u8 (xs.getD i 0)):=(fun i hi=>(cell_far gr1 HGS hne1).trans (hcW i hi));have HX6:=Nat.le_trans HX3 gr1.size)|(refine step_append_own (by rfl) _ _ 22 (by rfl) w.heap.size 5 i0 (.int .u8 0) 1 1 Tryd.underlying22 hi hz0 hz1 hz2 rfl (by decide) v1 (0+k) _ (by rfl) o1 ⟨g,0,none⟩ 0 _ (((xs.drop 0).take 0).map (Value.int .u8)) (by rfl) HL2 (news_of hcA) one_of HX4 HX5 HX6 ?_;intro v2 wb o2 gr2)))
     all_goals
      go_wp2;go_roundw;case rel=>exact⟨_,((xs.drop 0).take k)++((xs.drop 0).take 0),m-1,rfl,by rw[Hm.out],by omega,by simp;omega,RowB.ofTwo o2 (by simp;omega),((D3.keep (((Keep.refl w3).alloc _).drew)).kept gr1 (by intro k hk;simp[Value.ownBlock] at hk;omega) hcl hB).kept gr2 (fun k hk=>(World.ownsRow.lt o1 k hk).1) hcl hB⟩
      case measure=>simp[intOf];omega
    ·
     have HL2:(((xs.drop (k+1)).take (xs.length-(k+1))).map (Value.int .u8)).length=(xs.length-(k+1))*1:=by simp
     go_wp2_with fail
     go_region_law ((first|(refine step_append_own (by rfl) _ _ 22 (by rfl) w.heap.size 5 i0 (.int .u8 0) 1 1 Tryd.underlying22 hi hz0 hz1 hz2 rfl (by decide) (.slice (some ⟨w3.heap.size,0,none⟩) 0 0) 0 [] (by rfl) HO ⟨g,0,none⟩ k _ (((xs.drop 0).take k).map (Value.int .u8)) (by rfl) HL1 (news_of hcW) one_of HX1 HX2 HX3 ?_;intro v1 wa o1 gr1;have hne1:some w3.heap.size≠some g:=HNE;have hcA:∀i,i<xs.length→wa.cell? ⟨g,i,none⟩=some (.int .u8 (xs.getD i 0)):=(fun i hi=>(cell_far gr1 HGS hne1).trans (hcW i hi));have HX6:=Nat.le_trans HX3 gr1.size)|(refine step_append_own (by rfl) _ _ 22 (by rfl) w.heap.size 5 i0 (.int .u8 0) 1 1 Tryd.underlying22 hi hz0 hz1 hz2 rfl (by decide) v1 (0+k) _ (by rfl) o1 ⟨g,k+1,none⟩ (xs.length-(k+1)) _ (((xs.drop (k+1)).take (xs.length-(k+1))).map (Value.int .u8)) (by rfl) HL2 (news_of hcA) one_of HX4 HX5 HX6 ?_;intro v2 wb o2 gr2)))
     all_goals
      go_wp2;go_roundw;case rel=>exact⟨_,((xs.drop 0).take k)++((xs.drop (k+1)).take (xs.length-(k+1))),m-1,rfl,by rw[Hm.out],by omega,by simp;omega,RowB.ofTwo o2 (by simp;omega),((D3.keep (((Keep.refl w3).alloc _).drew)).kept gr1 (by intro k hk;simp[Value.ownBlock] at hk;omega) hcl hB).kept gr2 (fun k hk=>(World.ownsRow.lt o1 k hk).1) hcl hB⟩
      case measure=>simp[intOf];omega
   ·
    obtain⟨hgs,hcc⟩:=R3.open hx1;obtain⟨i0,hi,hz0,hz1,hz2⟩:=info_parts Tryd.infoB;have b0:(0:Int)≤(k:Int):=Int.natCast_nonneg _;have b1:(k:Int)≤(xs.length:Int):=by omega
    have b3:(k:Int)≤(cap:Int):=by omega
    have b4:(xs.length:Int)≤(cap:Int):=by omega
    have hck:¬cap=k:=by omega
    have hws:w.heap.size≤w3.heap.size:=D3.2.size;have hcW:∀i,i<xs.length→((w3.alloc (.cells #[] 5)).drew).cell? ⟨g,i,none⟩=some (.int .u8 (xs.getD i 0)):=fun i hi=>(((Keep.refl w3).alloc _).drew.cell hgs).trans (hcc i hi).1
    have HO:((w3.alloc (.cells #[] 5)).drew).ownsRow w3.heap.size 5 1 (.slice (some ⟨w3.heap.size,0,none⟩) 0 0) 0 []:=World.ownsRow.drew (World.ownsRow_lit w3 #[] 0 (Nat.le_refl _) (by decide) rfl);have HL1:(((xs.drop 0).take k).map (Value.int .u8)).length=k*1:=by simp;omega
    have HX1:0+k≤maxLen:=by unfold maxLen;omega
    have HX2:(0+k)*1≤140737488355328:=by omega
    have HX3:w3.heap.size≤((w3.alloc (.cells #[] 5)).drew).heap.size:=by rw[heap_drew,heap_size];omega
    have HGS:g<((w3.alloc (.cells #[] 5)).drew).heap.size:=by rw[heap_drew,heap_size];omega
    have HNE:some w3.heap.size≠some g:=by simp;omega
    have DW:=D3.keep (((Keep.refl w3).alloc (.cells #[] 5)).drew);have HY1:0+k+1≤maxLen:=by unfold maxLen;omega
    have HY2:(0+k+1)*1≤140737488355328:=by omega
    have HZ1:0+k+1+(xs.length-k)≤maxLen:=by unfold maxLen;omega
    have HZ2:(0+k+1+(xs.length-k))*1≤140737488355328:=by omega
    have HL3:(((xs.drop k).take (xs.length-k)).map (Value.int .u8)).length=(xs.length-k)*1:=by simp
    have hkB:∀j:Nat,some w3.heap.size=some j→w.heap.size≤j:=by intro j hj;simp at hj;omega
    go_wp2_with fail
    go_region_law ((first
     | (refine step_append_own (by rfl) _ _ 22 (by rfl) w3.heap.size 5 i0 (.int .u8 0) 1 1 Tryd.underlying22 hi hz0 hz1 hz2 rfl (by decide) (.slice (some ⟨w3.heap.size,0,none⟩) 0 0) 0 [] (by rfl) HO ⟨g,0,none⟩ k _ (((xs.drop 0).take k).map (Value.int .u8)) (by rfl) HL1 (news_of hcW) one_of HX1 HX2 HX3 ?_;intro v1 wa o1 gr1;have DA:Dr w wa B c:=DW.kept gr1 hkB hcl hB;have hcA:∀i,i<xs.length→wa.cell? ⟨g,i,none⟩=some (.int .u8 (xs.getD i 0)):=(fun i hi=>(cell_far gr1 HGS HNE).trans (hcW i hi));have HA3:=Nat.le_trans HX3 gr1.size;have HAg:=Nat.lt_of_lt_of_le HGS gr1.size;have hv1:∀j,v1.ownBlock=some j→w3.heap.size≤j:=(fun j hj=>(World.ownsRow.lt o1 j hj).1))
     | (refine step_append_own (by rfl) _ _ 22 (by rfl) w3.heap.size 5 i0 (.int .u8 0) 1 1 Tryd.underlying22 hi hz0 hz1 hz2 rfl (by decide) v1 (0+k) _ (by rfl) (World.ownsRow.alloc o1b _) ⟨wb.heap.size,0,none⟩ 1 1 ([((byteAt sg z).toNat:Int)].map (Value.int .u8)) (by rfl) (by rfl) (news_one wb _) one_of HY1 HY2 HB4 ?_;intro v2 wd o2 gr2;have DD:Dr w wd B c:=(DB.alloc _).kept gr2 (fun j hj=>Nat.le_trans hws (hv1 j hj)) hcl hB;have hcD:∀i,i<xs.length→wd.cell? ⟨g,i,none⟩=some (.int .u8 (xs.getD i 0)):=(fun i hi=>(cell_far gr2 (Nat.lt_trans HBg (by rw[heap_size];omega)) (fun e=>by have:=hv1 g e;omega)).trans ((((Keep.refl wb).alloc _).cell HBg).trans (hcB i hi)));have HD3:=Nat.le_trans HB4 gr2.size)
     | (refine step_append_own (by rfl) _ _ 22 (by rfl) w3.heap.size 5 i0 (.int .u8 0) 1 1 Tryd.underlying22 hi hz0 hz1 hz2 rfl (by decide) v2 (0+k+1) _ (by rfl) o2 ⟨g,k,none⟩ (xs.length-k) _ (((xs.drop k).take (xs.length-k)).map (Value.int .u8)) (by rfl) HL3 (news_of hcD) one_of HZ1 HZ2 HD3 ?_;intro v3 wf o3 gr3)
     | (go_simp;refine (below_any wa B c _ DA.1 (by omega)).mono ?_;rintro e wb ⟨z,rfl,z0,z1,c4,g4⟩;obtain⟨z,rfl⟩:=Int.eq_ofNat_of_zero_le z0;have hget:=get_at sg z (by rw[size_at];omega);have DB:=DA.step c4 g4;have hcB:∀i,i<xs.length→wb.cell? ⟨g,i,none⟩=some (.int .u8 (xs.getD i 0)):=(fun i hi=>(cell_far g4 HAg (by simp;omega)).trans (hcA i hi));have HBg:=Nat.lt_of_lt_of_le HAg g4.size;have HB3:=Nat.le_trans HA3 g4.size;have o1b:=World.ownsRow.kept o1 g4 (by (cases hv:v1.ownBlock with|none=>exact .inl rfl|some j=>exact .inr (fun e=>by (have:=hv1 j hv;simp at e;omega))));have HB4:w3.heap.size≤(wb.alloc (.cells #[.int .u8 ((byteAt sg z).toNat:Int)] 5)).heap.size:=by (rw[heap_size];omega))))
    all_goals
     go_wp2;go_roundw;case rel=>exact⟨_,((xs.drop 0).take k)++[((byteAt sg z).toNat:Int)]++((xs.drop k).take (xs.length-k)),m-1,rfl,by rw[Hm.out],by omega,by simp;omega,(RowB.ofThree o3 (by simp;omega)).mono hws,DD.kept gr3 (fun j hj=>Nat.le_trans hws (World.ownsRow.lt o2 j hj).1) hcl hB⟩
     case measure=>simp[intOf];omega
theorem conv_one (w:World)(x:Int):
  (convert 22 9 (.slice (some ⟨w.heap.size,0,none⟩) 1 1)).run Tryd.prog (w.alloc (.cells #[.int .u8 x] 5)) = .ok (.string ⟨#[UInt8.ofNat x.toNat]⟩) (w.alloc (.cells #[.int .u8 x] 5)):=by
 have:=run_convert_bytes_arg (P:=Tryd.prog) (w.alloc (.cells #[.int .u8 x] 5)) 22 5 Tryd.underlying22 Tryd.underlying5 w.heap.size 0 1 1 [x] rfl (fun i hi=>by
  obtain rfl:i=0:=by omega
  exact box_cell (Keep.refl _) 0) 9 Tryd.underlying9
 exact this
def decs (n:Int):List UInt8:=if n=0 then [] else Lib.decDigits n.natAbs
theorem decs_step (y:Int)(hy:¬y=0):decs (y.tdiv 10)++[UInt8.ofNat (48+y.natAbs % 10)]=decs y:=by
 unfold decs;rw[if_neg hy];have e:(y.tdiv 10).natAbs=y.natAbs / 10:=by rw[Int.natAbs_tdiv];rfl
 by_cases h:y.natAbs<10
 ·
  rw[if_pos (by omega),Lib.decDigits,dif_pos h];simp[Nat.mod_eq_of_lt h]
 ·
  rw[if_neg (by omega),e]
  conv=>rhs;rw[Lib.decDigits,dif_neg h]
theorem dec_first (y:Int):decs (y.tdiv 10)++[UInt8.ofNat (48+y.natAbs % 10)]=Lib.decDigits y.natAbs:=by
 by_cases h:y=0
 · subst h;rw[show (0:Int).natAbs=0 from rfl,Lib.decDigits,dif_pos (by omega)];rfl
 · rw[decs_step y h];unfold decs;rw[if_neg h]
theorem tm10 (y:Int):(y.tmod 10).natAbs=y.natAbs % 10:=Int.natAbs_tmod y 10
theorem td10 (y:Int):(y.tdiv 10).natAbs=y.natAbs / 10:=Int.natAbs_tdiv y 10
theorem td_in {y:Int}(h0:-9223372036854775808≤y)(h1:y≤9223372036854775807):-9223372036854775808≤y.tdiv 10∧y.tdiv 10≤9223372036854775807:=by
 have:=td10 y;omega
theorem dig_neg {y:Int}(h:y.tmod 10<0):UInt8.ofNat (wrap64 (48+wrap64 (-y.tmod 10)) % 256).toNat=UInt8.ofNat (48+y.natAbs % 10):=by
 have:=tm10 y;rw[wrap64_small (-y.tmod 10) (by omega) (by omega),wrap64_small _ (by omega) (by omega)]
 congr 1
 omega
theorem dig_pos {y:Int}(h:¬y.tmod 10<0):UInt8.ofNat (wrap64 (48+y.tmod 10) % 256).toNat=UInt8.ofNat (48+y.natAbs % 10):=by
 have:=tm10 y;rw[wrap64_small _ (by omega) (by omega)]
 congr 1
 omega
theorem decs_len {n:Int}(h0:-9223372036854775808≤n)(h1:n≤9223372036854775807):(Lib.decDigits n.natAbs).length≤21:=by
 by_cases h:n<0
 ·
  have:=Lib.itoa_length_le n h0 h1;unfold Lib.itoa at this;rw[if_pos h] at this;simp only[List.length_cons] at this;omega
 ·
  have:=Lib.itoa_length_le n h0 h1;unfold Lib.itoa at this;rw[if_neg h] at this;have e:n.toNat=n.natAbs:=by omega
  rw[e] at this;exact this
theorem str_cons (c:UInt8)(l:List UInt8):Value.string ((⟨#[c]⟩:ByteArray)++⟨l.toArray⟩)=strV (c::l):=by
 have e:(⟨#[c]⟩:ByteArray)++⟨l.toArray⟩=⟨(c::l).toArray⟩:=by
  apply ByteArray.ext;simp
 rw[e]
def strLen (v:Value):Nat:=match v with
 | .string b=>b.size
 |_=>0
theorem strLen_strV (l:List UInt8):strLen (strV l)=l.length:=by
 show (⟨l.toArray⟩:ByteArray).size=_;simp[ByteArray.size]
theorem meas {y:Int}{c:UInt8}{l:List UInt8}(h:¬y=0∨l=[]):2*(y.tdiv 10).natAbs+(1-strLen (.string ((⟨#[c]⟩:ByteArray)++⟨l.toArray⟩)))<2*y.natAbs+(1-strLen (strV l)):=by
 rw[str_cons,strLen_strV,strLen_strV,td10];simp only[List.length_cons];rcases h with h|h
 · omega
 ·
  subst h;simp only[List.length_nil];omega
theorem l1Int_any (n:Int)(w:World)(h0:-9223372036854775808≤n)(h1:n≤9223372036854775807):
  Calls Tryd.prog 29 #[.int .i64 n] w fun e w'=>e = .returned (strV (Lib.itoa n))∧Keep w w':=by
 have hconv:=conv_one;go_enter Tryd.func29,Tryd.ntmps29
 go_wp2;go_loopw [0,3] (fun m s wr=>∃(y:Int) (l:List UInt8),m = .int .i64 y∧s=strV l∧-9223372036854775808≤y∧y≤9223372036854775807∧((l=[]∧y=n)∨(l≠[]∧decs y++l=Lib.decDigits n.natAbs))∧Keep w wr) (fun m s _=>2*(intOf m).natAbs+(1-strLen s))
 case atStart=>exact⟨n,[],rfl,rfl,h0,h1,.inl ⟨rfl,rfl⟩,Keep.refl w⟩
 case round=>
  obtain⟨y,l,rfl,rfl,y0,y1,hl,hK⟩:=hrel;rcases hl with ⟨rfl,rfl⟩|⟨hl,he⟩
  ·
   have HE:=Lib.hid (dec_first y);by_cases hneg:y.tmod 10<0
   ·
    have HD:=Lib.hid (dig_neg hneg);go_wp2;go_round
    case rel=>exact⟨_,[_],rfl,str_cons _ [],(td_in y0 y1).1,(td_in y0 y1).2,.inr ⟨by simp,by rw[HD.out];exact HE.out⟩,hK.alloc _⟩
    case measure=>exact meas (.inr rfl)
   ·
    have HD:=Lib.hid (dig_pos hneg);go_wp2;go_round
    case rel=>exact⟨_,[_],rfl,str_cons _ [],(td_in y0 y1).1,(td_in y0 y1).2,.inr ⟨by simp,by rw[HD.out];exact HE.out⟩,hK.alloc _⟩
    case measure=>exact meas (.inr rfl)
  ·
   have hle:l.isEmpty=false:=by cases l<;>simp_all
   have hlen:l.length≤21:=by
    have:=decs_len h0 h1;rw[←he,List.length_append] at this;omega
   have HL:=Lib.hid hl;have HE:=Lib.hid he;clear hl he;by_cases hy:y=0
   ·
    subst hy
    have HE':Hid (l=Lib.decDigits n.natAbs):=by
     have:=HE.out;exact Lib.hid (by simpa [decs] using this)
    by_cases hn:n<0
    ·
     go_wp2;go_ret;refine⟨?_,hK⟩;have e:Lib.itoa n=45::l:=by unfold Lib.itoa;rw[if_pos hn,HE'.out]
     rw[e];exact congrArg Ending.returned (str_cons 45 l)
    ·
     go_wp2;go_ret;refine⟨?_,hK⟩;have e:Lib.itoa n=l:=by unfold Lib.itoa;rw[if_neg (by omega),HE'.out];congr 1;omega
     rw[e];rfl
   ·
    have hyb:(y != 0)=true:=by simpa using hy
    have HS:=Lib.hid (decs_step y hy)
    have hl1:1≤l.length:=by
     have:=HL.out
     cases l with
     |nil=>exact absurd rfl this
     |cons _ _=>simp
    by_cases hneg:y.tmod 10<0
    ·
     have HD:=Lib.hid (dig_neg hneg);go_wp2;go_round
     case rel=>
      refine⟨_,_::l,rfl,str_cons _ l,(td_in y0 y1).1,(td_in y0 y1).2,.inr ⟨by simp,?_⟩,hK.alloc _⟩;rw[HD.out,←HE.out,←HS.out];simp
     case measure=>exact meas (.inl hy)
    ·
     have HD:=Lib.hid (dig_pos hneg);go_wp2;go_round
     case rel=>
      refine⟨_,_::l,rfl,str_cons _ l,(td_in y0 y1).1,(td_in y0 y1).2,.inr ⟨by simp,?_⟩,hK.alloc _⟩;rw[HD.out,←HE.out,←HS.out];simp
     case measure=>exact meas (.inl hy)
theorem curD {w wr:World}{B c:Nat}(h:Dr w wr B c):Cur wr B c:=h.1
theorem grown_keepR {w w':World}(k:Keep w w')(r:Option Nat):w.grownBy w' r:=⟨Below.os k,Below.tape k,Below.output k,Below.size k,fun i hi _=>Below.block k i hi⟩
abbrev litS:Obj:=(.cells #[.string ⟨#[120]⟩,.string ⟨#[121]⟩,.string ⟨#[122]⟩,.string ⟨#[48]⟩,.string ⟨#[49]⟩,.string ⟨#[53]⟩,.string ⟨#[54]⟩] 9)
theorem len_ok {a b m k:Nat}(h:a≤40*(m+1-k)+1)(hm:m<4)(hb:b≤1):¬ 9223372036854775807<a+b∧¬ 9223372036854775807<a+b+1∧∀n,n≤21→¬ 9223372036854775807<a+b+1+n:=⟨by omega,by omega,fun n hn=>by omega⟩
theorem lit_row (j:Nat)(hj:j<7):∃s:List UInt8,s.length≤1∧(#[.string ⟨#[120]⟩,.string ⟨#[121]⟩,.string ⟨#[122]⟩,.string ⟨#[48]⟩,.string ⟨#[49]⟩,.string ⟨#[53]⟩,.string ⟨#[54]⟩]:Array Value)[j]? = some (strV s):=by
 rcases (show j=0∨j=1∨j=2∨j=3∨j=4∨j=5∨j=6 by omega) with rfl|rfl|rfl|rfl|rfl|rfl|rfl
 · exact⟨[120],by simp,rfl⟩
 · exact⟨[121],by simp,rfl⟩
 · exact⟨[122],by simp,rfl⟩
 · exact⟨[48],by simp,rfl⟩
 · exact⟨[49],by simp,rfl⟩
 · exact⟨[53],by simp,rfl⟩
 · exact⟨[54],by simp,rfl⟩
theorem lit_str {w1 w2:World}{row:Option Nat}(hg:(w1.alloc (.cells #[.string ⟨#[120]⟩,.string ⟨#[121]⟩,.string ⟨#[122]⟩,.string ⟨#[48]⟩,.string ⟨#[49]⟩,.string ⟨#[53]⟩,.string ⟨#[54]⟩] 9)).grownBy w2 row)(hne:row≠some w1.heap.size)(j:Nat)(hj:j<7):
  ∃s:List UInt8,s.length≤1∧w2.cell? ⟨w1.heap.size,j,none⟩=some (strV s):=by
 obtain⟨s,hs,he⟩:=lit_row j hj;refine⟨s,hs,?_⟩;have h1:=heap_alloc_new w1 (.cells #[.string ⟨#[120]⟩,.string ⟨#[121]⟩,.string ⟨#[122]⟩,.string ⟨#[48]⟩,.string ⟨#[49]⟩,.string ⟨#[53]⟩,.string ⟨#[54]⟩] 9);rw[World.cell?_of_block (w:=w1.alloc (.cells #[.string ⟨#[120]⟩,.string ⟨#[121]⟩,.string ⟨#[122]⟩,.string ⟨#[48]⟩,.string ⟨#[49]⟩,.string ⟨#[53]⟩,.string ⟨#[54]⟩] 9)) (hg.block w1.heap.size (by simp) (fun e=>hne e.symm)),cell_of_row _ _ j _ _ _ h1];exact he
theorem lit_now (w1:World)(j:Nat)(hj:j<7):
  ∃s:List UInt8,s.length≤1∧(w1.alloc (.cells #[.string ⟨#[120]⟩,.string ⟨#[121]⟩,.string ⟨#[122]⟩,.string ⟨#[48]⟩,.string ⟨#[49]⟩,.string ⟨#[53]⟩,.string ⟨#[54]⟩] 9)).cell? ⟨w1.heap.size,j,none⟩=some (strV s)∧(#[.string ⟨#[120]⟩,.string ⟨#[121]⟩,.string ⟨#[122]⟩,.string ⟨#[48]⟩,.string ⟨#[49]⟩,.string ⟨#[53]⟩,.string ⟨#[54]⟩]:Array Value)[j]? = some (strV s):=by
 obtain⟨s,hs,he⟩:=lit_row j hj;refine⟨s,hs,?_,he⟩;rw[cell_of_row _ _ j _ _ _ (heap_alloc_new w1 (.cells #[.string ⟨#[120]⟩,.string ⟨#[121]⟩,.string ⟨#[122]⟩,.string ⟨#[48]⟩,.string ⟨#[49]⟩,.string ⟨#[53]⟩,.string ⟨#[54]⟩] 9))];exact he
theorem str_pair (a b c:List UInt8):Value.string (((⟨a.toArray⟩:ByteArray)++⟨b.toArray⟩)++⟨#[61]⟩++⟨c.toArray⟩)=strV (a++b++61::c):=congrArg Value.string (ByteArray.ext (by simp))
theorem str_blank (a:List UInt8):Value.string ((⟨a.toArray⟩:ByteArray)++⟨#[32]⟩)=strV (a++[32]):=congrArg Value.string (ByteArray.ext (by simp))
theorem drawReadAsk_any (w:World)(a:Option Addr)(cap:Nat)(zs:List Int)(hb:RdB w w.heap.size a zs):
  Calls Tryd.prog 8 #[.slice a zs.length cap] w fun e w'=>∃l,e = .returned (strV l)∧l.length≤1000∧Keep w w':=by
 go_enter Tryd.func8,Tryd.ntmps8
 go_wp2_with fail
 refine (new_any _ a cap zs hb).mono ?_;rintro e w1 ⟨rfl,c1,k1⟩;have hcl:=c1.lt;obtain⟨c,hce⟩:∃c,c=w.heap.size:=⟨_,rfl⟩;have XK:=Lib.hid k1;rw[←hce] at c1 hcl ⊢;have XC:=Lib.hid hce;clear k1 hce;go_wp2_with fail
 refine (below_any _ c c 4 c1 (by omega)).mono ?_;rintro e w2 ⟨n0,rfl,n1,n2,cu2,g2⟩;have D2:=Lib.hid ((Dr.refl c1).step cu2 g2);obtain⟨m0,rfl⟩:=Int.eq_ofNat_of_zero_le n1;clear cu2 g2;go_upto_region 4 with fail
 go_loopw [4,5] (fun s4 s5 wr=>∃(k:Nat) (l:List UInt8),s4=strV l∧s5 = .int .i64 ((k:Int)-1)∧k≤m0+1∧l.length≤40*(m0+1-k)∧Hid (Dr w1 wr c c)) (fun _ s5 _=>(intOf s5+1).toNat)
 case atStart=>exact⟨m0+1,[],rfl,by congr 1;omega,Nat.le_refl _,by simp,D2⟩
 case round=>
  obtain⟨k,l,rfl,rfl,hk,hl,D⟩:=hrel;clear c1 D2;by_cases hk0:0<k
  ·
   have kp:(0:Int)≤(k:Int)-1:=by omega
   by_cases he:l=[]
   ·
    subst he;go_upto_region 8 with fail
    obtain⟨p,hp⟩:∃p:List UInt8,p=[]:=⟨_,rfl⟩;rw[show strV []=strV p by rw[hp]];have hpl:p.length≤40*(m0+1-k)+1:=by rw[hp];simp
    clear hp hl;have hm4:m0<4:=by omega
    have hne:some c≠some wr.heap.size:=by have:=D.out.1.lt;simp;omega
    have CA:Cur (wr.alloc (.cells #[.string ⟨#[120]⟩,.string ⟨#[121]⟩,.string ⟨#[122]⟩,.string ⟨#[48]⟩,.string ⟨#[49]⟩,.string ⟨#[53]⟩,.string ⟨#[54]⟩] 9)).drew c c:=D.out.1.keep (((Keep.refl wr).alloc _).drew);have C0:Cur wr.drew c c:=D.out.1.keep (Keep.refl wr).drew;have kw:IntKind.i64.wrap ((k:Int)-1-1)=((k-1:Nat):Int)-1:=by rw[IntKind.wrap_i64];omega
    go_wp2_with fail
    go_region_law ((first
     | (go_simp;(with_reducible refine (below_any _ c c 7 CA (by omega)).mono ?_);rintro e wq ⟨y,rfl,y0,y1,cq,gq⟩;obtain⟨q,rfl⟩:=Int.eq_ofNat_of_zero_le y0;have GA:=grown_trans (grown_drew (wr.alloc litS) (some c)) gq;have DQ:=Lib.hid ((D.out.alloc litS).step cq GA);obtain⟨s,sl,hs⟩:=lit_str (w1:=wr) GA hne q (by omega);have ⟨g1,g2,gn⟩:=len_ok hpl hm4 sl)
     | (go_simp;(with_reducible refine (below_any _ c c 7 C0 (by omega)).mono ?_);rintro e wq ⟨y,rfl,y0,y1,cq,gq⟩;obtain⟨q,rfl⟩:=Int.eq_ofNat_of_zero_le y0;have DQ:=Lib.hid (D.out.step cq (grown_trans (grown_drew wr (some c)) gq));have sz:=DQ.out.1.lt;obtain⟨s,sl,hs,ha⟩:=lit_now wq q (by omega);have ⟨g1,g2,gn⟩:=len_ok hpl hm4 sl)
     | (go_simp;(with_reducible refine (below_any _ c c 11 (curD (DQ.out.alloc litS)) (by omega)).mono ?_);have hn:some c≠some wq.heap.size:=(by have:=DQ.out.1.lt;simp;omega);rintro e wp ⟨y2,rfl,z0,z1,cq,gq⟩;obtain⟨z,rfl⟩:=Int.eq_ofNat_of_zero_le z0;have GA:=gq;have DQ:=Lib.hid ((DQ.out.alloc litS).step cq gq);obtain⟨s,sl,hs⟩:=lit_str (w1:=wq) GA hn q (by omega);have ⟨g1,g2,gn⟩:=len_ok hpl hm4 sl)
     | (go_simp;(with_reducible refine (below_any _ c c 11 (curD DQ.out) (by omega)).mono ?_);rintro e wp ⟨y2,rfl,z0,z1,cq,gq⟩;obtain⟨z,rfl⟩:=Int.eq_ofNat_of_zero_le z0;have GA:=grown_trans GA gq;have DQ:=Lib.hid (DQ.out.step cq gq);obtain⟨s,sl,hs⟩:=lit_str (w1:=wr) GA hne q (by omega);have ⟨g1,g2,gn⟩:=len_ok hpl hm4 sl)
     | (go_simp;(with_reducible refine (below_any _ c c 11 (curD DQ.out) (by omega)).mono ?_);rintro e wp ⟨y2,rfl,z0,z1,cq,gq⟩;obtain⟨z,rfl⟩:=Int.eq_ofNat_of_zero_le z0;have DQ:=Lib.hid (DQ.out.step cq gq);obtain⟨s,sl,hs,ha⟩:=lit_now wp q (by omega);have ⟨g1,g2,gn⟩:=len_ok hpl hm4 sl)
     | (go_simp;(with_reducible refine (l1Int_any z (wp.alloc litS) (by omega) (by omega)).mono ?_);have hn:some c≠some wp.heap.size:=(by have:=DQ.out.1.lt;simp;omega);rintro e wo ⟨rfl,ko⟩;have GA:=(grown_keepR ko (some c));have DQ:=Lib.hid (((DQ.out.alloc litS).step ((DQ.out.alloc litS).1.keep ko) (grown_keepR ko (some c))));obtain⟨s,sl,hs⟩:=lit_str (w1:=wp) GA hn q (by omega);have ⟨g1,g2,gn⟩:=len_ok hpl hm4 sl;have hil:=Lib.itoa_length_le (z:Int) (by omega) (by omega);have g3:=gn _ hil)
     | (go_simp;(with_reducible refine (l1Int_any z wp (by omega) (by omega)).mono ?_);rintro e wo ⟨rfl,ko⟩;have GA:=grown_trans GA (grown_keepR ko (some c));have DQ:=Lib.hid (DQ.out.step (DQ.out.1.keep ko) (grown_keepR ko (some c)));obtain⟨s,sl,hs⟩:=lit_str GA (by first|exact hne|exact hn) q (by omega);have ⟨g1,g2,gn⟩:=len_ok hpl hm4 sl;have hil:=Lib.itoa_length_le (z:Int) (by omega) (by omega);have g3:=gn _ hil)
     | (go_simp;(with_reducible refine (l1Int_any z wp (by omega) (by omega)).mono ?_);rintro e wo ⟨rfl,ko⟩;have DQ:=Lib.hid (DQ.out.step (DQ.out.1.keep ko) (grown_keepR ko (some c)));obtain⟨s,sl,hs,ha⟩:=lit_now wo q (by omega);have ⟨g1,g2,gn⟩:=len_ok hpl hm4 sl;have hil:=Lib.itoa_length_le (z:Int) (by omega) (by omega);have g3:=gn _ hil)))
    all_goals
     go_wp2;go_roundw;case rel=>exact⟨k-1,_,str_pair p _ _,by go_num,by omega,by have:=Lib.itoa_length_le (z:Int) (by omega) (by omega);simp;omega,by first|exact DQ|exact Lib.hid (DQ.out.alloc _)⟩
     case measure=>simp[intOf];omega
   ·
    have hie:l.isEmpty=false:=by cases l with
     |nil=>exact absurd rfl he
     |cons b r=>rfl
    go_upto_region 8 with fail
    rw[str_blank];obtain⟨p,hp⟩:∃p:List UInt8,p=l++[32]:=⟨_,rfl⟩;rw[←hp];have hpl:p.length≤40*(m0+1-k)+1:=by rw[hp];simp;omega
    clear hp hl he hie;have hm4:m0<4:=by omega
    have hne:some c≠some wr.heap.size:=by have:=D.out.1.lt;simp;omega
    have CA:Cur (wr.alloc (.cells #[.string ⟨#[120]⟩,.string ⟨#[121]⟩,.string ⟨#[122]⟩,.string ⟨#[48]⟩,.string ⟨#[49]⟩,.string ⟨#[53]⟩,.string ⟨#[54]⟩] 9)).drew c c:=D.out.1.keep (((Keep.refl wr).alloc _).drew);have C0:Cur wr.drew c c:=D.out.1.keep (Keep.refl wr).drew;have kw:IntKind.i64.wrap ((k:Int)-1-1)=((k-1:Nat):Int)-1:=by rw[IntKind.wrap_i64];omega
    go_wp2_with fail
    go_region_law ((first
     | (go_simp;(with_reducible refine (below_any _ c c 7 CA (by omega)).mono ?_);rintro e wq ⟨y,rfl,y0,y1,cq,gq⟩;obtain⟨q,rfl⟩:=Int.eq_ofNat_of_zero_le y0;have GA:=grown_trans (grown_drew (wr.alloc litS) (some c)) gq;have DQ:=Lib.hid ((D.out.alloc litS).step cq GA);obtain⟨s,sl,hs⟩:=lit_str (w1:=wr) GA hne q (by omega);have ⟨g1,g2,gn⟩:=len_ok hpl hm4 sl)
     | (go_simp;(with_reducible refine (below_any _ c c 7 C0 (by omega)).mono ?_);rintro e wq ⟨y,rfl,y0,y1,cq,gq⟩;obtain⟨q,rfl⟩:=Int.eq_ofNat_of_zero_le y0;have DQ:=Lib.hid (D.out.step cq (grown_trans (grown_drew wr (some c)) gq));have sz:=DQ.out.1.lt;obtain⟨s,sl,hs,ha⟩:=lit_now wq q (by omega);have ⟨g1,g2,gn⟩:=len_ok hpl hm4 sl)
     | (go_simp;(with_reducible refine (below_any _ c c 11 (curD (DQ.out.alloc litS)) (by omega)).mono ?_);have hn:some c≠some wq.heap.size:=(by have:=DQ.out.1.lt;simp;omega);rintro e wp ⟨y2,rfl,z0,z1,cq,gq⟩;obtain⟨z,rfl⟩:=Int.eq_ofNat_of_zero_le z0;have GA:=gq;have DQ:=Lib.hid ((DQ.out.alloc litS).step cq gq);obtain⟨s,sl,hs⟩:=lit_str (w1:=wq) GA hn q (by omega);have ⟨g1,g2,gn⟩:=len_ok hpl hm4 sl)
     | (go_simp;(with_reducible refine (below_any _ c c 11 (curD DQ.out) (by omega)).mono ?_);rintro e wp ⟨y2,rfl,z0,z1,cq,gq⟩;obtain⟨z,rfl⟩:=Int.eq_ofNat_of_zero_le z0;have GA:=grown_trans GA gq;have DQ:=Lib.hid (DQ.out.step cq gq);obtain⟨s,sl,hs⟩:=lit_str (w1:=wr) GA hne q (by omega);have ⟨g1,g2,gn⟩:=len_ok hpl hm4 sl)
     | (go_simp;(with_reducible refine (below_any _ c c 11 (curD DQ.out) (by omega)).mono ?_);rintro e wp ⟨y2,rfl,z0,z1,cq,gq⟩;obtain⟨z,rfl⟩:=Int.eq_ofNat_of_zero_le z0;have DQ:=Lib.hid (DQ.out.step cq gq);obtain⟨s,sl,hs,ha⟩:=lit_now wp q (by omega);have ⟨g1,g2,gn⟩:=len_ok hpl hm4 sl)
     | (go_simp;(with_reducible refine (l1Int_any z (wp.alloc litS) (by omega) (by omega)).mono ?_);have hn:some c≠some wp.heap.size:=(by have:=DQ.out.1.lt;simp;omega);rintro e wo ⟨rfl,ko⟩;have GA:=(grown_keepR ko (some c));have DQ:=Lib.hid (((DQ.out.alloc litS).step ((DQ.out.alloc litS).1.keep ko) (grown_keepR ko (some c))));obtain⟨s,sl,hs⟩:=lit_str (w1:=wp) GA hn q (by omega);have ⟨g1,g2,gn⟩:=len_ok hpl hm4 sl;have hil:=Lib.itoa_length_le (z:Int) (by omega) (by omega);have g3:=gn _ hil)
     | (go_simp;(with_reducible refine (l1Int_any z wp (by omega) (by omega)).mono ?_);rintro e wo ⟨rfl,ko⟩;have GA:=grown_trans GA (grown_keepR ko (some c));have DQ:=Lib.hid (DQ.out.step (DQ.out.1.keep ko) (grown_keepR ko (some c)));obtain⟨s,sl,hs⟩:=lit_str GA (by first|exact hne|exact hn) q (by omega);have ⟨g1,g2,gn⟩:=len_ok hpl hm4 sl;have hil:=Lib.itoa_length_le (z:Int) (by omega) (by omega);have g3:=gn _ hil)
     | (go_simp;(with_reducible refine (l1Int_any z wp (by omega) (by omega)).mono ?_);rintro e wo ⟨rfl,ko⟩;have DQ:=Lib.hid (DQ.out.step (DQ.out.1.keep ko) (grown_keepR ko (some c)));obtain⟨s,sl,hs,ha⟩:=lit_now wo q (by omega);have ⟨g1,g2,gn⟩:=len_ok hpl hm4 sl;have hil:=Lib.itoa_length_le (z:Int) (by omega) (by omega);have g3:=gn _ hil)))
    all_goals
     go_wp2;go_roundw;case rel=>exact⟨k-1,_,str_pair p _ _,by go_num,by omega,by have:=Lib.itoa_length_le (z:Int) (by omega) (by omega);simp;omega,by first|exact DQ|exact Lib.hid (DQ.out.alloc _)⟩
     case measure=>simp[intOf];omega
  ·
   have kp:¬(0:Int)≤(k:Int)-1:=by omega
   have hk2:k=0:=by omega
   subst hk2;go_wp2_with fail
   refine (once_any _ c c 4 D.out.1 (by omega)).mono ?_;rintro e w3 ⟨b,rfl,cu3,g3⟩;have D3:=Lib.hid (D.out.step cu3 g3);clear cu3 g3 D;cases b
   ·
    go_wp2;go_ret;exact⟨l,rfl,by omega,XK.out.grown D3.out.2 (by intro k hk;simp at hk;have:=XC.out;omega)⟩
   ·
    go_wp2_with fail
    refine (l1Bend_any _ c c l [120,61,32,48,49,57] D3.out.1 (by omega) (by simp) (by simp)).mono ?_;rintro e w4 ⟨l4,rfl,hl4,D4⟩;go_wp2;go_ret;exact⟨l4,rfl,by omega,XK.out.grown (grown_trans D3.out.2 D4.2) (by intro k hk;simp at hk;have:=XC.out;omega)⟩
end Go.Proofs.YtflehmepjhikcaaDoor
