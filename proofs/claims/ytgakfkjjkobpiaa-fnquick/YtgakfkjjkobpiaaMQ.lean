/- Gathered texts. -/
import Derived.Test.YtgakfkjjkobpiaaMP
import Derived.Deep.Cut
set_option maxRecDepth 100000
set_option maxHeartbeats 8000000
namespace Go.Proofs.Ytgakfkjjkobpiaa
open Go.ChangeShapes Go.WideShapes Go.ChangeAt Go.RowKit
theorem Dr.newE {w W wr:World}{B c:Nat}(h:Dr W wr B c)(k:Keep w W)(hc:w.heap.size≤c):Keep w wr:=k.grown h.2 (fun j hj=>by simp at hj;omega)
theorem RdB.upB {w w':World}{a:Option Addr}{zs:List Int}(h:RdB w w.heap.size a zs)(k:Keep w w'):RdB w' w'.heap.size a zs:=by
 refine⟨h.1,?_⟩;rcases h.2 with h|⟨b,off,ha,hb,_,hc⟩
 · exact .inl h
 · exact .inr ⟨b,off,ha,Nat.lt_of_lt_of_le hb k.size,Nat.lt_of_lt_of_le hb k.size,fun i hi=>⟨(k.cell hb).trans (hc i hi).1,(hc i hi).2⟩⟩
theorem drawQuick_any (w:World)(a:Option Addr)(cap:Nat)(zs:List Int)(hb:RdB w w.heap.size a zs):
  Calls Try.prog 7 #[.slice a zs.length cap] w fun e w'=>∃bv dss b,∃q:Int,e = .returned (.tuple #[BV.agg bv,.int .i64 q])∧Fixed (w.heap.size+1) w' bv dss b∧(SzBd dss b∧LowB b)∧(-1≤q∧q≤3)∧Keep w w':=by
 have k0:Keep w (w.alloc (.cells #[nilS,nilS,nilS,nilS,nilS,nilS,nilS,nilS] 29)):=(Keep.refl w).alloc _;have s0:(w.alloc (.cells #[nilS,nilS,nilS,nilS,nilS,nilS,nilS,nilS] 29)).heap.size=w.heap.size+1:=heap_size _ _;have H0:(w.alloc (.cells #[nilS,nilS,nilS,nilS,nilS,nilS,nilS,nilS] 29)).heap[w.heap.size]? = some (.cells #[nilS,nilS,nilS,nilS,nilS,nilS,nilS,nilS] 29 (0,0)):=heap_alloc_new w _;go_enter Try.func7,Try.ntmps7
 go_wp2_with fail
 refine (new_any _ a cap zs (RdB.upB hb k0)).mono ?_;rintro e w1 ⟨rfl,c1,k1⟩;have hR1:=(Below.block k1 w.heap.size (by omega)).trans H0;have s1:=k1.size;have z1:=c1.lt;have y1:=c1.1;rw[s0] at c1 s1 z1 y1;go_wp2_with fail
 refine (l14DrawAny_any _ _ _ c1).mono ?_;rintro e w2 ⟨bv,dss,b,rfl,fx,hz,D2⟩;have K2:Keep w w2:=D2.newE (k0.trans k1) (by omega);have hR2:=(D2.2.block w.heap.size (by omega) (fun e=>by have:=Option.some.inj e;omega)).trans hR1;have f2:=fx.mono (show w.heap.size+2≤w1.heap.size+1 by omega);have cu2:=D2.1;have zc:=D2.2.size;obtain⟨aW,aP,aL,aN,aX,aT,aF,aR,cW,cP,cL,cN',cX,cT,cF,cR,rfl⟩:=fx.rd.shapes;clear fx c1 k1 k0 H0 hR1 D2;go_upto_region 3 with fail
 obtain⟨w3,hw3⟩:∃W:World,W=w2.alloc (.cells #[.slice aW dss.length cW,.slice aP b.plc.length cP,.slice aL b.lst.length cL,.slice aN b.nts.length cN',.slice aX b.nxt.length cX,.slice aT b.sn.length cT,.slice aF b.fr.length cF,.slice aR b.rws.length cR] 29):=⟨_,rfl⟩;have k3:Keep w2 w3:=by rw[hw3];exact (Keep.refl w2).alloc _
 have hD3:w3.heap[w2.heap.size]? = some (.cells #[.slice aW dss.length cW,.slice aP b.plc.length cP,.slice aL b.lst.length cL,.slice aN b.nts.length cN',.slice aX b.nxt.length cX,.slice aT b.sn.length cT,.slice aF b.fr.length cF,.slice aR b.rws.length cR] 29 (0,0)):=by rw[hw3];exact heap_alloc_new _ _
 have y3:w2.heap.size<w3.heap.size:=by rw[hw3,heap_size];omega
 rw[←hw3];clear hw3;have K3:=K2.trans k3;have hR3:=(Below.block k3 w.heap.size (by omega)).trans hR2;have f3:=f2.on (LowCh.keep k3);have cu3:=cu2.keep k3;have zD:w.heap.size+1<w2.heap.size:=by omega
 generalize w2.heap.size=D at *;clear k3 cu2 f2 hR2 K2;have x0:w3.cell? ⟨D,0,none⟩=some (.slice aW dss.length cW):=by rw[cell_of_row w3 _ 0 _ _ _ hD3];rfl
 have x1:w3.cell? ⟨D,1,none⟩=some (.slice aP b.plc.length cP):=by rw[cell_of_row w3 _ 1 _ _ _ hD3];rfl
 have x2:w3.cell? ⟨D,2,none⟩=some (.slice aL b.lst.length cL):=by rw[cell_of_row w3 _ 2 _ _ _ hD3];rfl
 have x3:w3.cell? ⟨D,3,none⟩=some (.slice aN b.nts.length cN'):=by rw[cell_of_row w3 _ 3 _ _ _ hD3];rfl
 have x4:w3.cell? ⟨D,4,none⟩=some (.slice aX b.nxt.length cX):=by rw[cell_of_row w3 _ 4 _ _ _ hD3];rfl
 have x5:w3.cell? ⟨D,5,none⟩=some (.slice aT b.sn.length cT):=by rw[cell_of_row w3 _ 5 _ _ _ hD3];rfl
 have x6:w3.cell? ⟨D,6,none⟩=some (.slice aF b.fr.length cF):=by rw[cell_of_row w3 _ 6 _ _ _ hD3];rfl
 have x7:w3.cell? ⟨D,7,none⟩=some (.slice aR b.rws.length cR):=by rw[cell_of_row w3 _ 7 _ _ _ hD3];rfl
 refine wp_region_held_drew (S:=(fun w'=>w'.cell? ⟨D,0,none⟩=some (.slice aW dss.length cW)∧w'.cell? ⟨D,1,none⟩=some (.slice aP b.plc.length cP)∧w'.cell? ⟨D,2,none⟩=some (.slice aL b.lst.length cL)∧w'.cell? ⟨D,3,none⟩=some (.slice aN b.nts.length cN')∧w'.cell? ⟨D,4,none⟩=some (.slice aX b.nxt.length cX)∧w'.cell? ⟨D,5,none⟩=some (.slice aT b.sn.length cT)∧w'.cell? ⟨D,6,none⟩=some (.slice aF b.fr.length cF)∧w'.cell? ⟨D,7,none⟩=some (.slice aR b.rws.length cR))) (by kernel_rfl) ?_ (fun hHeld=>?_)
 · exact⟨x0,x1,x2,x3,x4,x5,x6,x7⟩
 refine takeH 0 10 (v:=?_) rfl rfl (by kernel_rfl) (by kernel_rfl) (by kernel_rfl) (fun _ _ _ h=>h) (by rfl) ?_ (by assumption) ?_;rotate_left
 ·
  intro wx hSw;try dsimp only at hSw
  go_simp;with_reducible rfl
 simp only[Act.put,List.setIfInBounds_toArray,List.set_cons_zero,List.set_cons_succ];refine takeH 1 11 (v:=?_) rfl rfl (by kernel_rfl) (by kernel_rfl) (by kernel_rfl) (fun _ _ _ h=>h) (by rfl) ?_ (by assumption) ?_;rotate_left
 ·
  intro wx hSw;try dsimp only at hSw
  go_simp;with_reducible rfl
 simp only[Act.put,List.setIfInBounds_toArray,List.set_cons_zero,List.set_cons_succ];refine wpAnyH_ready (rs:=[2]) (by kernel_rfl) (by simp) ?_;refine AllReadyH.cons rfl (fun K hK=>?_) AllReadyH.nil;go_simp;refine (from_any _ _ _ (-1) 3 (cu3.keep (Keep.refl w3).drew) (by omega) (by omega) (by omega)).mono ?_;rintro e w5 ⟨q,rfl,q0,q1,cu5,g5⟩;have K5:=(K3.trans (Keep.refl w3).drew).grown g5 (fun k hk=>by have:=Option.some.inj hk;omega);have hR5:=(g5.block w.heap.size (by show w.heap.size<w3.heap.size;omega) (fun e=>by have:=Option.some.inj e;omega)).trans hR3;have hD5:=(g5.block D (by show D<w3.heap.size;omega) (fun e=>by have:=Option.some.inj e;omega)).trans hD3;have f5:=(f3.on (LowCh.keep (Keep.refl w3).drew)).on (LowCh.grown g5 (by omega));have zD5:D<w5.heap.size:=Nat.lt_of_lt_of_le (show D<w3.heap.size by omega) g5.size;have v0:w5.cell? ⟨D,0,none⟩=some (.slice aW dss.length cW):=by rw[cell_of_row w5 _ 0 _ _ _ hD5];rfl
 have v1:w5.cell? ⟨D,1,none⟩=some (.slice aP b.plc.length cP):=by rw[cell_of_row w5 _ 1 _ _ _ hD5];rfl
 have v2:w5.cell? ⟨D,2,none⟩=some (.slice aL b.lst.length cL):=by rw[cell_of_row w5 _ 2 _ _ _ hD5];rfl
 have v3:w5.cell? ⟨D,3,none⟩=some (.slice aN b.nts.length cN'):=by rw[cell_of_row w5 _ 3 _ _ _ hD5];rfl
 have v4:w5.cell? ⟨D,4,none⟩=some (.slice aX b.nxt.length cX):=by rw[cell_of_row w5 _ 4 _ _ _ hD5];rfl
 have v5:w5.cell? ⟨D,5,none⟩=some (.slice aT b.sn.length cT):=by rw[cell_of_row w5 _ 5 _ _ _ hD5];rfl
 have v6:w5.cell? ⟨D,6,none⟩=some (.slice aF b.fr.length cF):=by rw[cell_of_row w5 _ 6 _ _ _ hD5];rfl
 have v7:w5.cell? ⟨D,7,none⟩=some (.slice aR b.rws.length cR):=by rw[cell_of_row w5 _ 7 _ _ _ hD5];rfl
 go_wp2_with fail
 refine hK.out _ _ ?_ (fun hHeld=>?_)
 · exact⟨v0,v1,v2,v3,v4,v5,v6,v7⟩
 clear hK K;have HG:=Lib.hid (grown_row3 w5 w.heap.size #[.slice aW dss.length cW,.slice aP b.plc.length cP,.slice aL b.lst.length cL,.slice aN b.nts.length cN',.slice aX b.nxt.length cX,.slice aT b.sn.length cT,.slice aF b.fr.length cF,.slice aR b.rws.length cR]);have HZ:=Lib.hid (setRow_heap w5 w.heap.size _ #[.slice aW dss.length cW,.slice aP b.plc.length cP,.slice aL b.lst.length cL,.slice aN b.nts.length cN',.slice aX b.nxt.length cX,.slice aT b.sn.length cT,.slice aF b.fr.length cF,.slice aR b.rws.length cR] _ _ hR5);have HF:=Lib.hid ((f5.on (LowCh.grown HG.out (by omega))).mono (show w.heap.size+1≤w.heap.size+2 by omega));have HK:=Lib.hid (K5.grown HG.out (fun k hk=>by have:=Option.some.inj hk;omega));refine wpAnyH_ready (rs:=[3]) (by kernel_rfl) (by simp) ?_;refine AllReadyH.cons rfl (fun K hK=>?_) AllReadyH.nil;rw[if_pos (by simp[Region.wanted])];refine wp_store_row 29 _ _ rfl w.heap.size _ rfl rfl 29 _ hR5 board_info rfl (by simp[Value.oneCell']) ?_;refine hK.out _ _ ?_ (fun hHeld=>?_)
 · exact⟨(World.cell?_of_block (HG.out.block D zD5 (fun e=>by have:=Option.some.inj e;omega))).trans v0,(World.cell?_of_block (HG.out.block D zD5 (fun e=>by have:=Option.some.inj e;omega))).trans v1,(World.cell?_of_block (HG.out.block D zD5 (fun e=>by have:=Option.some.inj e;omega))).trans v2,(World.cell?_of_block (HG.out.block D zD5 (fun e=>by have:=Option.some.inj e;omega))).trans v3,(World.cell?_of_block (HG.out.block D zD5 (fun e=>by have:=Option.some.inj e;omega))).trans v4,(World.cell?_of_block (HG.out.block D zD5 (fun e=>by have:=Option.some.inj e;omega))).trans v5,(World.cell?_of_block (HG.out.block D zD5 (fun e=>by have:=Option.some.inj e;omega))).trans v6,(World.cell?_of_block (HG.out.block D zD5 (fun e=>by have:=Option.some.inj e;omega))).trans v7⟩
 clear hK K;simp only[Act.put];refine takeH 4 3 (v:=?_) rfl rfl (by kernel_rfl) (by kernel_rfl) (by kernel_rfl) (fun _ _ _ h=>h) (by rfl) ?_ (by assumption) ?_;rotate_left
 ·
  intro wx hSw;try dsimp only at hSw
  go_simp;with_reducible rfl
 simp only[Act.put,List.setIfInBounds_toArray];refine wpAnyH_done (by kernel_rfl) ?_ _;clear f5 K5 hR5 hD5 v0 v1 v2 v3 v4 v5 v6 v7 g5 cu5;go_wp2_with fail
 refine bodyPost_ret (results_row_tmp (by rfl) _ _ w.heap.size _ _ (0,0) _ (.int .i64 q) rfl HZ.out rfl Try.underlying29 rfl board_info) rfl ?_;exact⟨⟨.slice aW dss.length cW,.slice aP b.plc.length cP,.slice aL b.lst.length cL,.slice aN b.nts.length cN',.slice aX b.nxt.length cX,.slice aT b.sn.length cT,.slice aF b.fr.length cF,.slice aR b.rws.length cR⟩,dss,b,q,rfl,HF.out,hz,⟨q0,q1⟩,HK.out⟩
end Go.Proofs.Ytgakfkjjkobpiaa
