/- Gathered texts. -/
import Derived.Test.YtgakfkjjkobpiaaMM
import Derived.Deep.Cut
import Derived.Laws.Tables
import Derived.Outline
import Derived.RegionTactic
import Derived.Deep.QuietTactic
import Derived.BigQuiet
import Derived.Test.YtgakfkjjkobpiaaME
set_option maxRecDepth 100000
set_option maxHeartbeats 8000000
namespace Go.Proofs.Ytgakfkjjkobpiaa
open Go.ChangeShapes Go.WideShapes Go.ChangeAt Go.RowKit
def qkT (dss:List (List Dd))(b:Bd)(c:Int):Bool:=decide (0≤c)&&decide (c<(dss.length:Int))&&canM dss b c.toNat
def qkM (dss:List (List Dd))(b:Bd)(c:Int):Bd:=if qkT dss b c=true then quickM dss (eventsB dss) b c.toNat else b
theorem RB.shp {dss:List (List Dd)}{b:Bd}{n m:Nat}(h:RB dss b (fun _=>n) m)(k:Nat)(h1:n≤k)(h2:m≤k):Shp dss b k:=
 ⟨h.work,h.plc,h.lst,h.rws,h.nts,h.nxt,h.sn,h.fr,fun p=>Nat.le_trans (h.rl p).1 h2,fun c=>Nat.le_trans (h.nl c).1 h1⟩
theorem l15Quick_any (w:World)(m D:Nat)(v:BV)(nv rv:List Value)(bs N:Nat)(dss:List (List Dd))(b:Bd)(c:Nat)(h:OwnBd w m D v nv rv bs N dss b)(hb:boardB dss b=true)(hc:c<dss.length)(hcan:canM dss b c=true):
  Calls Try.prog 37 #[.pointer (some ⟨D,0,none⟩),.int .i64 (c:Int)] w fun e w'=>e = .returned (.tuple #[])∧∃nv' rv',OwnBd w' m D v nv' rv' bs N dss (quickM dss (eventsB dss) b c)∧TurnB w w' (blkB D v nv rv) (blkB D v nv' rv'):=by
 have S0:=Shp.of hb;have R0:RB dss b (fun _=>20) 20:=RB.of hb S0.nl S0.rl;have h3:dss.length≤3:=(workB_useR R0.work).1;have R1:=R0.stepped hc hcan (by omega)
 have hs:isB (possM dss b) (c:Int)=true:=by
  rw[isB,List.any_eq_true];exact⟨(c:Int),List.mem_append.2 (.inl (List.mem_map.2 ⟨c,List.mem_filter.2 ⟨List.mem_range.2 hc,hcan⟩,rfl⟩)),by simp⟩
 have HQ:Hid (quickM dss (eventsB dss) b c=if ((stepM dss (eventsB dss) b (c:Int)).nts.getD c []).isEmpty=true then stepM dss (eventsB dss) b (c:Int) else stepM dss (eventsB dss) (stepM dss (eventsB dss) b (c:Int)) (10+(c:Int))):=Lib.hid rfl;have C:=l15Step_any w m D v nv rv bs N dss b (c:Int) h hb hs;generalize quickM dss (eventsB dss) b c=QB at HQ ⊢;generalize stepM dss (eventsB dss) b (c:Int)=SB at *;clear h hs hcan hb S0 R0;obtain⟨vW,vP,vL,vN,vX,vS,vF,vR⟩:=v;go_enter Try.func37,Try.ntmps37
 go_wp2_with fail
 refine C.mono ?_;rintro e w1 ⟨rfl,nv1,rv1,H1,T1⟩;clear C;have hcn':c<SB.nts.length:=by rw[R1.nts];exact hc
 have r1:=H1.rd;have c3:=H1.cells.2.2.2.1;obtain⟨a',c',eN,hN⟩:=r1.N;simp only at eN c3;subst eN;rcases hN with h0|⟨bn,on,rfl,hbn,hcn⟩
 · exfalso;rw[h0] at hcn';simp at hcn'
 obtain⟨vn,d3,r3⟩:=hcn c hcn';obtain⟨an,cn,rfl,r3⟩:=r3;have i1:IntKind.i64.wrap (10+(c:Int))=10+(c:Int):=by rw[IntKind.wrap_i64];omega
 have i2:(0:Int)≤(c:Int):=Int.natCast_nonneg _;have i3:(c:Int)<(SB.nts.length:Int):=by omega
 clear hcn r1 r3
 cases hz:SB.nts.getD c [] with
 |nil=>
  rw[hz] at d3;have HE:Hid (QB=SB):=Lib.hid (by rw[HQ.out,hz];rfl);clear HQ hz R1;go_wp2;go_end0;exact⟨rfl,nv1,rv1,by rw[HE.out];exact H1,T1⟩
 |cons x r=>
  have hx:=((R1.nl c).2 x (by rw[hz];simp)).1
  have HE:Hid (QB=flushM SB c):=Lib.hid (by
   rw[HQ.out,hz];simp only[List.isEmpty_cons,Bool.false_eq_true,if_false];unfold stepM;rw[if_pos (by omega)];have:(10+(c:Int)-10).toNat=c:=by omega
   rw[this])
  have CF:=l15Step_flush w1 m D _ nv1 rv1 bs N dss SB 30 c x r H1 (R1.shp 30 (by omega) (by omega)) (by omega) hc hz hx;rw[hz] at d3;have hl:decide ((0:Int)<(((x::r).length:Nat):Int))=true:=by simp
  have hL:0<(x::r).length:=by simp
  generalize (x::r).length=L at *;clear HQ hz R1;go_wp2_with fail
  refine CF.mono ?_;rintro e w2 ⟨rfl,nv2,rv2,H2,T2⟩;go_wp2;go_end0;exact⟨rfl,nv2,rv2,by rw[HE.out];exact H2,T1.trans T2⟩
theorem specQuick_wrong (w:World)(bv:BV)(dss:List (List Dd))(b:Bd)(s:Int)(h:RdBd w bv dss b)(hz:SzBd dss b)(hb:boardB dss b=false):
  Calls Try.prog 9 #[bv.agg,.int .i64 s] w fun e w'=>e = .returned (.tuple #[BV.agg bd0,.bool false])∧Keep w w':=by
 have C:=fun (W:World) (kW:Keep w W)=>specBoardOk_any W bv dss b (h.keep kW) hz
 rw[hb] at C;obtain⟨aW,aP,aL,aN,aX,aT,aF,aR,cW,cP,cL,cQ,cX,cT,cF,cR,rfl⟩:=h.shapes;go_enter Try.func9,Try.ntmps9
 go_upto_region 1 with fail
 obtain⟨w1,hw1⟩:∃W:World,W=(w.alloc (.cells #[.slice aW dss.length cW,.slice aP b.plc.length cP,.slice aL b.lst.length cL,.slice aN b.nts.length cQ,.slice aX b.nxt.length cX,.slice aT b.sn.length cT,.slice aF b.fr.length cF,.slice aR b.rws.length cR] 29)).alloc (.cells #[nilS,nilS,nilS,nilS,nilS,nilS,nilS,nilS] 29):=⟨_,rfl⟩;have K1:Keep w w1:=by rw[hw1];exact ((Keep.refl w).alloc _).alloc _
 have s1:w1.heap.size=w.heap.size+1+1:=by rw[hw1,heap_size,heap_size]
 have hB1:w1.heap[w.heap.size]? = some (.cells #[.slice aW dss.length cW,.slice aP b.plc.length cP,.slice aL b.lst.length cL,.slice aN b.nts.length cQ,.slice aX b.nxt.length cX,.slice aT b.sn.length cT,.slice aF b.fr.length cF,.slice aR b.rws.length cR] 29 (0,0)):=by rw[hw1];exact box_heap ((Keep.refl _).alloc _)
 have hR1:w1.heap[w.heap.size+1]? = some (.cells #[nilS,nilS,nilS,nilS,nilS,nilS,nilS,nilS] 29 (0,0)):=by rw[hw1,←heap_size w (.cells #[.slice aW dss.length cW,.slice aP b.plc.length cP,.slice aL b.lst.length cL,.slice aN b.nts.length cQ,.slice aX b.nxt.length cX,.slice aT b.sn.length cT,.slice aF b.fr.length cF,.slice aR b.rws.length cR] 29)];exact heap_alloc_new _ _
 rw[←hw1];clear hw1;have s2:w.heap.size+1<w1.heap.size:=by omega
 clear s1;go_wp2_with (first|refine wpList_load_row rfl 29 _ rfl w.heap.size rfl 29 _ (0,0) _ hB1 Try.underlying29 rfl board_info ?_|fail)
 refine (C _ K1).mono ?_;rintro e w3 ⟨rfl,k3⟩;have hB3:=(Below.block k3 w.heap.size (by omega)).trans hB1;have hR3:=(Below.block k3 (w.heap.size+1) s2).trans hR1;have K3:=K1.trans k3;have s3:=k3.size;have HG:=Lib.hid (grown_row3 w3 (w.heap.size+1) #[nilS,nilS,nilS,nilS,nilS,nilS,nilS,nilS]);have HZ:=Lib.hid (setRow_heap w3 (w.heap.size+1) _ #[nilS,nilS,nilS,nilS,nilS,nilS,nilS,nilS] _ _ hR3);have HK:=Lib.hid (K3.grown HG.out (fun q hq=>by have:=Option.some.inj hq;omega));clear C k3 K3 hB1 hR1 hB3;go_wp2_with (first|refine wpList_store_row rfl 29 _ _ rfl (w.heap.size+1) _ rfl rfl 29 _ hR3 board_info rfl (by simp[Value.oneCell']) ?_|fail)
 refine bodyPost_ret (results_row_tmp (by rfl) _ _ (w.heap.size+1) _ _ (0,0) _ (.bool false) rfl HZ.out rfl Try.underlying29 rfl board_info) rfl ?_;exact⟨rfl,HK.out⟩
theorem specQuick_right (w:World)(bv:BV)(dss:List (List Dd))(b:Bd)(s:Int)(h:RdBd w bv dss b)(hz:SzBd dss b)(hb:boardB dss b=true):
  Calls Try.prog 9 #[bv.agg,.int .i64 s] w fun e w'=>∃bv' nv rv bs N,e = .returned (.tuple #[BV.agg bv',.bool (qkT dss b s)])∧OwnVal w' w.heap.size bv' nv rv bs N dss (qkM dss b s)∧w.heap.size≤bs∧Keep w w':=by
 have C:=fun (W:World) (kW:Keep w W)=>specBoardOk_any W bv dss b (h.keep kW) hz
 rw[hb] at C;have CC:=fun (W:World) (kW:Keep w W)=>l14Copy_any W bv dss b (h.keep kW) hb
 have CP:=fun (W:World) (kW:Keep w W) (c:Nat) (hc:c<dss.length)=>l15Can_any W bv dss b c (h.keep kW) (ps_of hb) hc
 obtain⟨aW,aP,aL,aN,aX,aT,aF,aR,cW,cP,cL,cQ,cX,cT,cF,cR,rfl⟩:=h.shapes;go_enter Try.func9,Try.ntmps9
 go_upto_region 1 with fail
 obtain⟨w1,hw1⟩:∃W:World,W=(w.alloc (.cells #[.slice aW dss.length cW,.slice aP b.plc.length cP,.slice aL b.lst.length cL,.slice aN b.nts.length cQ,.slice aX b.nxt.length cX,.slice aT b.sn.length cT,.slice aF b.fr.length cF,.slice aR b.rws.length cR] 29)).alloc (.cells #[nilS,nilS,nilS,nilS,nilS,nilS,nilS,nilS] 29):=⟨_,rfl⟩;have K1:Keep w w1:=by rw[hw1];exact ((Keep.refl w).alloc _).alloc _
 have s1:w1.heap.size=w.heap.size+1+1:=by rw[hw1,heap_size,heap_size]
 have hB1:w1.heap[w.heap.size]? = some (.cells #[.slice aW dss.length cW,.slice aP b.plc.length cP,.slice aL b.lst.length cL,.slice aN b.nts.length cQ,.slice aX b.nxt.length cX,.slice aT b.sn.length cT,.slice aF b.fr.length cF,.slice aR b.rws.length cR] 29 (0,0)):=by rw[hw1];exact box_heap ((Keep.refl _).alloc _)
 have hR1:w1.heap[w.heap.size+1]? = some (.cells #[nilS,nilS,nilS,nilS,nilS,nilS,nilS,nilS] 29 (0,0)):=by rw[hw1,←heap_size w (.cells #[.slice aW dss.length cW,.slice aP b.plc.length cP,.slice aL b.lst.length cL,.slice aN b.nts.length cQ,.slice aX b.nxt.length cX,.slice aT b.sn.length cT,.slice aF b.fr.length cF,.slice aR b.rws.length cR] 29)];exact heap_alloc_new _ _
 rw[←hw1];clear hw1;have s2:w.heap.size+1<w1.heap.size:=by omega
 clear s1;go_wp2_with (first|refine wpList_load_row rfl 29 _ rfl w.heap.size rfl 29 _ (0,0) _ hB1 Try.underlying29 rfl board_info ?_|fail)
 refine (C _ K1).mono ?_;rintro e w3 ⟨rfl,k3⟩;have hB3:=(Below.block k3 w.heap.size (by omega)).trans hB1;have hR3:=(Below.block k3 (w.heap.size+1) s2).trans hR1;have K3:=K1.trans k3;have s3:=k3.size;clear C hB1 hR1 k3;go_wp2_with (first|refine wpList_load_row rfl 29 _ rfl w.heap.size rfl 29 _ (0,0) _ hB3 Try.underlying29 rfl board_info ?_|fail)
 refine (CC _ K3).mono ?_;rintro e w4 ⟨bv2,nv,rv,bs,N,rfl,hV,hbs,k4⟩;have s4:=k4.size;obtain⟨aW2,aP2,aL2,aN2,aX2,aT2,aF2,aR2,cW2,cP2,cL2,cQ2,cX2,cT2,cF2,cR2,rfl⟩:=(hV.box s4).rd.shapes;have H5:=hV.box s4;have hbs2:w.heap.size≤bs:=by omega
 have hB4:=(Below.block k4 w.heap.size (by omega)).trans hB3;have hR4:=(Below.block k4 (w.heap.size+1) (by omega)).trans hR3;clear hB3 hR3 CC;go_upto_region 4 with fail
 obtain⟨w5,hw5⟩:∃W:World,W=w4.alloc (.cells #[.slice aW2 dss.length cW2,.slice aP2 b.plc.length cP2,.slice aL2 b.lst.length cL2,.slice aN2 b.nts.length cQ2,.slice aX2 b.nxt.length cX2,.slice aT2 b.sn.length cT2,.slice aF2 b.fr.length cF2,.slice aR2 b.rws.length cR2] 29):=⟨_,rfl⟩;have k5:Keep w4 w5:=by rw[hw5];exact (Keep.refl w4).alloc _
 replace H5:OwnBd w5 w3.heap.size w4.heap.size ⟨.slice aW2 dss.length cW2,.slice aP2 b.plc.length cP2,.slice aL2 b.lst.length cL2,.slice aN2 b.nts.length cQ2,.slice aX2 b.nxt.length cX2,.slice aT2 b.sn.length cT2,.slice aF2 b.fr.length cF2,.slice aR2 b.rws.length cR2⟩ nv rv bs N dss b:=by rw[hw5];exact H5
 rw[←hw5];clear hw5 hV;have K5:=(K3.trans k4).trans k5;have hB5:=(Below.block k5 w.heap.size (by omega)).trans hB4;have hR5:=(Below.block k5 (w.heap.size+1) (by omega)).trans hR4;have m0:w.heap.size+1<w3.heap.size:=by omega
 have D0:w3.heap.size≤w4.heap.size:=s4;have s5:=k5.size;generalize w3.heap.size=m at *;generalize hD:w4.heap.size=D at *;clear hD hB4 hR4 k4 k5 K3 K1;have e0:w5.cell? ⟨w.heap.size,0,none⟩=some (.slice aW dss.length cW):=by rw[cell_of_row w5 _ 0 _ _ _ hB5];rfl
 by_cases x1:s<0
 ·
  have y1:decide (s<0)=true:=by simpa using x1
  have hp:qkT dss b s=false:=by unfold qkT;rw[decide_eq_false (by omega)];rfl
  have HS:Hid (qkM dss b s=b):=Lib.hid (by unfold qkM;rw[hp];simp);have HP:=Lib.hid hp;clear hp;have hDw:=H5.heapD;have hRw:=hR5;simp only[BV.arr] at hDw;have HG:=Lib.hid (grown_row3 w5 (w.heap.size+1) #[.slice aW2 dss.length cW2,.slice aP2 b.plc.length cP2,.slice aL2 b.lst.length cL2,.slice aN2 b.nts.length cQ2,.slice aX2 b.nxt.length cX2,.slice aT2 b.sn.length cT2,.slice aF2 b.fr.length cF2,.slice aR2 b.rws.length cR2]);have HZ:=Lib.hid (setRow_heap w5 (w.heap.size+1) _ #[.slice aW2 dss.length cW2,.slice aP2 b.plc.length cP2,.slice aL2 b.lst.length cL2,.slice aN2 b.nts.length cQ2,.slice aX2 b.nxt.length cX2,.slice aT2 b.sn.length cT2,.slice aF2 b.fr.length cF2,.slice aR2 b.rws.length cR2] _ _ hRw);have hNot:∀q,some (w.heap.size+1)=some q→q<m∧(q<bs∨N≤q):=fun q hq=>by have:=Option.some.inj hq;omega
  have HO:=Lib.hid (((H5.far HG.out hNot).val).base_le (show w.heap.size≤m by omega));have HKK:=Lib.hid ((K5:Keep w w5).grown HG.out (fun q hq=>by have:=Option.some.inj hq;omega));go_wp2_with (first|refine wpList_load_row rfl 29 _ rfl D rfl 29 _ (0,0) _ hDw Try.underlying29 rfl board_info ?_|refine wpList_store_row rfl 29 _ _ rfl (w.heap.size+1) _ rfl rfl 29 _ hRw board_info rfl (by simp[Value.oneCell']) ?_|fail)
  refine bodyPost_ret (results_row_tmp (by rfl) _ _ (w.heap.size+1) _ _ (0,0) _ (.bool false) rfl HZ.out rfl Try.underlying29 rfl board_info) rfl ?_
  first
   |exact⟨⟨.slice aW2 dss.length cW2,.slice aP2 b.plc.length cP2,.slice aL2 b.lst.length cL2,.slice aN2 b.nts.length cQ2,.slice aX2 b.nxt.length cX2,.slice aT2 b.sn.length cT2,.slice aF2 b.fr.length cF2,.slice aR2 b.rws.length cR2⟩,_,_,bs,N,by rw[HP.out],by rw[HS.out];exact HO.out,hbs2,HKK.out⟩
   |exact⟨⟨.slice aW2 dss.length cW2,.slice aP2 b.plc.length cP2,.slice aL2 b.lst.length cL2,.slice aN2 b.nts.length cQ2,.slice aX2 b.nxt.length cX2,.slice aT2 b.sn.length cT2,.slice aF2 b.fr.length cF2,.slice aR2 b.rws.length cR2⟩,by rw[HP.out],_,_,bs,⟨N,by rw[HS.out];exact HO.out⟩,hbs2,HKK.out⟩
 have y1:decide (s<0)=false:=by simpa using x1
 by_cases x2:(dss.length:Int)≤s
 ·
  have y2:decide ((dss.length:Int)≤s)=true:=by simpa using x2
  have hp:qkT dss b s=false:=by unfold qkT;rw[decide_eq_false (show ¬s<(dss.length:Int) by omega),Bool.and_false];rfl
  have HS:Hid (qkM dss b s=b):=Lib.hid (by unfold qkM;rw[hp];simp);have HP:=Lib.hid hp;clear hp;have hDw:=H5.heapD;have hRw:=hR5;simp only[BV.arr] at hDw;have HG:=Lib.hid (grown_row3 w5 (w.heap.size+1) #[.slice aW2 dss.length cW2,.slice aP2 b.plc.length cP2,.slice aL2 b.lst.length cL2,.slice aN2 b.nts.length cQ2,.slice aX2 b.nxt.length cX2,.slice aT2 b.sn.length cT2,.slice aF2 b.fr.length cF2,.slice aR2 b.rws.length cR2]);have HZ:=Lib.hid (setRow_heap w5 (w.heap.size+1) _ #[.slice aW2 dss.length cW2,.slice aP2 b.plc.length cP2,.slice aL2 b.lst.length cL2,.slice aN2 b.nts.length cQ2,.slice aX2 b.nxt.length cX2,.slice aT2 b.sn.length cT2,.slice aF2 b.fr.length cF2,.slice aR2 b.rws.length cR2] _ _ hRw);have hNot:∀q,some (w.heap.size+1)=some q→q<m∧(q<bs∨N≤q):=fun q hq=>by have:=Option.some.inj hq;omega
  have HO:=Lib.hid (((H5.far HG.out hNot).val).base_le (show w.heap.size≤m by omega));have HKK:=Lib.hid ((K5:Keep w w5).grown HG.out (fun q hq=>by have:=Option.some.inj hq;omega));go_wp2_with (first|refine wpList_load_row rfl 29 _ rfl D rfl 29 _ (0,0) _ hDw Try.underlying29 rfl board_info ?_|refine wpList_store_row rfl 29 _ _ rfl (w.heap.size+1) _ rfl rfl 29 _ hRw board_info rfl (by simp[Value.oneCell']) ?_|fail)
  refine bodyPost_ret (results_row_tmp (by rfl) _ _ (w.heap.size+1) _ _ (0,0) _ (.bool false) rfl HZ.out rfl Try.underlying29 rfl board_info) rfl ?_
  first
   |exact⟨⟨.slice aW2 dss.length cW2,.slice aP2 b.plc.length cP2,.slice aL2 b.lst.length cL2,.slice aN2 b.nts.length cQ2,.slice aX2 b.nxt.length cX2,.slice aT2 b.sn.length cT2,.slice aF2 b.fr.length cF2,.slice aR2 b.rws.length cR2⟩,_,_,bs,N,by rw[HP.out],by rw[HS.out];exact HO.out,hbs2,HKK.out⟩
   |exact⟨⟨.slice aW2 dss.length cW2,.slice aP2 b.plc.length cP2,.slice aL2 b.lst.length cL2,.slice aN2 b.nts.length cQ2,.slice aX2 b.nxt.length cX2,.slice aT2 b.sn.length cT2,.slice aF2 b.fr.length cF2,.slice aR2 b.rws.length cR2⟩,by rw[HP.out],_,_,bs,⟨N,by rw[HS.out];exact HO.out⟩,hbs2,HKK.out⟩
 have y2:decide ((dss.length:Int)≤s)=false:=by simpa using x2
 obtain⟨c,hcs⟩:∃c:Nat,s=(c:Int):=⟨s.toNat,by omega⟩;have hc:c<dss.length:=by omega
 have CQ:=CP _ K5 c hc;rw[←hcs] at CQ;have e1:w5.cell? ⟨w.heap.size,1,none⟩=some (.slice aP b.plc.length cP):=by rw[cell_of_row w5 _ 1 _ _ _ hB5];rfl
 have e2:w5.cell? ⟨w.heap.size,2,none⟩=some (.slice aL b.lst.length cL):=by rw[cell_of_row w5 _ 2 _ _ _ hB5];rfl
 have e3:w5.cell? ⟨w.heap.size,3,none⟩=some (.slice aN b.nts.length cQ):=by rw[cell_of_row w5 _ 3 _ _ _ hB5];rfl
 have e4:w5.cell? ⟨w.heap.size,4,none⟩=some (.slice aX b.nxt.length cX):=by rw[cell_of_row w5 _ 4 _ _ _ hB5];rfl
 have e5:w5.cell? ⟨w.heap.size,5,none⟩=some (.slice aT b.sn.length cT):=by rw[cell_of_row w5 _ 5 _ _ _ hB5];rfl
 have e6:w5.cell? ⟨w.heap.size,6,none⟩=some (.slice aF b.fr.length cF):=by rw[cell_of_row w5 _ 6 _ _ _ hB5];rfl
 have e7:w5.cell? ⟨w.heap.size,7,none⟩=some (.slice aR b.rws.length cR):=by rw[cell_of_row w5 _ 7 _ _ _ hB5];rfl
 have HCS:=Lib.hid hcs;clear hcs hB5;go_wp2_with fail
 refine CQ.mono ?_;rintro e w7 ⟨rfl,k6⟩;have H6:=H5.keep k6;have hR6:=(Below.block k6 (w.heap.size+1) (by omega)).trans hR5;have K6:=K5.trans k6;clear CP CQ hR5 H5 e0 e1 e2 e3 e4 e5 e6 e7;have hqt:qkT dss b s=canM dss b c:=by unfold qkT;rw[decide_eq_true (by omega),decide_eq_true (show s<(dss.length:Int) by omega),HCS.out,Int.toNat_natCast];rfl
 cases hcan:canM dss b c
 ·
  have hp:qkT dss b s=false:=by rw[hqt,hcan]
  clear hqt;have HS:Hid (qkM dss b s=b):=Lib.hid (by unfold qkM;rw[hp];simp);have HP:=Lib.hid hp;clear hp;have hDw:=H6.heapD;have hRw:=hR6;simp only[BV.arr] at hDw;have HG:=Lib.hid (grown_row3 w7 (w.heap.size+1) #[.slice aW2 dss.length cW2,.slice aP2 b.plc.length cP2,.slice aL2 b.lst.length cL2,.slice aN2 b.nts.length cQ2,.slice aX2 b.nxt.length cX2,.slice aT2 b.sn.length cT2,.slice aF2 b.fr.length cF2,.slice aR2 b.rws.length cR2]);have HZ:=Lib.hid (setRow_heap w7 (w.heap.size+1) _ #[.slice aW2 dss.length cW2,.slice aP2 b.plc.length cP2,.slice aL2 b.lst.length cL2,.slice aN2 b.nts.length cQ2,.slice aX2 b.nxt.length cX2,.slice aT2 b.sn.length cT2,.slice aF2 b.fr.length cF2,.slice aR2 b.rws.length cR2] _ _ hRw);have hNot:∀q,some (w.heap.size+1)=some q→q<m∧(q<bs∨N≤q):=fun q hq=>by have:=Option.some.inj hq;omega
  have HO:=Lib.hid (((H6.far HG.out hNot).val).base_le (show w.heap.size≤m by omega));have HKK:=Lib.hid ((K6:Keep w w7).grown HG.out (fun q hq=>by have:=Option.some.inj hq;omega));go_wp2_with (first|refine wpList_load_row rfl 29 _ rfl D rfl 29 _ (0,0) _ hDw Try.underlying29 rfl board_info ?_|refine wpList_store_row rfl 29 _ _ rfl (w.heap.size+1) _ rfl rfl 29 _ hRw board_info rfl (by simp[Value.oneCell']) ?_|fail)
  refine bodyPost_ret (results_row_tmp (by rfl) _ _ (w.heap.size+1) _ _ (0,0) _ (.bool false) rfl HZ.out rfl Try.underlying29 rfl board_info) rfl ?_
  first
   |exact⟨⟨.slice aW2 dss.length cW2,.slice aP2 b.plc.length cP2,.slice aL2 b.lst.length cL2,.slice aN2 b.nts.length cQ2,.slice aX2 b.nxt.length cX2,.slice aT2 b.sn.length cT2,.slice aF2 b.fr.length cF2,.slice aR2 b.rws.length cR2⟩,_,_,bs,N,by rw[HP.out],by rw[HS.out];exact HO.out,hbs2,HKK.out⟩
   |exact⟨⟨.slice aW2 dss.length cW2,.slice aP2 b.plc.length cP2,.slice aL2 b.lst.length cL2,.slice aN2 b.nts.length cQ2,.slice aX2 b.nxt.length cX2,.slice aT2 b.sn.length cT2,.slice aF2 b.fr.length cF2,.slice aR2 b.rws.length cR2⟩,by rw[HP.out],_,_,bs,⟨N,by rw[HS.out];exact HO.out⟩,hbs2,HKK.out⟩
 ·
  have hp:qkT dss b s=true:=by rw[hqt,hcan]
  clear hqt;have HS:Hid (qkM dss b s=quickM dss (eventsB dss) b c):=Lib.hid (by unfold qkM;rw[if_pos hp,HCS.out,Int.toNat_natCast]);have HP:=Lib.hid hp;have CL:=l15Quick_any _ m D _ nv rv bs N dss b c H6 hb hc hcan;rw[←HCS.out] at CL;go_wp2_with fail
  refine CL.mono ?_;rintro e w8 ⟨rfl,nv8,rv8,H8,T8⟩;have TL:=T8.low (m:=m) (by have:=H6.base;omega) (fun g hg=>(H6.blk g hg).1);have K8:Keep w w8:=Below.trans K6 (Below.mono TL (by omega));have hR8:=(Below.block TL (w.heap.size+1) (by omega)).trans hR6;clear CL H6 T8 TL K6 hR6 hp;obtain⟨nb,hnb⟩:∃nb,nb=quickM dss (eventsB dss) b c:=⟨_,rfl⟩;rw[←hnb] at H8;replace HS:Hid (qkM dss b s=nb):=Lib.hid (by rw[HS.out,hnb]);clear hnb;have hDw:=H8.heapD;have hRw:=hR8;simp only[BV.arr] at hDw;have HG:=Lib.hid (grown_row3 w8 (w.heap.size+1) #[.slice aW2 dss.length cW2,.slice aP2 b.plc.length cP2,.slice aL2 b.lst.length cL2,.slice aN2 b.nts.length cQ2,.slice aX2 b.nxt.length cX2,.slice aT2 b.sn.length cT2,.slice aF2 b.fr.length cF2,.slice aR2 b.rws.length cR2]);have HZ:=Lib.hid (setRow_heap w8 (w.heap.size+1) _ #[.slice aW2 dss.length cW2,.slice aP2 b.plc.length cP2,.slice aL2 b.lst.length cL2,.slice aN2 b.nts.length cQ2,.slice aX2 b.nxt.length cX2,.slice aT2 b.sn.length cT2,.slice aF2 b.fr.length cF2,.slice aR2 b.rws.length cR2] _ _ hRw);have hNot:∀q,some (w.heap.size+1)=some q→q<m∧(q<bs∨N≤q):=fun q hq=>by have:=Option.some.inj hq;omega
  have HO:=Lib.hid (((H8.far HG.out hNot).val).base_le (show w.heap.size≤m by omega));have HKK:=Lib.hid ((K8:Keep w w8).grown HG.out (fun q hq=>by have:=Option.some.inj hq;omega));go_wp2_with (first|refine wpList_load_row rfl 29 _ rfl D rfl 29 _ (0,0) _ hDw Try.underlying29 rfl board_info ?_|refine wpList_store_row rfl 29 _ _ rfl (w.heap.size+1) _ rfl rfl 29 _ hRw board_info rfl (by simp[Value.oneCell']) ?_|fail)
  refine bodyPost_ret (results_row_tmp (by rfl) _ _ (w.heap.size+1) _ _ (0,0) _ (.bool true) rfl HZ.out rfl Try.underlying29 rfl board_info) rfl ?_
  first
   |exact⟨⟨.slice aW2 dss.length cW2,.slice aP2 b.plc.length cP2,.slice aL2 b.lst.length cL2,.slice aN2 b.nts.length cQ2,.slice aX2 b.nxt.length cX2,.slice aT2 b.sn.length cT2,.slice aF2 b.fr.length cF2,.slice aR2 b.rws.length cR2⟩,_,_,bs,N,by rw[HP.out],by rw[HS.out];exact HO.out,hbs2,HKK.out⟩
   |exact⟨⟨.slice aW2 dss.length cW2,.slice aP2 b.plc.length cP2,.slice aL2 b.lst.length cL2,.slice aN2 b.nts.length cQ2,.slice aX2 b.nxt.length cX2,.slice aT2 b.sn.length cT2,.slice aF2 b.fr.length cF2,.slice aR2 b.rws.length cR2⟩,by rw[HP.out],_,_,bs,⟨N,by rw[HS.out];exact HO.out⟩,hbs2,HKK.out⟩
def qkD (dss:List (List Dd))(b:Bd):List (List Dd):=if boardB dss b=true then dss else []
def qkB (dss:List (List Dd))(b:Bd)(c:Int):Bd:=if boardB dss b=true then qkM dss b c else zBd
theorem specQuick_any (w:World)(bv:BV)(dss:List (List Dd))(b:Bd)(s:Int)(h:RdBd w bv dss b)(hz:SzBd dss b):
  Calls Try.prog 9 #[bv.agg,.int .i64 s] w fun e w'=>∃bv':BV,e = .returned (.tuple #[bv'.agg,.bool (boardB dss b&&qkT dss b s)])∧RdBd w' bv' (qkD dss b) (qkB dss b s)∧Keep w w':=by
 unfold qkD qkB
 cases hb:boardB dss b with
 |true=>
  refine (specQuick_right w bv dss b s h hz hb).mono ?_;rintro e w' ⟨bv',nv,rv,bs,N,rfl,o,-,k⟩;exact⟨bv',rfl,by rw[if_pos rfl,if_pos rfl];exact o.rd0,k⟩
 |false=>
  refine (specQuick_wrong w bv dss b s h hz hb).mono ?_;rintro e w' ⟨rfl,k⟩;exact⟨bd0,rfl,by rw[if_neg (by simp),if_neg (by simp)];exact rd_zero w',k⟩
theorem sz_quick (dss:List (List Dd))(b:Bd)(s:Int):SzBd (qkD dss b) (qkB dss b s)∧SumBd (qkD dss b) (qkB dss b s):=by
 unfold qkD qkB qkM
 cases hb:boardB dss b with
 |false=>rw[if_neg (by simp),if_neg (by simp)];exact⟨sz_zero,by simp[SumBd,lenW,lenG]⟩
 |true=>
  rw[if_pos rfl,if_pos rfl];split
  ·
   rename_i hs;simp only[qkT,Bool.and_eq_true,decide_eq_true_eq] at hs;exact ((RB.any hb).quick (c:=s.toNat) (by omega) hs.2).sz (by omega) (by omega)
  · exact (RB.any hb).sz (by omega) (by omega)
def nb0 (n:Nat):Bd:={ plc:=[0,0,0],lst:=[0,1,2],nts:=[],nxt:=List.replicate n 0,sn:=[],fr:=[],rws:=[[0],[1],[2]] }
def gNB:BI→Option Nat
 | .bd=>some 12
 | .plc=>some 2
 | .lst=>some 3
 | .nxt=>some 6
 | .rws=>some 10
 | .rw 0=>some 7
 | .rw 1=>some 8
 | .rw 2=>some 9
 |_=>none
theorem gNB_inj:∀a b i,gNB a=some i→gNB b=some i→a=b:=by
 intro a b i h1 h2;unfold gNB at h1 h2;split at h1<;>split at h2<;>first|rfl|(simp only[Option.some.injEq] at h1 h2;omega)|(cases h2;done)|(cases h1;done)
theorem nb_own {w:World}{m D bs N:Nat}{B:Nat→Bool}{R:Nat→Rw}{dss:List (List Dd)}{n:Nat}{x12 x13 x14 x17 x18 x19 x20 x21:Value}(HM:Mk w m (liveM [2,3,6,7,8,9,10,12] B) R true x12 bs N dss)
  (b2:B 2=true) (b3:B 3=true) (b6:B 6=true) (b7:B 7=true) (b8:B 8=true) (b9:B 9=true) (b10:B 10=true) (b12:B 12=true)
  (r2:R 2=ivR [0,0,0] x13) (r3:R 3=ivR [0,1,2] x14) (r6:R 6=ivR (List.replicate n 0) x17) (r7:R 7=ivR [0] x18) (r8:R 8=ivR [1] x19) (r9:R 9=ivR [2] x20) (r10:R 10=hdR 25 [x18,x19,x20] x21)
  (r12:R 12=bdR D ⟨x12,x13,x14,nilS,x17,nilS,nilS,x21⟩):OwnBd w m D ⟨x12,x13,x14,nilS,x17,nilS,nilS,x21⟩ [] [x18,x19,x20] bs N dss (nb0 n):=by
 have H1:∀a i,liveB [] [x18,x19,x20] a→gNB a=some i→liveM [2,3,6,7,8,9,10,12] B i∧famR D ⟨x12,x13,x14,nilS,x17,nilS,nilS,x21⟩ [] [x18,x19,x20] (nb0 n) a=R i:=by
  intro a i _ hi;unfold gNB at hi;split at hi<;>simp at hi<;>subst hi
  · exact⟨⟨by decide,b12⟩,r12.symm⟩
  · exact⟨⟨by decide,b2⟩,r2.symm⟩
  · exact⟨⟨by decide,b3⟩,r3.symm⟩
  · exact⟨⟨by decide,b6⟩,r6.symm⟩
  · exact⟨⟨by decide,b10⟩,r10.symm⟩
  · exact⟨⟨by decide,b7⟩,r7.symm⟩
  · exact⟨⟨by decide,b8⟩,r8.symm⟩
  · exact⟨⟨by decide,b9⟩,r9.symm⟩
 have H2:∀a,liveB [] [x18,x19,x20] a→gNB a=none→(famR D ⟨x12,x13,x14,nilS,x17,nilS,nilS,x21⟩ [] [x18,x19,x20] (nb0 n) a).own w m∧(famR D ⟨x12,x13,x14,nilS,x17,nilS,nilS,x21⟩ [] [x18,x19,x20] (nb0 n) a).v.ownBlock=none:=by
  intro a ha hn
  match a,ha,hn with
  | .nts,_,_=>exact⟨own_none _ _ _ _,rfl⟩
  | .sn,_,_=>exact⟨own_none _ _ _ _,rfl⟩
  | .fr,_,_=>exact⟨own_none _ _ _ _,rfl⟩
  | .nt c,ha,_=>exact absurd (show c<0 from ha) (by omega)
  | .rw 0,_,hn=>cases hn
  | .rw 1,_,hn=>cases hn
  | .rw 2,_,hn=>cases hn
  | .rw (p+3),ha,_=>exact absurd (show p+3<3 from ha) (by omega)
 refine⟨HM.fam.via gNB gNB_inj H1 H2,rfl,rfl,(HM.work rfl).1,(HM.work rfl).2.1,fun a ha k hk=>?_⟩
 cases e:gNB a with
 |none=>rw[(H2 a ha e).2] at hk;cases hk
 |some i=>rw[(H1 a i ha e).2] at hk;exact HM.out rfl i (H1 a i ha e).1 k hk
theorem l14New_any (w:World)(v:Value)(dss:List (List Dd))(h:RdW w v dss)(hb:workB dss=true):
  Calls Try.prog 50 #[v] w fun e w'=>∃bv nv rv bs N,e = .returned (BV.agg bv)∧OwnVal w' w.heap.size bv nv rv bs N dss (newM dss)∧w.heap.size≤bs∧Keep w w':=by
 obtain⟨u1,u2⟩:=workB_useR hb;have CE:=fun (W:World) (kW:Keep w W)=>l6Events_any W v dss (h.keep kW) u1 u2
 have e1:eventsB dss=evsW dss dss.length:=by rw[eventsB,if_pos hb]
 have h9:=eventsB_len9 dss;rw[←e1] at CE;have hok:=Lib.hid u2;clear u2;have h0:=h;obtain⟨a0,c0,rfl,-⟩:=h0;have hll:∀i,i<dss.length→(dss.getD i []).length≤1048576:=fun i hi=>by have hq:=hok.out i hi;unfold okL at hq;rw[Bool.and_eq_true,decide_eq_true_eq] at hq;omega
 generalize hes:eventsB dss=es at *;clear e1;go_enter Try.func50,Try.ntmps50
 go_wp2_with fail
 refine (CE _ ((Keep.refl w).alloc _)).mono ?_;rintro e w1 ⟨v1,rfl,o1,k1⟩;have hR0:=box_heap k1;have K1:=((Keep.refl w).alloc _).trans k1;have s1:=box_size k1;clear k1 CE;go_wp2_with fail
 refine (specReadsOf_any _ _ _ o1.rd (by omega)).mono ?_;rintro e w2 ⟨v2,rfl,o2,k2⟩;have hR2:=(Below.block k2 w.heap.size s1).trans hR0;have K2:=K1.trans k2;have s2:=k2.size;obtain⟨a2,c2,rfl,-⟩:=o2.rd;generalize hrs:idxB rdE es=rs at *;have HRS:=Lib.hid hrs;clear hrs;go_upto_region 2 with fail
 go_cut [4] from 11 (fun s4 wx=>∃D bv rv bs N,s4 = .pointer (some ⟨D,0,none⟩)∧OwnBd wx w2.heap.size D bv [] rv bs N dss (nb0 dss.length)∧w2.heap.size≤bs∧Keep w2 wx)
 case first=>
  refine wp_region_inv (by kernel_rfl) (fun listed a wq=>∃(B:Nat→Bool) (R:Nat→Rw) (bs N D:Nat) (x4 x11 x12 x13 x14 x15 x16 x17 x18 x19 x20 x21 x22:Value),listed=#[B 0,B 1,B 2,B 3,B 4,B 5,B 6,B 7,B 8,B 9,B 10,B 11,B 12,B 13]∧a=⟨#[.slice a0 dss.length c0,undef,.pointer (some ⟨w.heap.size,0,none⟩),.int .i64 (rs.length:Int),x4,undef,undef,.slice a0 dss.length c0,v1,.slice a2 rs.length c2,.int .i64 (rs.length:Int),x11,x12,x13,x14,x15,x16,x17,x18,x19,x20,x21,x22,undef,undef,undef,undef,undef,undef,undef,undef,undef,undef,undef,undef,undef,undef,undef,undef,undef,undef,undef,undef,undef,undef,undef,undef,undef,undef,undef,undef],[]⟩ ∧
  Hid (Mk wq w2.heap.size (liveM [2,3,6,7,8,9,10,12] B) R (B 1) x12 bs N dss∧Keep w2 wq∧(B 0=true→x11 = .slice a0 dss.length c0)∧(B 1=true→∃a c,x12 = .slice a dss.length c)∧(B 2=true→(∃g,x13 = .slice (some ⟨g,0,none⟩) 3 3)∧R 2=ivR [0,0,0] x13)∧(B 3=true→(∃g,x14 = .slice (some ⟨g,0,none⟩) 3 3)∧R 3=ivR [0,1,2] x14)∧(B 4=true→x15 = .slice a0 dss.length c0)∧(B 5=true→x16 = .int .i64 (dss.length:Int))∧(B 6=true→(∃g,x17 = .slice (some ⟨g,0,none⟩) dss.length dss.length)∧R 6=ivR (List.replicate dss.length 0) x17)∧(B 7=true→(∃g,x18 = .slice (some ⟨g,0,none⟩) 1 1)∧R 7=ivR [0] x18)∧(B 8=true→(∃g,x19 = .slice (some ⟨g,0,none⟩) 1 1)∧R 8=ivR [1] x19)∧(B 9=true→(∃g,x20 = .slice (some ⟨g,0,none⟩) 1 1)∧R 9=ivR [2] x20)∧(B 10=true→(B 7=true∧B 8=true∧B 9=true)∧(∃g,x21 = .slice (some ⟨g,0,none⟩) 3 3)∧R 10=hdR 25 [x18,x19,x20] x21)∧(B 11=true→(B 1=true∧B 2=true∧B 3=true∧B 6=true∧B 10=true)∧x22 = .agg #[x12,x13,x14,nilS,x17,nilS,nilS,x21])∧(B 12=true→x4 = .pointer (some ⟨D,0,none⟩)∧(R 12).v = .slice (some ⟨D,0,none⟩) 1 1∧(B 13=false→R 12=⟨29,8,.slice (some ⟨D,0,none⟩) 1 1,1,[nilS,nilS,nilS,nilS,nilS,nilS,nilS,nilS]⟩))∧(B 13=true→B 11=true∧B 12=true)∧(B 13=true→R 12=bdR D ⟨x12,x13,x14,nilS,x17,nilS,nilS,x21⟩))) ?_ ?_ ?_
  · exact⟨fun _=>false,fun _=>⟨0,0,nilS,0,[]⟩,0,0,0,undef,undef,undef,undef,undef,undef,undef,undef,undef,undef,undef,undef,undef,rfl,rfl,Lib.hid ⟨Mk.start _ _ _ _ _ _ _ _,(Keep.refl w2).drew,(fun q=>by cases q),(fun q=>by cases q),(fun q=>by cases q),(fun q=>by cases q),(fun q=>by cases q),(fun q=>by cases q),(fun q=>by cases q),(fun q=>by cases q),(fun q=>by cases q),(fun q=>by cases q),(fun q=>by cases q),(fun q=>by cases q),(fun q=>by cases q),(fun q=>by cases q),(fun q=>by cases q)⟩⟩
  ·
   rintro listed a w3 ⟨B,R,bs,N,D,x4,x11,x12,x13,x14,x15,x16,x17,x18,x19,x20,x21,x22,rfl,rfl,HJ⟩ i hi;have hlt:=(ready_use hi).1;have hcs:i=0∨i=1∨i=2∨i=3∨i=4∨i=5∨i=6∨i=7∨i=8∨i=9∨i=10∨i=11∨i=12∨i=13:=by simp at hlt;omega
   rcases hcs with rfl|rfl|rfl|rfl|rfl|rfl|rfl|rfl|rfl|rfl|rfl|rfl|rfl|rfl
   ·
    have hbi:B 0=false:=by simpa using (ready_use hi).2.1
    have HI:=HJ.out;obtain⟨HM,HK,F0,F1,F2,F3,F4,F5,F6,F7,F8,F9,F10,F11,F12,F13,F14⟩:=HI;have hsz:=HK.size;clear HM HK F0 F1 F2 F3 F4 F5 F6 F7 F8 F9 F10 F11 F12 F13 F14;refine wpOp_law rfl rfl (fun K hK=>?_);simp only[List.getElem_toArray,List.getElem_cons_zero];go_simp;refine hK.out _ _ ?_;obtain⟨HM,HK,F0,F1,F2,F3,F4,F5,F6,F7,F8,F9,F10,F11,F12,F13,F14⟩:=HJ.out;exact⟨updB B 0,R,bs,N,D,_,_,_,_,_,_,_,_,_,_,_,_,_,rfl,rfl,Lib.hid ⟨HM.pass (by decide),HK,(fun _=>rfl),F1,F2,F3,F4,F5,F6,F7,F8,F9,F10,F11,F12,F13,F14⟩⟩
   ·
    have hbi:B 1=false:=by simpa using (ready_use hi).2.1
    have hdp:=(ready_use hi).2.2 _ rfl;simp[Region.binds] at hdp;have HI:=HJ.out;obtain⟨HM,HK,F0,F1,F2,F3,F4,F5,F6,F7,F8,F9,F10,F11,F12,F13,F14⟩:=HI;have hsz:=HK.size;have Ex:=Lib.hid (F0 hdp);rw[Ex.out];clear HM HK F0 F1 F2 F3 F4 F5 F6 F7 F8 F9 F10 F11 F12 F13 F14;refine wpOp_law rfl rfl (fun K hK=>?_);simp only[List.getElem_toArray,List.getElem_cons_succ,List.getElem_cons_zero];go_simp;refine (l5Copy_any _ _ _ (h.keep (K2.trans HJ.out.2.1)) (by omega) hll).mono ?_;rintro e wz ⟨vz,rfl,hx,kk⟩;go_wp2_with fail
    refine hK.out _ _ ?_;obtain⟨HM,HK,F0,F1,F2,F3,F4,F5,F6,F7,F8,F9,F10,F11,F12,F13,F14⟩:=HJ.out;have ex:=Ex.out;subst ex;rw[hbi] at HM;obtain⟨az,cz,ez,-⟩:=id hx;exact⟨updB B 1,R,_,_,D,_,_,_,_,_,_,_,_,_,_,_,_,_,rfl,rfl,Lib.hid ⟨HM.copied (by decide) kk hx hsz,HK.trans kk,F0,(fun _=>⟨az,cz,ez⟩),F2,F3,F4,F5,F6,F7,F8,F9,F10,(fun q=>absurd (F11 q).1.1 (by rw[hbi];simp)),F12,F13,(fun q=>absurd (F11 (F13 q).1).1.1 (by rw[hbi];simp))⟩⟩
   ·
    have hbi:B 2=false:=by simpa using (ready_use hi).2.1
    have HI:=HJ.out;obtain⟨HM,HK,F0,F1,F2,F3,F4,F5,F6,F7,F8,F9,F10,F11,F12,F13,F14⟩:=HI;have hsz:=HK.size;clear HM HK F0 F1 F2 F3 F4 F5 F6 F7 F8 F9 F10 F11 F12 F13 F14;refine wpOp_law rfl rfl (fun K hK=>?_);simp only[List.getElem_toArray,List.getElem_cons_succ,List.getElem_cons_zero];refine wp_make_ints _ _ rfl 3 rfl rfl (by omega) w2.heap.size hsz ?_;intro wz oz kz;simp only[Act.put,List.setIfInBounds_toArray,List.set_cons_zero,List.set_cons_succ];refine hK.out _ _ ?_;obtain⟨HM,HK,F0,F1,F2,F3,F4,F5,F6,F7,F8,F9,F10,F11,F12,F13,F14⟩:=HJ.out;exact⟨updB B 2,upd R 2 (ivR [0,0,0] _),bs,N,D,_,_,_,_,_,_,_,_,_,_,_,_,_,rfl,rfl,Lib.hid ⟨HM.add hbi kz oz (fun b hb=>new_ge hb),HK.trans kz,F0,F1,(fun _=>⟨⟨_,rfl⟩,rfl⟩),F3,F4,F5,F6,F7,F8,F9,F10,(fun q=>absurd (F11 q).1.2.1 (by rw[hbi];simp)),F12,F13,(fun q=>absurd (F11 (F13 q).1).1.2.1 (by rw[hbi];simp))⟩⟩
   ·
    have hbi:B 3=false:=by simpa using (ready_use hi).2.1
    have HI:=HJ.out;obtain⟨HM,HK,F0,F1,F2,F3,F4,F5,F6,F7,F8,F9,F10,F11,F12,F13,F14⟩:=HI;have hsz:=HK.size;clear HM HK F0 F1 F2 F3 F4 F5 F6 F7 F8 F9 F10 F11 F12 F13 F14;refine wpOp_law rfl rfl (fun K hK=>?_);simp only[List.getElem_toArray,List.getElem_cons_succ,List.getElem_cons_zero];go_simp;refine hK.out _ _ ?_;obtain⟨HM,HK,F0,F1,F2,F3,F4,F5,F6,F7,F8,F9,F10,F11,F12,F13,F14⟩:=HJ.out;exact⟨updB B 3,_,bs,N,D,_,_,_,_,_,_,_,_,_,_,_,_,_,rfl,rfl,Lib.hid ⟨HM.add hbi ((Keep.refl w3).alloc _) (own_lit w3 hsz 2 #[.int .i64 0,.int .i64 1,.int .i64 2] (by unfold maxLen;simp)) (fun b hb=>new_ge hb),HK.alloc _,F0,F1,F2,(fun _=>⟨⟨_,rfl⟩,rfl⟩),F4,F5,F6,F7,F8,F9,F10,(fun q=>absurd (F11 q).1.2.2.1 (by rw[hbi];simp)),F12,F13,(fun q=>absurd (F11 (F13 q).1).1.2.2.1 (by rw[hbi];simp))⟩⟩
   ·
    have hbi:B 4=false:=by simpa using (ready_use hi).2.1
    have HI:=HJ.out;obtain⟨HM,HK,F0,F1,F2,F3,F4,F5,F6,F7,F8,F9,F10,F11,F12,F13,F14⟩:=HI;have hsz:=HK.size;clear HM HK F0 F1 F2 F3 F4 F5 F6 F7 F8 F9 F10 F11 F12 F13 F14;refine wpOp_law rfl rfl (fun K hK=>?_);simp only[List.getElem_toArray,List.getElem_cons_succ,List.getElem_cons_zero];go_simp;refine hK.out _ _ ?_;obtain⟨HM,HK,F0,F1,F2,F3,F4,F5,F6,F7,F8,F9,F10,F11,F12,F13,F14⟩:=HJ.out;exact⟨updB B 4,R,bs,N,D,_,_,_,_,_,_,_,_,_,_,_,_,_,rfl,rfl,Lib.hid ⟨HM.pass (by decide),HK,F0,F1,F2,F3,(fun _=>rfl),F5,F6,F7,F8,F9,F10,F11,F12,F13,F14⟩⟩
   ·
    have hbi:B 5=false:=by simpa using (ready_use hi).2.1
    have hdp:=(ready_use hi).2.2 _ rfl;simp[Region.binds] at hdp;have HI:=HJ.out;obtain⟨HM,HK,F0,F1,F2,F3,F4,F5,F6,F7,F8,F9,F10,F11,F12,F13,F14⟩:=HI;have hsz:=HK.size;have Ex:=Lib.hid (F4 hdp);rw[Ex.out];clear HM HK F0 F1 F2 F3 F4 F5 F6 F7 F8 F9 F10 F11 F12 F13 F14;refine wpOp_law rfl rfl (fun K hK=>?_);simp only[List.getElem_toArray,List.getElem_cons_succ,List.getElem_cons_zero];go_simp;refine hK.out _ _ ?_;obtain⟨HM,HK,F0,F1,F2,F3,F4,F5,F6,F7,F8,F9,F10,F11,F12,F13,F14⟩:=HJ.out;have ex:=Ex.out;subst ex;exact⟨updB B 5,R,bs,N,D,_,_,_,_,_,_,_,_,_,_,_,_,_,rfl,rfl,Lib.hid ⟨HM.pass (by decide),HK,F0,F1,F2,F3,F4,(fun _=>rfl),F6,F7,F8,F9,F10,F11,F12,F13,F14⟩⟩
   ·
    have hbi:B 6=false:=by simpa using (ready_use hi).2.1
    have hdp:=(ready_use hi).2.2 _ rfl;simp[Region.binds] at hdp;have HI:=HJ.out;obtain⟨HM,HK,F0,F1,F2,F3,F4,F5,F6,F7,F8,F9,F10,F11,F12,F13,F14⟩:=HI;have hsz:=HK.size;have Ex:=Lib.hid (F5 hdp);rw[Ex.out];clear HM HK F0 F1 F2 F3 F4 F5 F6 F7 F8 F9 F10 F11 F12 F13 F14;refine wpOp_law rfl rfl (fun K hK=>?_);simp only[List.getElem_toArray,List.getElem_cons_succ,List.getElem_cons_zero];refine wp_make_ints _ _ rfl dss.length rfl rfl (by omega) w2.heap.size hsz ?_;intro wz oz kz;simp only[Act.put,List.setIfInBounds_toArray,List.set_cons_zero,List.set_cons_succ];refine hK.out _ _ ?_;obtain⟨HM,HK,F0,F1,F2,F3,F4,F5,F6,F7,F8,F9,F10,F11,F12,F13,F14⟩:=HJ.out;have ex:=Ex.out;subst ex;exact⟨updB B 6,upd R 6 (ivR (List.replicate dss.length 0) _),bs,N,D,_,_,_,_,_,_,_,_,_,_,_,_,_,rfl,rfl,Lib.hid ⟨HM.add hbi kz oz (fun b hb=>new_ge hb),HK.trans kz,F0,F1,F2,F3,F4,F5,(fun _=>⟨⟨_,rfl⟩,rfl⟩),F7,F8,F9,F10,(fun q=>absurd (F11 q).1.2.2.2.1 (by rw[hbi];simp)),F12,F13,(fun q=>absurd (F11 (F13 q).1).1.2.2.2.1 (by rw[hbi];simp))⟩⟩
   ·
    have hbi:B 7=false:=by simpa using (ready_use hi).2.1
    have HI:=HJ.out;obtain⟨HM,HK,F0,F1,F2,F3,F4,F5,F6,F7,F8,F9,F10,F11,F12,F13,F14⟩:=HI;have hsz:=HK.size;clear HM HK F0 F1 F2 F3 F4 F5 F6 F7 F8 F9 F10 F11 F12 F13 F14;refine wpOp_law rfl rfl (fun K hK=>?_);simp only[List.getElem_toArray,List.getElem_cons_succ,List.getElem_cons_zero];go_simp;refine hK.out _ _ ?_;obtain⟨HM,HK,F0,F1,F2,F3,F4,F5,F6,F7,F8,F9,F10,F11,F12,F13,F14⟩:=HJ.out;exact⟨updB B 7,_,bs,N,D,_,_,_,_,_,_,_,_,_,_,_,_,_,rfl,rfl,Lib.hid ⟨HM.add hbi ((Keep.refl w3).alloc _) (own_lit w3 hsz 2 #[.int .i64 0] (by unfold maxLen;simp)) (fun b hb=>new_ge hb),HK.alloc _,F0,F1,F2,F3,F4,F5,F6,(fun _=>⟨⟨_,rfl⟩,rfl⟩),F8,F9,(fun q=>absurd (F10 q).1.1 (by rw[hbi];simp)),F11,F12,F13,F14⟩⟩
   ·
    have hbi:B 8=false:=by simpa using (ready_use hi).2.1
    have HI:=HJ.out;obtain⟨HM,HK,F0,F1,F2,F3,F4,F5,F6,F7,F8,F9,F10,F11,F12,F13,F14⟩:=HI;have hsz:=HK.size;clear HM HK F0 F1 F2 F3 F4 F5 F6 F7 F8 F9 F10 F11 F12 F13 F14;refine wpOp_law rfl rfl (fun K hK=>?_);simp only[List.getElem_toArray,List.getElem_cons_succ,List.getElem_cons_zero];go_simp;refine hK.out _ _ ?_;obtain⟨HM,HK,F0,F1,F2,F3,F4,F5,F6,F7,F8,F9,F10,F11,F12,F13,F14⟩:=HJ.out;exact⟨updB B 8,_,bs,N,D,_,_,_,_,_,_,_,_,_,_,_,_,_,rfl,rfl,Lib.hid ⟨HM.add hbi ((Keep.refl w3).alloc _) (own_lit w3 hsz 2 #[.int .i64 1] (by unfold maxLen;simp)) (fun b hb=>new_ge hb),HK.alloc _,F0,F1,F2,F3,F4,F5,F6,F7,(fun _=>⟨⟨_,rfl⟩,rfl⟩),F9,(fun q=>absurd (F10 q).1.2.1 (by rw[hbi];simp)),F11,F12,F13,F14⟩⟩
   ·
    have hbi:B 9=false:=by simpa using (ready_use hi).2.1
    have HI:=HJ.out;obtain⟨HM,HK,F0,F1,F2,F3,F4,F5,F6,F7,F8,F9,F10,F11,F12,F13,F14⟩:=HI;have hsz:=HK.size;clear HM HK F0 F1 F2 F3 F4 F5 F6 F7 F8 F9 F10 F11 F12 F13 F14;refine wpOp_law rfl rfl (fun K hK=>?_);simp only[List.getElem_toArray,List.getElem_cons_succ,List.getElem_cons_zero];go_simp;refine hK.out _ _ ?_;obtain⟨HM,HK,F0,F1,F2,F3,F4,F5,F6,F7,F8,F9,F10,F11,F12,F13,F14⟩:=HJ.out;exact⟨updB B 9,_,bs,N,D,_,_,_,_,_,_,_,_,_,_,_,_,_,rfl,rfl,Lib.hid ⟨HM.add hbi ((Keep.refl w3).alloc _) (own_lit w3 hsz 2 #[.int .i64 2] (by unfold maxLen;simp)) (fun b hb=>new_ge hb),HK.alloc _,F0,F1,F2,F3,F4,F5,F6,F7,F8,(fun _=>⟨⟨_,rfl⟩,rfl⟩),(fun q=>absurd (F10 q).1.2.2 (by rw[hbi];simp)),F11,F12,F13,F14⟩⟩
   ·
    have hbi:B 10=false:=by simpa using (ready_use hi).2.1
    have hdp:=(ready_use hi).2.2 _ rfl;simp[Region.binds] at hdp;have HI:=HJ.out;obtain⟨HM,HK,F0,F1,F2,F3,F4,F5,F6,F7,F8,F9,F10,F11,F12,F13,F14⟩:=HI;have hsz:=HK.size;obtain⟨d7,d8,d9⟩:=hdp;obtain⟨⟨g7,e7⟩,-⟩:=F7 d7;have E7:=Lib.hid (e7);rw[E7.out];clear e7;obtain⟨⟨g8,e8⟩,-⟩:=F8 d8;have E8:=Lib.hid (e8);rw[E8.out];clear e8;obtain⟨⟨g9,e9⟩,-⟩:=F9 d9;have E9:=Lib.hid (e9);rw[E9.out];clear e9;clear HM HK F0 F1 F2 F3 F4 F5 F6 F7 F8 F9 F10 F11 F12 F13 F14;refine wpOp_law rfl rfl (fun K hK=>?_);simp only[List.getElem_toArray,List.getElem_cons_succ,List.getElem_cons_zero];go_simp;refine hK.out _ _ ?_;obtain⟨HM,HK,F0,F1,F2,F3,F4,F5,F6,F7,F8,F9,F10,F11,F12,F13,F14⟩:=HJ.out;have e7:=E7.out;subst e7;have e8:=E8.out;subst e8;have e9:=E9.out;subst e9;exact⟨updB B 10,_,bs,N,D,_,_,_,_,_,_,_,_,_,_,_,_,_,rfl,rfl,Lib.hid ⟨HM.add hbi ((Keep.refl w3).alloc _) (own_lit w3 hsz 25 #[.slice (some ⟨g7,0,none⟩) 1 1,.slice (some ⟨g8,0,none⟩) 1 1,.slice (some ⟨g9,0,none⟩) 1 1] (by unfold maxLen;simp)) (fun b hb=>new_ge hb),HK.alloc _,F0,F1,F2,F3,F4,F5,F6,F7,F8,F9,(fun _=>⟨⟨d7,d8,d9⟩,⟨_,rfl⟩,rfl⟩),(fun q=>absurd (F11 q).1.2.2.2.2 (by rw[hbi];simp)),F12,F13,(fun q=>absurd (F11 (F13 q).1).1.2.2.2.2 (by rw[hbi];simp))⟩⟩
   ·
    have hbi:B 11=false:=by simpa using (ready_use hi).2.1
    have hdp:=(ready_use hi).2.2 _ rfl;simp[Region.binds] at hdp;have HI:=HJ.out;obtain⟨HM,HK,F0,F1,F2,F3,F4,F5,F6,F7,F8,F9,F10,F11,F12,F13,F14⟩:=HI;have hsz:=HK.size;obtain⟨d1,d2,d3,d6,d10⟩:=hdp;obtain⟨a1,c1,e1⟩:=F1 d1;have E1:=Lib.hid (e1);rw[E1.out];clear e1;obtain⟨⟨g2,e2⟩,-⟩:=F2 d2;have E2:=Lib.hid (e2);rw[E2.out];clear e2;obtain⟨⟨g3,e3⟩,-⟩:=F3 d3;have E3:=Lib.hid (e3);rw[E3.out];clear e3;obtain⟨⟨g6,e6⟩,-⟩:=F6 d6;have E6:=Lib.hid (e6);rw[E6.out];clear e6;obtain⟨-,⟨g10,e10⟩,-⟩:=F10 d10;have E10:=Lib.hid (e10);rw[E10.out];clear e10;clear HM HK F0 F1 F2 F3 F4 F5 F6 F7 F8 F9 F10 F11 F12 F13 F14;refine wpOp_law rfl rfl (fun K hK=>?_);simp only[List.getElem_toArray,List.getElem_cons_succ,List.getElem_cons_zero];go_simp;refine hK.out _ _ ?_;obtain⟨HM,HK,F0,F1,F2,F3,F4,F5,F6,F7,F8,F9,F10,F11,F12,F13,F14⟩:=HJ.out;have e1:=E1.out;subst e1;have e2:=E2.out;subst e2;have e3:=E3.out;subst e3;have e6:=E6.out;subst e6;have e10:=E10.out;subst e10;exact⟨updB B 11,R,bs,N,D,_,_,_,_,_,_,_,_,_,_,_,_,_,rfl,rfl,Lib.hid ⟨HM.pass (by decide),HK,F0,F1,F2,F3,F4,F5,F6,F7,F8,F9,F10,(fun _=>⟨⟨d1,d2,d3,d6,d10⟩,rfl⟩),F12,(fun q=>absurd (F13 q).1 (by rw[hbi];simp)),F14⟩⟩
   ·
    have hbi:B 12=false:=by simpa using (ready_use hi).2.1
    have HI:=HJ.out;obtain⟨HM,HK,F0,F1,F2,F3,F4,F5,F6,F7,F8,F9,F10,F11,F12,F13,F14⟩:=HI;have hsz:=HK.size;clear HM HK F0 F1 F2 F3 F4 F5 F6 F7 F8 F9 F10 F11 F12 F13 F14;refine wpOp_law rfl rfl (fun K hK=>?_);simp only[List.getElem_toArray,List.getElem_cons_succ,List.getElem_cons_zero];go_simp;refine hK.out _ _ ?_;obtain⟨HM,HK,F0,F1,F2,F3,F4,F5,F6,F7,F8,F9,F10,F11,F12,F13,F14⟩:=HJ.out;exact⟨updB B 12,_,bs,N,w3.heap.size,_,_,_,_,_,_,_,_,_,_,_,_,_,rfl,rfl,Lib.hid ⟨HM.add hbi ((Keep.refl w3).alloc _) (box_own w3 hsz) (fun b hb=>new_ge hb),HK.alloc _,F0,F1,F2,F3,F4,F5,F6,F7,F8,F9,F10,F11,(fun _=>⟨rfl,rfl,fun _=>rfl⟩),(fun q=>absurd (F13 q).2 (by rw[hbi];simp)),(fun q=>absurd (F13 q).2 (by rw[hbi];simp))⟩⟩
   ·
    have hbi:B 13=false:=by simpa using (ready_use hi).2.1
    have hdp:=(ready_use hi).2.2 _ rfl;simp[Region.binds] at hdp;have HI:=HJ.out;obtain⟨HM,HK,F0,F1,F2,F3,F4,F5,F6,F7,F8,F9,F10,F11,F12,F13,F14⟩:=HI;have hsz:=HK.size;have d11:B 11=true:=by exact hdp.2.1
    have d12:B 12=true:=by exact hdp.1
    obtain⟨⟨d1,d2,d3,d6,d10⟩,e22⟩:=F11 d11;obtain⟨e4,er,ez⟩:=F12 d12;have o12:=HM.fam.own 12 ⟨by decide,d12⟩;rw[ez hbi] at o12;obtain⟨⟨old,hz,hos⟩,ho⟩:=box_put o12 (v:=⟨x12,x13,x14,nilS,x17,nilS,nilS,x21⟩);obtain⟨a1,c1,e1⟩:=F1 d1;obtain⟨⟨g2,e2⟩,-⟩:=F2 d2;obtain⟨⟨g3,e3⟩,-⟩:=F3 d3;obtain⟨⟨g6,e6⟩,-⟩:=F6 d6;obtain⟨-,⟨g10,e10⟩,-⟩:=F10 d10;have hone:(BV.arr ⟨x12,x13,x14,nilS,x17,nilS,nilS,x21⟩).all (·.oneCell')=true:=by rw[e1,e2,e3,e6,e10];simp[Value.oneCell']
    clear e1 e2 e3 e6 e10;have Ep:=Lib.hid (e22);rw[Ep.out];have Eq:=Lib.hid (e4);rw[Eq.out];clear e22 e4;clear HM HK F0 F1 F2 F3 F4 F5 F6 F7 F8 F9 F10 F11 F12 F13 F14;refine wpOp_law rfl rfl (fun K hK=>?_);simp only[List.getElem_toArray,List.getElem_cons_succ,List.getElem_cons_zero];refine wp_store_row 29 _ _ rfl D _ rfl rfl 29 old hz board_info hos hone ?_;refine hK.out _ _ ?_;obtain⟨HM,HK,F0,F1,F2,F3,F4,F5,F6,F7,F8,F9,F10,F11,F12,F13,F14⟩:=HJ.out;have ep:=Ep.out;subst ep;have eq:=Eq.out;subst eq;exact⟨updB B 13,_,bs,N,D,_,_,_,_,_,_,_,_,_,_,_,_,_,rfl,rfl,Lib.hid ⟨HM.turn (by decide) ⟨by decide,d12⟩ (r:=bdR D ⟨x12,x13,x14,nilS,x17,nilS,nilS,x21⟩) (by rw[er];exact grown_row3 _ _ _) (by rw[er]) ho,HK.grown (grown_row3 _ D _) (fun b hb=>by have:=(HM.fam.lt ⟨by decide,d12⟩ D (by rw[er];rfl)).1;have:=Option.some.inj hb;omega),F0,F1,F2,F3,F4,F5,F6,F7,F8,F9,F10,F11,(fun _=>⟨rfl,rfl,fun q=>by cases q⟩),(fun _=>⟨d11,d12⟩),(fun _=>rfl)⟩⟩
  ·
   rintro listed a w3 ⟨B,R,bs,N,D,x4,x11,x12,x13,x14,x15,x16,x17,x18,x19,x20,x21,x22,rfl,rfl,HJ⟩ hr;have b0:B 0=true:=by simpa using ready_none hr 0 _ rfl (by simp[Region.binds])
   have b1:B 1=true:=by simpa using ready_none hr 1 _ rfl (by simp[Region.binds,b0])
   have b2:B 2=true:=by simpa using ready_none hr 2 _ rfl (by simp[Region.binds])
   have b3:B 3=true:=by simpa using ready_none hr 3 _ rfl (by simp[Region.binds])
   have b4:B 4=true:=by simpa using ready_none hr 4 _ rfl (by simp[Region.binds])
   have b5:B 5=true:=by simpa using ready_none hr 5 _ rfl (by simp[Region.binds,b4])
   have b6:B 6=true:=by simpa using ready_none hr 6 _ rfl (by simp[Region.binds,b5])
   have b7:B 7=true:=by simpa using ready_none hr 7 _ rfl (by simp[Region.binds])
   have b8:B 8=true:=by simpa using ready_none hr 8 _ rfl (by simp[Region.binds])
   have b9:B 9=true:=by simpa using ready_none hr 9 _ rfl (by simp[Region.binds])
   have b10:B 10=true:=by simpa using ready_none hr 10 _ rfl (by simp[Region.binds,b7,b8,b9])
   have b11:B 11=true:=by simpa using ready_none hr 11 _ rfl (by simp[Region.binds,b1,b2,b3,b6,b10])
   have b12:B 12=true:=by simpa using ready_none hr 12 _ rfl (by simp[Region.binds])
   have b13:B 13=true:=by simpa using ready_none hr 13 _ rfl (by simp[Region.binds,b0,b1,b2,b3,b4,b5,b6,b7,b8,b9,b10,b11,b12])
   obtain⟨HM,HK,F0,F1,F2,F3,F4,F5,F6,F7,F8,F9,F10,F11,F12,F13,F14⟩:=HJ.out;clear HJ hr;have HB:=nb_own (n:=dss.length) (by rw[b1] at HM;exact HM) b2 b3 b6 b7 b8 b9 b10 b12 (F2 b2).2 (F3 b3).2 (F6 b6).2 (F7 b7).2 (F8 b8).2 (F9 b9).2 (F10 b10).2.2 (F14 b13);have HW:=((by rw[b1] at HM;exact HM):Mk w3 w2.heap.size _ R true x12 bs N dss).work rfl;have e4:=(F12 b12).1;clear HM F0 F1 F2 F3 F4 F5 F6 F7 F8 F9 F10 F11 F12 F13 F14;subst e4;go_wp2;go_meet;case rel=>exact⟨D,_,_,bs,N,rfl,HB,HW.2.2,HK⟩
 case rest=>
  obtain⟨D,bv,rv,bs,N,rfl,H,hbs,kc⟩:=hcut;have hRc:=(Below.block kc w.heap.size (by omega)).trans hR2;obtain⟨j0,hj,hy0,hy1,hy2⟩:=info_parts Try.infoNl;obtain⟨i0,hi,hz0,hz1,hz2⟩:=info_parts Try.infoI
  have rs12:rs.length≤12:=by
   rw[←HRS.out];unfold idxB;rw[if_pos (by omega)];have:=idxK_len rdE es es.length;omega
  go_wp2;go_loopw [5] (fun i wr=>∃(k:Nat) (bv':BV) (nv':List Value),k≤dss.length∧i = .int .i64 k∧OwnBd wr w2.heap.size D bv' nv' rv bs N dss { nb0 dss.length with nts:=List.replicate k [] }∧Keep w2 wr) (fun i _=>dss.length-(intOf i).toNat)
  case atStart=>exact⟨0,bv,[],Nat.zero_le _,rfl,H,kc⟩
  case round=>
   obtain⟨k,bv',nv',hk,rfl,Hr,kr⟩:=hrel;clear H kc hRc;by_cases hlt:k<dss.length
   ·
    obtain⟨aN,cN',eN,-⟩:=Hr.hN;simp only[List.length_replicate] at eN;have d3:=Hr.cells.2.2.2.1;have hln:nv'.length=k:=by have:=Hr.ln;simpa using this
    have HR0:wr.ownsRow w2.heap.size 36 1 (.slice aN k cN') k nv':=by
     have o:wr.ownsRow w2.heap.size 36 1 bv'.N nv'.length nv':=Hr.fam.own .nts trivial;rw[eN,hln] at o;exact o
    rw[eN] at d3;have hbase:=Hr.base;have sr:=kr.size;have oA:AppT cN 66 3 (wr.alloc (.cells #[] 66)) w2.heap.size (.slice (some ⟨wr.heap.size,0,none⟩) 0 0) []:=World.ownsRow_lit wr #[] 0 sr (by decide) rfl;have kA:Keep wr (wr.alloc (.cells #[] 66)):=(Keep.refl wr).alloc _;have kA2:Keep (wr.alloc (.cells #[] 66)) ((wr.alloc (.cells #[] 66)).alloc (.cells #[.slice (some ⟨wr.heap.size,0,none⟩) 0 0] 36)):=(Keep.refl _).alloc _;have kB:=kA.trans kA2;have oB:AppT cN 66 3 ((wr.alloc (.cells #[] 66)).alloc (.cells #[.slice (some ⟨wr.heap.size,0,none⟩) 0 0] 36)) w2.heap.size (.slice (some ⟨wr.heap.size,0,none⟩) 0 0) []:=World.ownsRow.kept oA kA2.grownBy (.inr (by simp[Value.ownBlock]));have HR:=World.ownsRow.kept HR0 kB.grownBy (by cases (Value.slice aN k cN').ownBlock<;>simp);have HH:=Lib.hid Hr;have HoB:=Lib.hid oB;have HkB:=Lib.hid kB;have HeN:=Lib.hid eN;have Hln:=Lib.hid hln;have fD:=Hr.free 3;have dB:((wr.alloc (.cells #[] 66)).alloc (.cells #[.slice (some ⟨wr.heap.size,0,none⟩) 0 0] 36)).heap.size=wr.heap.size+1+1:=by rw[heap_size,heap_size]
    have HdB:=Lib.hid dB;clear Hr oA kA kA2 kB oB HR0 eN hln dB;go_wp2_with (at_builtin;refine wpList_append_own_at _ rfl _ _ 26 rfl w2.heap.size 36 j0 (.slice none 0 0) 1 24 Try.underlying26 hj hy0 hy1 hy2 rfl (by decide) _ _ _ rfl HR ⟨_,0,none⟩ 1 1 [.slice (some ⟨wr.heap.size,0,none⟩) 0 0] rfl rfl ?e1 ?e2 ?e3 ?e4 ?e5 ?_)
    case e2=>rfl
    case e3=>unfold maxLen;omega
    case e4=>omega
    case e5=>omega
    intro v' w7 hown7 hgrow7 _ hblk7
    have ho7:(hdR 36 (nv'++[Value.slice (some ⟨wr.heap.size,0,none⟩) 0 0]) v').own w7 w2.heap.size:=by
     show w7.ownsRow w2.heap.size 36 1 v' (nv'++[Value.slice (some ⟨wr.heap.size,0,none⟩) 0 0]).length (nv'++[Value.slice (some ⟨wr.heap.size,0,none⟩) 0 0]);rw[List.length_append,Hln.out];exact hown7
    obtain⟨H8,c8,f8⟩:=HH.out.pushN HkB.out (fun q hq=>new_ge hq) HoB.out (by rw[HeN.out];exact hgrow7) (by rw[HeN.out];rcases hblk7 with e|e;exact .inl e;exact .inr (.inl (by rw[HdB.out];exact e))) ho7;have K7:Keep w2 w7:=(kr.trans HkB.out).grown hgrow7 (fun q hq=>(World.ownsRow.lt HR q hq).1);have K8:Keep w2 (w7.setCell ⟨D,3,none⟩ v'):=K7.grown (grown_set w7 D 3 v') (fun q hq=>by have:=Option.some.inj hq;omega);obtain⟨a8,c8',e8,-⟩:=own_head ho7
    have H9:OwnBd (w7.setCell ⟨D,3,none⟩ v') w2.heap.size D { bv' with N:=v' } (nv'++[Value.slice (some ⟨wr.heap.size,0,none⟩) 0 0]) rv bs N dss { nb0 dss.length with nts:=List.replicate (k+1) [] }:=by
     rw[List.replicate_succ'];exact H8
    have HH9:=Lib.hid H9;have HK8:=Lib.hid K8;clear H8 H9 K8 K7 hown7 hgrow7 hblk7 HR ho7 fD;replace e8:v' = .slice a8 (k+1) c8':=by rw[e8,List.length_append,Hln.out];rfl
    subst e8;go_wp2;go_roundw;case rel=>exact⟨k+1,_,_,by omega,by go_num,HH9.out,HK8.out⟩
    case measure=>simp[intOf];omega
   ·
    obtain rfl:k=dss.length:=by omega
    clear hlt hk;go_wp2;go_loopw [6] (fun i wq=>∃(k:Nat) (bv':BV),k≤rs.length∧i = .int .i64 k∧OwnBd wq w2.heap.size D bv' nv' rv bs N dss { nb0 dss.length with nts:=List.replicate dss.length [],sn:=List.replicate k (-1),fr:=List.replicate k (-1) }∧Keep w2 wq) (fun i _=>rs.length-(intOf i).toNat)
    case atStart=>exact⟨0,bv',Nat.zero_le _,rfl,Hr,kr⟩
    case round=>
     clear Hr kr;obtain⟨k,bv',hk,rfl,Hr,kr⟩:=hrel;by_cases hlt:k<rs.length
     ·
      have oS:=Hr.oS;obtain⟨aS,cS,eS,-⟩:=oS.rd;simp only[List.length_replicate] at eS;have d5:=Hr.cells.2.2.2.2.2.1;have d6:=Hr.cells.2.2.2.2.2.2.1;have oF:=Hr.oF;obtain⟨aF,cF,eF,-⟩:=oF.rd;simp only[List.length_replicate] at eF;have f5:=Hr.free 5;have hbase:=Hr.base;have sr:=kr.size
      have HS0:wr.ownsRow w2.heap.size 2 1 (.slice aS k cS) k ((List.replicate k (-1:Int)).map (Value.int .i64)):=by
       have o:wr.ownsRow w2.heap.size 2 1 bv'.S (List.replicate k (-1:Int)).length ((List.replicate k (-1:Int)).map (Value.int .i64)):=oS;rw[eS,List.length_replicate] at o;exact o
      have kA:Keep wr (wr.alloc (.cells #[.int .i64 (-1)] 2)):=(Keep.refl wr).alloc _;have HS:=World.ownsRow.kept HS0 kA.grownBy (by cases (Value.slice aS k cS).ownBlock<;>simp);rw[eS] at d5;have HH:=Lib.hid Hr;have HkA:=Lib.hid kA;have HeS:=Lib.hid eS;have HeF:=Lib.hid eF;clear Hr kA HS0 eS eF oS oF d6;go_wp2_with (at_builtin;refine wpList_append_own_at _ rfl _ _ 25 rfl w2.heap.size 2 i0 (.int .i64 0) 1 8 Try.underlying25 hi hz0 hz1 hz2 rfl (by decide) _ _ _ rfl HS ⟨_,0,none⟩ 1 1 [.int .i64 (-1)] rfl rfl ?b1 ?b2 ?b3 ?b4 ?b5 ?_)
      case b2=>rfl
      case b3=>unfold maxLen;omega
      case b4=>omega
      case b5=>omega
      intro v' w7 hown7 hgrow7 _ hblk7
      have ho7:Own w7 w2.heap.size v' (List.replicate (k+1) (-1)):=by
       unfold Own;rw[List.replicate_succ']
       simpa using hown7
      have kw:OwnBd (wr.alloc (.cells #[.int .i64 (-1)] 2)) w2.heap.size D bv' nv' rv bs N dss _:=HH.out.keep HkA.out;obtain⟨H8,c8,f8⟩:=kw.growS (by rw[HeS.out];exact hgrow7) (by rw[HeS.out];rcases hblk7 with e|e;exact .inl e;exact .inr (.inl (by rw[heap_size];exact e))) ho7;have K7:Keep w2 w7:=(kr.trans HkA.out).grown hgrow7 (fun q hq=>(World.ownsRow.lt HS q hq).1);have K8:Keep w2 (w7.setCell ⟨D,5,none⟩ v'):=K7.grown (grown_set w7 D 5 v') (fun q hq=>by have:=Option.some.inj hq;omega);obtain⟨a8,c8',e8,-⟩:=ho7.rd;rw[List.length_replicate] at e8;clear hown7 hgrow7 hblk7 HS ho7 f5 d5 HH HkA kw HeS kr K7;subst e8;obtain⟨wS,hwS⟩:∃W:World,W=w7.setCell ⟨D,5,none⟩ (.slice a8 (k+1) c8'):=⟨_,rfl⟩;rw[←hwS] at H8 K8;have HwS:=Lib.hid hwS;clear hwS;have d6:=H8.cells.2.2.2.2.2.2.1;have f6:=H8.free 6;have oF:=H8.oF
      have HF0:wS.ownsRow w2.heap.size 2 1 (.slice aF k cF) k ((List.replicate k (-1:Int)).map (Value.int .i64)):=by
       have o:wS.ownsRow w2.heap.size 2 1 bv'.F (List.replicate k (-1:Int)).length ((List.replicate k (-1:Int)).map (Value.int .i64)):=oF;rw[HeF.out,List.length_replicate] at o;exact o
      have kA:Keep wS (wS.alloc (.cells #[.int .i64 (-1)] 2)):=(Keep.refl wS).alloc _;have HF:=World.ownsRow.kept HF0 kA.grownBy (by cases (Value.slice aF k cF).ownBlock<;>simp);have sr:=K8.size;simp only[HeF.out] at d6;have HH:=Lib.hid H8;have HkA:=Lib.hid kA;clear H8 kA HF0 oF;go_upto_region 11 with fail
      rw[←HwS.out];clear c8 f8 HwS;go_wp2_with (at_builtin;refine wpList_append_own_at _ rfl _ _ 25 rfl w2.heap.size 2 i0 (.int .i64 0) 1 8 Try.underlying25 hi hz0 hz1 hz2 rfl (by decide) _ _ _ rfl HF ⟨_,0,none⟩ 1 1 [.int .i64 (-1)] rfl rfl ?g1 ?g2 ?g3 ?g4 ?g5 ?_)
      case g2=>rfl
      case g3=>unfold maxLen;omega
      case g4=>omega
      case g5=>omega
      intro v9 w9 hown9 hgrow9 _ hblk9
      have ho9:Own w9 w2.heap.size v9 (List.replicate (k+1) (-1)):=by
       unfold Own;rw[List.replicate_succ']
       simpa using hown9
      have kw:OwnBd (wS.alloc (.cells #[.int .i64 (-1)] 2)) w2.heap.size D _ nv' rv bs N dss _:=HH.out.keep HkA.out;obtain⟨H9,c9,f9⟩:=kw.growF (by simp only[HeF.out];exact hgrow9) (by simp only[HeF.out];rcases hblk9 with e|e;exact .inl e;exact .inr (.inl (by rw[heap_size];exact e))) ho9;have K9:Keep w2 w9:=(K8.trans HkA.out).grown hgrow9 (fun q hq=>(World.ownsRow.lt HF q hq).1);have K10:Keep w2 (w9.setCell ⟨D,6,none⟩ v9):=K9.grown (grown_set w9 D 6 v9) (fun q hq=>by have:=Option.some.inj hq;omega);obtain⟨a9,c9',e9,-⟩:=ho9.rd;rw[List.length_replicate] at e9;have HH9:=Lib.hid H9;have HK9:=Lib.hid K10;clear hown9 hgrow9 hblk9 HF ho9 f6 d6 HH HkA kw K9 K10 H9;subst e9;go_wp2;go_roundw;case rel=>exact⟨k+1,_,by omega,by go_num,HH9.out,HK9.out⟩
      case measure=>simp[intOf];omega
     ·
      obtain rfl:k=rs.length:=by omega
      have hRw:=(Below.block kr w.heap.size (by omega)).trans hR2;have HNM:Hid (newM dss={ nb0 dss.length with nts:=List.replicate dss.length [],sn:=List.replicate rs.length (-1),fr:=List.replicate rs.length (-1) }):=Lib.hid (by unfold newM nb0;rw[hes,HRS.out]);have Hn:OwnBd wr w2.heap.size D bv' nv' rv bs N dss (newM dss):=by rw[HNM.out];exact Hr
      have hM:w2.heap.size≤bs:=hbs;clear Hr HNM hk;generalize hNM:newM dss=nb at *;have HNM:=Lib.hid hNM;clear hNM;have hDw:=Hn.heapD;obtain⟨aW,aP,aL,aN,aX,aT,aF,aR,cW,cP,cL,cN',cX,cT,cF,cR,rfl⟩:=Hn.rd.shapes;simp only[BV.arr] at hDw;have HK:=Lib.hid (K2.trans kr);have HG:=Lib.hid (grown_row3 wr w.heap.size #[.slice aW dss.length cW,.slice aP nb.plc.length cP,.slice aL nb.lst.length cL,.slice aN nb.nts.length cN',.slice aX nb.nxt.length cX,.slice aT nb.sn.length cT,.slice aF nb.fr.length cF,.slice aR nb.rws.length cR]);have HZ:=Lib.hid (setRow_heap wr w.heap.size _ #[.slice aW dss.length cW,.slice aP nb.plc.length cP,.slice aL nb.lst.length cL,.slice aN nb.nts.length cN',.slice aX nb.nxt.length cX,.slice aT nb.sn.length cT,.slice aF nb.fr.length cF,.slice aR nb.rws.length cR] _ _ hRw);have hNot:∀q,some w.heap.size=some q→q<w2.heap.size∧(q<bs∨N≤q):=fun q hq=>by have:=Option.some.inj hq;omega
      have HO:=Lib.hid (((Hn.far HG.out hNot).val).base_le (show w.heap.size≤w2.heap.size by omega));go_wp2_with (first|refine wpList_load_row rfl 29 _ rfl D rfl 29 _ (0,0) _ hDw Try.underlying29 rfl board_info ?_|refine wpList_store_row rfl 29 _ _ rfl w.heap.size _ rfl rfl 29 _ hRw board_info rfl (by simp[Value.oneCell']) ?_)
      refine bodyPost_ret (results_row (by rfl) _ _ w.heap.size _ _ (0,0) _ rfl HZ.out Try.underlying29 rfl board_info) rfl ?_;exact⟨⟨.slice aW dss.length cW,.slice aP nb.plc.length cP,.slice aL nb.lst.length cL,.slice aN nb.nts.length cN',.slice aX nb.nxt.length cX,.slice aT nb.sn.length cT,.slice aF nb.fr.length cF,.slice aR nb.rws.length cR⟩,nv',rv,bs,N,rfl,by rw[HNM.out];exact HO.out,by omega,HK.out.grown HG.out (fun q hq=>by have:=Option.some.inj hq;omega)⟩
theorem and255 (a:Int):0≤bits .and .i64 a 255∧bits .and .i64 a 255≤255:=by
 have e:bits .and .i64 a 255=IntKind.i64.wrap (((BitVec.ofInt 64 a &&& BitVec.ofInt 64 255).toNat:Nat):Int):=rfl
 have h:(BitVec.ofInt 64 a &&& BitVec.ofInt 64 255).toNat≤255:=by
  rw[BitVec.toNat_and];exact Nat.and_le_right
 rw[e,IntKind.wrap_i64];omega
def RdB (w:World)(B:Nat)(a:Option Addr)(zs:List Int):Prop:=
 zs.length≤4096∧(zs=[]∨∃b off,a=some ⟨b,off,none⟩∧b<B∧b<w.heap.size∧∀i,i<zs.length→w.cell? ⟨b,off+i,none⟩=some (.int .u8 (zs.getD i 0))∧0≤zs.getD i 0∧zs.getD i 0≤255)
def Cur (w:World)(B g:Nat):Prop:=
 B≤g∧∃(a:Option Addr) (cap:Nat) (zs:List Int) (i:Nat) (h:Int),w.heap[g]? = some (.cells #[.slice a zs.length cap,.int .i64 i,.int .i64 h] 93 (0,0))∧i≤zs.length∧RdB w B a zs
theorem RdB.kept {w w':World}{B:Nat}{a:Option Addr}{zs:List Int}{row:Option Nat}(h:RdB w B a zs)(hg:w.grownBy w' row)(hr:∀k,row=some k→B≤k):RdB w' B a zs:=by
 refine⟨h.1,?_⟩;rcases h.2 with h|⟨b,off,ha,hb,hbs,hc⟩
 · exact .inl h
 ·
  refine .inr ⟨b,off,ha,hb,Nat.lt_of_lt_of_le hbs hg.size,fun i hi=>⟨?_,(hc i hi).2⟩⟩;rw[World.cell?_of_block (w:=w) (hg.block b hbs (fun e=>by have:=hr b e.symm;omega))];exact (hc i hi).1
theorem RdB.up {w w':World}{a:Option Addr}{zs:List Int}(h:RdB w w.heap.size a zs)(k:Keep w w'):RdB w' w'.heap.size a zs:=by
 have h':=h.kept k.grownBy (by simp);refine⟨h'.1,?_⟩;rcases h'.2 with e|⟨b,off,ha,hb,hbs,hc⟩
 · exact .inl e
 · exact .inr ⟨b,off,ha,hbs,hbs,hc⟩
theorem Cur.lt {w:World}{B g:Nat}(h:Cur w B g):g<w.heap.size:=by
 obtain⟨_,a,cap,zs,i,x,hh,_⟩:=h;exact (Array.getElem?_eq_some_iff.1 hh).1
theorem Cur.kept {w w':World}{B g:Nat}{row:Option Nat}(h:Cur w B g)(hg:w.grownBy w' row)(hne:row≠some g)(hr:∀k,row=some k→B≤k):Cur w' B g:=by
 have hlt:=h.lt;obtain⟨hB,a,cap,zs,i,x,hh,hi,hb⟩:=h;exact⟨hB,a,cap,zs,i,x,by rw[hg.block g hlt (fun e=>hne e.symm)];exact hh,hi,hb.kept hg hr⟩
theorem Cur.keep {w w':World}{B g:Nat}(h:Cur w B g)(k:Keep w w'):Cur w' B g:=h.kept k.grownBy (by simp) (by simp)
def CurI (w:World)(B g:Nat)(a:Option Addr)(cap:Nat)(zs:List Int)(i h:Int):Prop:=
 B≤g∧w.heap[g]? = some (.cells #[.slice a zs.length cap,.int .i64 i,.int .i64 h] 93 (0,0))∧RdB w B a zs
theorem CurI.cur {w:World}{B g:Nat}{a:Option Addr}{cap:Nat}{zs:List Int}{i h:Int}(c:CurI w B g a cap zs i h)(h0:0≤i)(hi:i≤zs.length):Cur w B g:=by
 obtain⟨n,rfl⟩:=Int.eq_ofNat_of_zero_le h0;exact⟨c.1,a,cap,zs,n,h,c.2.1,by omega,c.2.2⟩
theorem grown_setCell (w:World)(g j:Nat)(v:Value):w.grownBy (w.setCell ⟨g,j,none⟩ v) (some g):=
 ⟨rfl,rfl,rfl,by simp,fun k _ hk=>heap_setCell_other w ⟨g,j,none⟩ k v (fun e=>hk (by simp[e]))⟩
theorem CurI.seth {w:World}{B g:Nat}{a:Option Addr}{cap:Nat}{zs:List Int}{i h:Int}(c:CurI w B g a cap zs i h)(y:Int):CurI (w.setCell ⟨g,2,none⟩ (.int .i64 y)) B g a cap zs i y:=
 ⟨c.1,by rw[heap_setCell_same w g 2 _ _ _ c.2.1];rfl,c.2.2.kept (grown_setCell w g 2 _) (by intro k hk;simp at hk;subst hk;exact c.1)⟩
theorem CurI.seti {w:World}{B g:Nat}{a:Option Addr}{cap:Nat}{zs:List Int}{i h:Int}(c:CurI w B g a cap zs i h)(y:Int):CurI (w.setCell ⟨g,1,none⟩ (.int .i64 y)) B g a cap zs y h:=
 ⟨c.1,by rw[heap_setCell_same w g 1 _ _ _ c.2.1];rfl,c.2.2.kept (grown_setCell w g 1 _) (by intro k hk;simp at hk;subst hk;exact c.1)⟩
theorem grown_drewN (w:World)(n:Nat)(row:Option Nat):w.grownBy (w.drewN n) row:=⟨rfl,rfl,rfl,Nat.le_refl _,fun _ _ _=>rfl⟩
theorem CurI.drewN {w:World}{B g:Nat}{a:Option Addr}{cap:Nat}{zs:List Int}{i h:Int}(c:CurI w B g a cap zs i h)(n:Nat):CurI (w.drewN n) B g a cap zs i h:=
 ⟨c.1,c.2.1,c.2.2.kept (row:=none) (grown_drewN w n none) (by simp)⟩
theorem byte_any (w:World)(B g:Nat)(hc:Cur w B g):
  Calls Try.prog 103 #[.pointer (some ⟨g,0,none⟩)] w fun e w'=>∃x,e = .returned (.int .i64 x)∧0≤x∧x≤255∧Cur w' B g∧w.grownBy w' (some g):=by
 obtain⟨hB,a,cap,zs,i,x,hh,hi,hb⟩:=hc;have C:CurI w B g a cap zs i x:=⟨hB,hh,hb⟩;have c0:w.cell? ⟨g,0,none⟩=some (.slice a zs.length cap):=by rw[cell_of_row w g 0 _ _ (0,0) hh];rfl
 have c1:w.cell? ⟨g,1,none⟩=some (.int .i64 i):=by rw[cell_of_row w g 1 _ _ (0,0) hh];rfl
 have c2:w.cell? ⟨g,2,none⟩=some (.int .i64 x):=by rw[cell_of_row w g 2 _ _ (0,0) hh];rfl
 have f1:w.frozen? ⟨g,1,none⟩=false:=frozen_of_row w g 1 _ _ hh;have f2:w.frozen? ⟨g,2,none⟩=false:=frozen_of_row w g 2 _ _ hh;clear hh;have hzl:=hb.1;by_cases hlt:i<zs.length
 ·
  rcases hb.2 with h|⟨b,off,rfl,hbB,hbs,hcc⟩
  · exfalso;rw[h] at hlt;simp at hlt
  obtain⟨d1,d2,d3⟩:=hcc i hlt;have hbg:b≠g:=by omega
  obtain⟨q,hq⟩:∃q,q=zs.getD i 0:=⟨_,rfl⟩;rw[←hq] at d1 d2 d3;clear hcc hq hb;go_enter Try.func103,Try.ntmps103
  go_wp2;go_quiet (fail)
  go_wp2;go_quiet (fail)
  go_wp2;go_quiet (fail)
  go_wp2;go_ret;exact⟨_,rfl,(and255 _).1,(and255 _).2,(((C.seth _).drewN _).seti _).cur (by omega) (by omega),grown_trans (grown_trans (grown_setCell w g 2 _) (grown_drewN _ _ _)) (grown_setCell _ g 1 _)⟩
 ·
  clear hb;go_enter Try.func103,Try.ntmps103
  go_wp2;go_quiet (fail)
  go_wp2;go_quiet (fail)
  go_wp2;go_ret;exact⟨_,rfl,(and255 _).1,(and255 _).2,(((C.seth _).drewN _).drewN _).cur (by omega) (by omega),grown_trans (grown_trans (grown_setCell w g 2 _) (grown_drewN _ _ _)) (grown_drewN _ _ _)⟩
theorem new_any (w:World)(a:Option Addr)(cap:Nat)(zs:List Int)(hb:RdB w w.heap.size a zs):
  Calls Try.prog 29 #[.slice a zs.length cap] w fun e w'=>e = .returned (.pointer (some ⟨w.heap.size,0,none⟩))∧Cur w' w.heap.size w.heap.size∧Keep w w':=by
 have hzl:=hb.1;go_enter Try.func29,Try.ntmps29
 go_wp2;go_loop [3,4] (fun x i=>∃(k:Nat) (h:Int),k≤zs.length∧i = .int .i64 k∧x = .int .i64 h) (fun _ i=>zs.length-(intOf i).toNat)
 case atStart=>exact⟨0,_,Nat.zero_le _,rfl,rfl⟩
 case round=>
  obtain⟨k,h,hk,rfl,rfl⟩:=hrel;by_cases hlt:k<zs.length
  ·
   rcases hb.2 with h|⟨b,off,rfl,hbB,hbs,hcc⟩
   · exfalso;rw[h] at hlt;simp at hlt
   obtain⟨d1,d2,d3⟩:=hcc k hlt;obtain⟨q,hq⟩:∃q,q=zs.getD k 0:=⟨_,rfl⟩;rw[←hq] at d1 d2 d3;clear hcc hq;go_wp2;go_round
   case rel=>exact⟨k+1,_,by omega,by go_num,rfl⟩
   case measure=>simp[intOf];omega
  ·
   go_wp2;go_ret;refine⟨rfl,⟨Nat.le_refl _,a,cap,zs,0,h,heap_alloc_new w _,Nat.zero_le _,?_⟩,(Keep.refl w).alloc _⟩;exact hb.kept (World.grownBy_alloc w _ none) (by simp)
theorem emod_lt' {x n:Int}(h1:1≤n):0≤x % n∧x % n<n:=⟨Int.emod_nonneg x (by omega),Int.emod_lt_of_pos x (by omega)⟩
theorem below_any (w:World)(B g:Nat)(n:Int)(hc:Cur w B g)(h1:1≤n):
  Calls Try.prog 73 #[.pointer (some ⟨g,0,none⟩),.int .i64 n] w fun e w'=>∃x,e = .returned (.int .i64 x)∧0≤x∧x<n∧Cur w' B g∧w.grownBy w' (some g):=by
 by_cases h2:n≤256
 ·
  go_enter Try.func73,Try.ntmps73
  go_wp2_with fail
  refine (byte_any _ B g hc).mono ?_;rintro e w1 ⟨x,rfl,x0,x1,c1,g1⟩;go_wp2;go_ret;exact⟨_,rfl,(emod_lt' h1).1,(emod_lt' h1).2,c1,g1⟩
 ·
  go_enter Try.func73,Try.ntmps73
  go_wp2_with fail
  refine (byte_any _ B g hc).mono ?_;rintro e w1 ⟨x,rfl,x0,x1,c1,g1⟩;go_wp2_with fail
  refine (byte_any _ B g c1).mono ?_;rintro e w2 ⟨y,rfl,y0,y1,c2,g2⟩;go_wp2_with fail
  refine (byte_any _ B g c2).mono ?_;rintro e w3 ⟨z,rfl,z0,z1,c3,g3⟩;go_wp2_with fail
  refine (byte_any _ B g c3).mono ?_;rintro e w4 ⟨u,rfl,u0,u1,c4,g4⟩;go_wp2;go_ret;exact⟨_,rfl,(emod_lt' h1).1,(emod_lt' h1).2,c4,grown_trans (grown_trans (grown_trans g1 g2) g3) g4⟩
theorem once_any (w:World)(B g:Nat)(n:Int)(hc:Cur w B g)(h1:1≤n):
  Calls Try.prog 72 #[.pointer (some ⟨g,0,none⟩),.int .i64 n] w fun e w'=>∃b:Bool,e = .returned (.bool b)∧Cur w' B g∧w.grownBy w' (some g):=by
 go_enter Try.func72,Try.ntmps72
 go_wp2_with fail
 refine (below_any _ B g _ hc h1).mono ?_;rintro e w1 ⟨x,rfl,x0,x1,c1,g1⟩;go_wp2;go_ret;exact⟨_,rfl,c1,g1⟩
theorem lit_int {w1 w2:World}{e:TypeId}{row:Option Nat}(l:List Int)(hg:(w1.alloc (.cells (l.map (Value.int .i64)).toArray e)).grownBy w2 row)(hne:row≠some w1.heap.size)(j:Nat)(hj:j<l.length):
  ∃y,w2.cell? ⟨w1.heap.size,j,none⟩=some (.int .i64 y):=by
 refine⟨l[j],?_⟩;have h1:=heap_alloc_new w1 (.cells (l.map (Value.int .i64)).toArray e);rw[World.cell?_of_block (w:=w1.alloc (.cells (l.map (Value.int .i64)).toArray e)) (hg.block w1.heap.size (by simp) (fun e=>hne e.symm)),cell_of_row _ _ j _ _ _ h1];simp[hj]
theorem rdb_of_row {w:World}{a:Option Addr}{len cap:Nat}{ys:List Int}(hlen:len≤4096)
  (h:(a=none∧len=0∧cap=0∧ys=[])∨∃x,a=some x∧len≤cap∧cap≤maxLen∧ys.length=cap∧(∀i,i<ys.length→w.cell? (x.add i)=some (.int .u8 (ys.getD i 0)))∧∀n∈ys,(Lit.int .u8 n).wf=true):
  ∃zs:List Int,zs.length=len∧RdB w w.heap.size a zs:=by
 rcases h with ⟨rfl,rfl,rfl,rfl⟩|⟨x,rfl,hl,hm,hy,hc,hw⟩
 · exact⟨[],rfl,by simp,.inl rfl⟩
 ·
  have hzl:(ys.take len).length=len:=by rw[List.length_take];omega
  refine⟨ys.take len,hzl,by omega,?_⟩;by_cases h0:len=0
  · left;subst h0;simp
  ·
   right;obtain⟨b,off,spot⟩:=x;have hc0:=hc 0 (by omega);have hspot:spot=none:=by simpa [Addr.add] using World.cell?_spot hc0
   subst hspot
   have hcc:∀i,i<(ys.take len).length→w.cell? ⟨b,off+i,none⟩=some (.int .u8 ((ys.take len).getD i 0))∧0≤(ys.take len).getD i 0∧(ys.take len).getD i 0≤255:=by
    intro i hi;have hi':i<ys.length:=by omega
    have h1:=hc i hi';have e1:(⟨b,off,none⟩:Addr).add i=⟨b,off+i,none⟩:=by unfold Addr.add;split<;>simp_all
    rw[e1] at h1
    have e2:(ys.take len).getD i 0=ys.getD i 0:=by
     rw[List.getD_eq_getElem?_getD,List.getD_eq_getElem?_getD,List.getElem?_take,if_pos (by omega)]
    rw[e2];refine⟨h1,?_⟩;have hm:ys.getD i 0∈ys:=by rw[List.getD_eq_getElem?_getD,List.getElem?_eq_getElem hi'];exact List.getElem_mem hi'
    have:=bounds_u8 (hw _ hm);omega
   refine⟨b,off,rfl,?_,?_,hcc⟩
   all_goals
    have h2:=(hcc 0 (by omega)).1;apply Classical.byContradiction;intro hnb;have h3:w.heap[b]? = none:=by simp;omega
    simp[World.cell?,h3] at h2
theorem from_any (w:World)(B g:Nat)(lo hi:Int)(hc:Cur w B g)(h0:-1099511627776≤lo)(h1:lo≤hi)(h2:hi≤1099511627776):
  Calls Try.prog 31 #[.pointer (some ⟨g,0,none⟩),.int .i64 lo,.int .i64 hi] w fun e w'=>∃x,e = .returned (.int .i64 x)∧lo≤x∧x≤hi∧Cur w' B g∧w.grownBy w' (some g):=by
 go_enter Try.func31,Try.ntmps31
 go_wp2_with fail
 refine (below_any _ B g _ hc (by omega)).mono ?_;rintro e w1 ⟨x,rfl,x0,x1,c1,g1⟩;go_wp2;go_ret;exact⟨_,rfl,by omega,by omega,c1,g1⟩
abbrev deedC (k p v g:Int):Obj:= .cells #[.int .i64 k,.int .i64 p,.int .i64 v,.int .i64 g] 98
def St (w1 wr:World)(D:Nat)(k p v g:Int):Prop:=wr.heap[D]? = some (deedC k p v g)∧w1.grownBy wr (some D)
theorem St.start {w1:World}(k p v g:Int):St w1 (w1.alloc (deedC k p v g)) w1.heap.size k p v g:=
 ⟨heap_alloc_new w1 _,World.grownBy_alloc w1 _ (some w1.heap.size)⟩
theorem St.size {w1 wr:World}{D:Nat}{k p v g:Int}(h:St w1 wr D k p v g):D<wr.heap.size:=(Array.getElem?_eq_some_iff.1 h.1).1
theorem St.keep {w1 wr wr':World}{D:Nat}{k p v g:Int}(h:St w1 wr D k p v g)(hk:Keep wr wr'):St w1 wr' D k p v g:=
 ⟨(Below.block hk D h.size).trans h.1,grown_trans h.2 ⟨Below.os hk,Below.tape hk,Below.output hk,Below.size hk,fun i hi _=>Below.block hk i hi⟩⟩
theorem St.cells {w1 wr:World}{D:Nat}{k p v g:Int}(h:St w1 wr D k p v g):
  wr.cell? ⟨D,0,none⟩=some (.int .i64 k)∧wr.cell? ⟨D,1,none⟩=some (.int .i64 p)∧wr.cell? ⟨D,2,none⟩=some (.int .i64 v)∧wr.cell? ⟨D,3,none⟩=some (.int .i64 g):=
 ⟨cell_of_row wr D 0 _ _ (0,0) h.1,cell_of_row wr D 1 _ _ (0,0) h.1,cell_of_row wr D 2 _ _ (0,0) h.1,cell_of_row wr D 3 _ _ (0,0) h.1⟩
theorem St.free {w1 wr:World}{D:Nat}{k p v g:Int}(h:St w1 wr D k p v g)(i:Nat):wr.frozen? ⟨D,i,none⟩=false:=frozen_of_row wr D i _ _ h.1
theorem St.set0 {w1 wr:World}{D:Nat}{k p v g:Int}(h:St w1 wr D k p v g)(x:Int):St w1 (wr.setCell ⟨D,0,none⟩ (.int .i64 x)) D x p v g:=
 ⟨by rw[heap_setCell_same wr D 0 _ _ _ h.1];rfl,grown_trans h.2 ⟨rfl,rfl,rfl,by simp,fun i _ hi=>heap_setCell_other wr ⟨D,0,none⟩ i _ (fun e=>hi (by simp[e]))⟩⟩
theorem St.set1 {w1 wr:World}{D:Nat}{k p v g:Int}(h:St w1 wr D k p v g)(x:Int):St w1 (wr.setCell ⟨D,1,none⟩ (.int .i64 x)) D k x v g:=
 ⟨by rw[heap_setCell_same wr D 1 _ _ _ h.1];rfl,grown_trans h.2 ⟨rfl,rfl,rfl,by simp,fun i _ hi=>heap_setCell_other wr ⟨D,1,none⟩ i _ (fun e=>hi (by simp[e]))⟩⟩
theorem St.set2 {w1 wr:World}{D:Nat}{k p v g:Int}(h:St w1 wr D k p v g)(x:Int):St w1 (wr.setCell ⟨D,2,none⟩ (.int .i64 x)) D k p x g:=
 ⟨by rw[heap_setCell_same wr D 2 _ _ _ h.1];rfl,grown_trans h.2 ⟨rfl,rfl,rfl,by simp,fun i _ hi=>heap_setCell_other wr ⟨D,2,none⟩ i _ (fun e=>hi (by simp[e]))⟩⟩
theorem St.set3 {w1 wr:World}{D:Nat}{k p v g:Int}(h:St w1 wr D k p v g)(x:Int):St w1 (wr.setCell ⟨D,3,none⟩ (.int .i64 x)) D k p v x:=
 ⟨by rw[heap_setCell_same wr D 3 _ _ _ h.1];rfl,grown_trans h.2 ⟨rfl,rfl,rfl,by simp,fun i _ hi=>heap_setCell_other wr ⟨D,3,none⟩ i _ (fun e=>hi (by simp[e]))⟩⟩
theorem St.keep1 {w1 wr:World}{k p v g:Int}(h:St w1 wr w1.heap.size k p v g):Keep w1 wr:=
 (Keep.refl w1).grown h.2 (fun k hk=>by simp at hk;omega)
end Go.Proofs.Ytgakfkjjkobpiaa
