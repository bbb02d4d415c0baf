/- Gathered texts. -/
import Derived.Test.YtgakfkjjkobpiabGreatMS
import Derived.Test.YtgakfkjjkobpiabGreatMX
set_option maxRecDepth 100000
set_option maxHeartbeats 8000000
namespace Go.Proofs.YtgakfkjjkobpiabGreat
open Go.ChangeShapes Go.WideShapes Go.ChangeAt Go.RowKit
theorem implRan_any (w:World)(v vs:Value)(dss:List (List Dd))(steps:List Int)(h:RdW w v dss)(hs:Rd w vs steps)(hx:dss.length≤1048576)(hm:∀i,i<dss.length→(dss.getD i []).length≤1048576)(hl:steps.length≤1048576):
  Calls Tryz.prog 17 #[v,vs] w fun e w'=>∃bv':BV,e = .returned (.tuple #[bv'.agg,.bool (ranT dss steps)])∧FreeBd w' w.heap.size w'.heap.size bv' (ranD dss steps) (ranB dss steps)∧Keep w w':=by
 have CN:=fun (W:World) (kW:Keep w W)=>implNewBoard_any W v dss (h.keep kW) hx hm
 have XS:=Lib.hid hs;obtain⟨aV,cV,rfl,-⟩:=id h;obtain⟨aS,cS,rfl,-⟩:=id hs;clear h hs hm;obtain⟨w1,hw1⟩:∃W:World,W=w.alloc (.cells #[nilS,nilS,nilS,nilS,nilS,nilS,nilS,nilS] 32):=⟨_,rfl⟩;have K1:Keep w w1:=by rw[hw1];exact (Keep.refl w).alloc _
 have s1:w.heap.size<w1.heap.size:=by rw[hw1,heap_size];omega
 have hR1:w1.heap[w.heap.size]? = some (.cells #[nilS,nilS,nilS,nilS,nilS,nilS,nilS,nilS] 32 (0,0)):=by rw[hw1];exact heap_alloc_new _ _
 go_enter Tryz.func17,Tryz.ntmps17
 go_upto_region 1 with fail
 rw[←hw1];clear hw1;go_wp2_with fail
 refine (CN _ K1).mono ?_;rintro e w2 ⟨bv,rfl,F2,k2⟩;obtain⟨uW,uP,uL,uN,uX,uS,uF,uR,ucW,ucP,ucL,ucN,ucX,ucS,ucF,ucR,rfl⟩:=F2.rd.shapes;have K2:=K1.trans k2;have s2:=k2.size;have hR2:=(Below.block k2 w.heap.size s1).trans hR1;obtain⟨w3,hw3⟩:∃W:World,W=w2.alloc (.cells #[.slice uW (newD dss).length ucW,.slice uP (newB dss).plc.length ucP,.slice uL (newB dss).lst.length ucL,.slice uN (newB dss).nts.length ucN,.slice uX (newB dss).nxt.length ucX,.slice uS (newB dss).sn.length ucS,.slice uF (newB dss).fr.length ucF,.slice uR (newB dss).rws.length ucR] 32):=⟨_,rfl⟩;have k3:Keep w2 w3:=by rw[hw3];exact (Keep.refl w2).alloc _
 have hM3:w3.heap[w2.heap.size]? = some (.cells #[.slice uW (newD dss).length ucW,.slice uP (newB dss).plc.length ucP,.slice uL (newB dss).lst.length ucL,.slice uN (newB dss).nts.length ucN,.slice uX (newB dss).nxt.length ucX,.slice uS (newB dss).sn.length ucS,.slice uF (newB dss).fr.length ucF,.slice uR (newB dss).rws.length ucR] 32 (0,0)):=by rw[hw3];exact heap_alloc_new _ _
 have s3:w2.heap.size<w3.heap.size:=by rw[hw3,heap_size];omega
 have K3:=K2.trans k3;have XF3:=Lib.hid ((F2.keep k3).wide (Nat.le_refl _) (show w2.heap.size≤w3.heap.size by omega));have XR3:=Lib.hid ((Below.block k3 w.heap.size (by omega)).trans hR2);have XM3:=Lib.hid hM3;go_upto_region 2 with fail
 rw[←hw3];clear hw3 F2 hM3 hR1 hR2 CN k2 k3 K2 K1;cases hT:ranT dss steps
 ·
  have HD:Hid (ranD dss steps=[]):=Lib.hid (by unfold ranD;rw[hT];rfl);have HB:Hid (ranB dss steps=zBd):=Lib.hid (by unfold ranB;rw[hT];rfl);have hR:=XR3.out;have HG:=Lib.hid (grown_row3 w3 w.heap.size #[nilS,nilS,nilS,nilS,nilS,nilS,nilS,nilS]);have HZ:=Lib.hid (setRow_heap w3 w.heap.size _ #[nilS,nilS,nilS,nilS,nilS,nilS,nilS,nilS] _ _ hR);have HK:=Lib.hid (K3.grown HG.out (fun q hq=>Nat.le_of_eq (Option.some.inj hq)))
  have hT2:workB dss=false∨40<steps.length:=by
   unfold ranT at hT
   cases hw:workB dss with
   |false=>exact .inl rfl
   |true=>
    rw[hw] at hT;right;by_cases q:steps.length≤40
    · rw[decide_eq_true q] at hT;simp at hT
    · omega
  have HTT:=Lib.hid hT;clear K3 hT
  cases hw:workB dss with
  |false=>
   go_wp2_with (first|refine wpList_store_row rfl 32 _ _ rfl w.heap.size _ rfl rfl 32 _ hR board_info rfl (by simp[Value.oneCell']) ?_|fail)
   refine bodyPost_ret (results_row_tmp (by rfl) _ _ w.heap.size _ _ (0,0) _ (.bool false) rfl HZ.out rfl Tryz.underlying32 rfl board_info) rfl ?_;exact⟨bd0,by rw[HTT.out],by rw[HD.out,HB.out];exact (ownA_zero _ _).free,HK.out⟩
  |true=>
   have h40:40<steps.length:=by rcases hT2 with q|q;(rw[hw] at q;cases q);exact q
   have i40:(40:Int)<(steps.length:Int):=by omega
   have d40:decide (40<steps.length)=true:=decide_eq_true h40;go_wp2_with (first|refine wpList_store_row rfl 32 _ _ rfl w.heap.size _ rfl rfl 32 _ hR board_info rfl (by simp[Value.oneCell']) ?_|fail)
   refine bodyPost_ret (results_row_tmp (by rfl) _ _ w.heap.size _ _ (0,0) _ (.bool false) rfl HZ.out rfl Tryz.underlying32 rfl board_info) rfl ?_;exact⟨bd0,by rw[HTT.out],by rw[HD.out,HB.out];exact (ownA_zero _ _).free,HK.out⟩
 have hw:workB dss=true:=by unfold ranT at hT;simp at hT;exact hT.1
 have h40:steps.length≤40:=by unfold ranT at hT;simp at hT;exact hT.2
 have HD:Hid (ranD dss steps=dss):=Lib.hid (by unfold ranD;rw[hT];rfl);have HB:Hid (ranB dss steps=runM dss (eventsB dss) (newM dss) steps):=Lib.hid (by unfold ranB;rw[hT];rfl)
 have XF:Hid (FreeBd w3 w1.heap.size w3.heap.size ⟨.slice uW (newD dss).length ucW,.slice uP (newB dss).plc.length ucP,.slice uL (newB dss).lst.length ucL,.slice uN (newB dss).nts.length ucN,.slice uX (newB dss).nxt.length ucX,.slice uS (newB dss).sn.length ucS,.slice uF (newB dss).fr.length ucF,.slice uR (newB dss).rws.length ucR⟩ dss (runM dss (eventsB dss) (newM dss) (steps.take 0))):=Lib.hid (by
  have:=XF3.out;rw[show newD dss=dss by unfold newD;rw[if_pos hw],show newB dss=newM dss by unfold newB;rw[if_pos hw]] at this;rw[show newD dss=dss by unfold newD;rw[if_pos hw],show newB dss=newM dss by unfold newB;rw[if_pos hw]]
  exact this)
 have R0:Hid (Run dss (runM dss (eventsB dss) (newM dss) (steps.take 0))):=Lib.hid (Run.new hw);have HW:=Lib.hid hw;have i40:¬(40:Int)<(steps.length:Int):=by omega
 have d40:decide (40<steps.length)=false:=decide_eq_false (by omega);have XK3:=Lib.hid K3;have HTT:=Lib.hid hT;clear hT XF3 K3;rw[hw];go_wp2;go_loopw [9,25] (fun _ i wr=>∃(j:Nat) (bj:BV) (mj Mj:Nat),j≤steps.length∧i = .int .i64 j∧Keep w wr∧wr.heap[w.heap.size]? = some (.cells #[nilS,nilS,nilS,nilS,nilS,nilS,nilS,nilS] 32 (0,0))∧wr.heap[w2.heap.size]? = some (.cells (BV.arr bj) 32 (0,0))∧FreeBd wr mj Mj bj dss (runM dss (eventsB dss) (newM dss) (steps.take j))∧w.heap.size<mj∧Mj≤wr.heap.size∧w3.heap.size≤wr.heap.size∧Run dss (runM dss (eventsB dss) (newM dss) (steps.take j))∧w.heap.size<w2.heap.size) (fun _ i _=>steps.length-(intOf i).toNat)
 case atStart=>exact⟨0,_,_,_,Nat.zero_le _,rfl,XK3.out,XR3.out,XM3.out,XF.out,s1,Nat.le_refl _,Nat.le_refl _,R0.out,by omega⟩
 case round=>
  obtain⟨j,bj,mj,Mj,hj,rfl,kr,hRr,hMr,Fr,hmj,hMj,hsr,Rr,hwz⟩:=hrel;clear XF XK3;have XFr:=Lib.hid Fr;have XRr:=Lib.hid Rr;have XKr:=Lib.hid kr;by_cases hlt:j<steps.length
  ·
   obtain⟨a',c',he',hc'⟩:=XS.out.keep kr;simp only[Value.slice.injEq,true_and] at he';obtain⟨rfl,rfl⟩:=he';rcases hc' with q|⟨bS,oS,rfl,hbS,dS⟩
   · exfalso;rw[q] at hlt;simp at hlt
   have d1:=dS j hlt;obtain⟨sj,hsj⟩:∃sj,sj=steps.getD j 0:=⟨_,rfl⟩;rw[←hsj] at d1;obtain⟨bb,hbb⟩:∃bb,bb=runM dss (eventsB dss) (newM dss) (steps.take j):=⟨_,rfl⟩;have XBB:=Lib.hid hbb;have XSJ:=Lib.hid hsj;have i1:(0:Int)≤(j:Int):=Int.natCast_nonneg _;have i2:(j:Int)<(steps.length:Int):=by omega
   have hbr:boardB dss bb=true:=by rw[hbb];exact Rr.board HW.out
   have CS:=implStepped_any wr bj dss bb sj (by rw[hbb];exact Fr.rd) ((Shp.of hbr).sz (by omega));have hM2:wr.heap[w2.heap.size]? = some (.cells bj.arr 32 (0,0)):=hMr;obtain⟨b0,b1,b2,b3,b4,b5,b6,b7⟩:=bj;clear dS Fr Rr kr hbb hsj;go_wp2_with (first|refine wpList_load_row rfl 32 _ rfl w2.heap.size rfl 32 _ (0,0) _ hM2 Tryz.underlying32 rfl board_info ?_|fail)
   refine CS.mono ?_;rintro e w5 ⟨bv5,rfl,F5,k5⟩;have hD2:stpD dss bb=dss:=by unfold stpD;rw[if_pos hbr]
   have hB2:runM dss (eventsB dss) (newM dss) (steps.take (j+1))=stpB dss bb sj:=by
    unfold stpB stepB;rw[if_pos hbr]
    cases hp:isB (possM dss bb) sj with
    |true=>rw[if_pos rfl,run_hit hlt (by rw[←XBB.out,←XSJ.out];exact hp),←XBB.out,←XSJ.out]
    |false=>rw[if_neg (by simp),run_miss hlt (by rw[←XBB.out,←XSJ.out];exact hp),←XBB.out]
   have R5:Hid (Run dss (runM dss (eventsB dss) (newM dss) (steps.take (j+1)))):=Lib.hid (by
    rw[hB2];unfold stpB stepB;rw[if_pos hbr]
    cases hp:isB (possM dss bb) sj with
    |true=>rw[if_pos rfl];exact Run.step HW.out (by rw[XBB.out];exact XRr.out) hp
    |false=>rw[if_neg (by simp),XBB.out];exact XRr.out)
   rw[hD2,←hB2] at F5;obtain⟨B2,hBB⟩:∃B2,B2=runM dss (eventsB dss) (newM dss) (steps.take (j+1)):=⟨_,rfl⟩;have XB2:=Lib.hid hBB;rw[←hBB] at F5;obtain⟨D2,hDD⟩:∃D2,D2=dss:=⟨_,rfl⟩;have XDD:=Lib.hid hDD;obtain⟨yW,yP,yL,yN,yX,yS,yF,yR,ycW,ycP,ycL,ycN,ycX,ycS,ycF,ycR,rfl⟩:=F5.rd.shapes;have s5:=k5.size;have hR5:=(Below.block k5 w.heap.size (by omega)).trans hRr;have hM5:=(Below.block k5 w2.heap.size (by omega)).trans hMr;have HG:=Lib.hid (grown_row3 w5 w2.heap.size #[.slice yW dss.length ycW,.slice yP B2.plc.length ycP,.slice yL B2.lst.length ycL,.slice yN B2.nts.length ycN,.slice yX B2.nxt.length ycX,.slice yS B2.sn.length ycS,.slice yF B2.fr.length ycF,.slice yR B2.rws.length ycR]);have HZ:=Lib.hid (setRow_heap w5 w2.heap.size _ #[.slice yW dss.length ycW,.slice yP B2.plc.length ycP,.slice yL B2.lst.length ycL,.slice yN B2.nts.length ycN,.slice yX B2.nxt.length ycX,.slice yS B2.sn.length ycS,.slice yF B2.fr.length ycF,.slice yR B2.rws.length ycR] _ _ hM5);have HF:=Lib.hid (F5.above (w':=w5.setRow w2.heap.size #[.slice yW dss.length ycW,.slice yP B2.plc.length ycP,.slice yL B2.lst.length ycL,.slice yN B2.nts.length ycN,.slice yX B2.nxt.length ycX,.slice yS B2.sn.length ycS,.slice yF B2.fr.length ycF,.slice yR B2.rws.length ycR]) (fun q h1 h2=>HG.out.block q h2 (fun e=>by have:=Option.some.inj e;omega)) HG.out.size);have HK:=Lib.hid ((XKr.out.trans k5).grown HG.out (fun q hq=>by have:=Option.some.inj hq;omega));have HR:=Lib.hid ((HG.out.block w.heap.size (by omega) (fun e=>by have:=Option.some.inj e;omega)).trans hR5);have sZ:=HG.out.size;clear F5 hD2 hB2 hBB hDD hR5 CS hM2;go_wp2_with (first|refine wpList_store_row rfl 32 _ _ rfl w2.heap.size _ rfl rfl 32 _ hM5 board_info rfl (by simp[Value.oneCell']) ?_|fail)
   go_roundw;case rel=>exact⟨j+1,_,wr.heap.size,w5.heap.size,by omega,by go_num,HK.out,HR.out,HZ.out,by rw[←XB2.out];exact HF.out,by omega,sZ,by omega,R5.out,hwz⟩
   case measure=>simp[intOf];omega
  ·
   obtain rfl:j=steps.length:=by omega
   rw[List.take_length] at Fr;have hM2:wr.heap[w2.heap.size]? = some (.cells bj.arr 32 (0,0)):=hMr;obtain⟨BB,hBB⟩:∃BB,BB=runM dss (eventsB dss) (newM dss) steps:=⟨_,rfl⟩;rw[←hBB] at Fr;have XB2:=Lib.hid hBB;obtain⟨yW,yP,yL,yN,yX,yS,yF,yR,ycW,ycP,ycL,ycN,ycX,ycS,ycF,ycR,hyy⟩:=Fr.rd.shapes;subst hyy;have HG:=Lib.hid (grown_row3 wr w.heap.size #[.slice yW dss.length ycW,.slice yP BB.plc.length ycP,.slice yL BB.lst.length ycL,.slice yN BB.nts.length ycN,.slice yX BB.nxt.length ycX,.slice yS BB.sn.length ycS,.slice yF BB.fr.length ycF,.slice yR BB.rws.length ycR]);have HZ:=Lib.hid (setRow_heap wr w.heap.size _ #[.slice yW dss.length ycW,.slice yP BB.plc.length ycP,.slice yL BB.lst.length ycL,.slice yN BB.nts.length ycN,.slice yX BB.nxt.length ycX,.slice yS BB.sn.length ycS,.slice yF BB.fr.length ycF,.slice yR BB.rws.length ycR] _ _ hRr);have XFF:=Lib.hid ((Fr.above (w':=wr.setRow w.heap.size #[.slice yW dss.length ycW,.slice yP BB.plc.length ycP,.slice yL BB.lst.length ycL,.slice yN BB.nts.length ycN,.slice yX BB.nxt.length ycX,.slice yS BB.sn.length ycS,.slice yF BB.fr.length ycF,.slice yR BB.rws.length ycR]) (fun q h1 h2=>HG.out.block q h2 (fun e=>by have:=Option.some.inj e;omega)) HG.out.size).wide (Nat.le_of_lt hmj) (Nat.le_trans hMj HG.out.size));have HKK:=Lib.hid (kr.grown HG.out (fun q hq=>Nat.le_of_eq (Option.some.inj hq)));clear Fr hBB XFr XRr;go_wp2_with (first|refine wpList_load_row rfl 32 _ rfl w2.heap.size rfl 32 _ (0,0) _ hM2 Tryz.underlying32 rfl board_info ?_|refine wpList_store_row rfl 32 _ _ rfl w.heap.size _ rfl rfl 32 _ hRr board_info rfl (by simp[Value.oneCell']) ?_|fail)
   refine bodyPost_ret (results_row_tmp (by rfl) _ _ w.heap.size _ _ (0,0) _ (.bool true) rfl HZ.out rfl Tryz.underlying32 rfl board_info) rfl ?_;exact⟨⟨.slice yW dss.length ycW,.slice yP BB.plc.length ycP,.slice yL BB.lst.length ycL,.slice yN BB.nts.length ycN,.slice yX BB.nxt.length ycX,.slice yS BB.sn.length ycS,.slice yF BB.fr.length ycF,.slice yR BB.rws.length ycR⟩,by rw[HTT.out],by rw[HD.out,HB.out,←XB2.out];exact XFF.out,HKK.out⟩
end Go.Proofs.YtgakfkjjkobpiabGreat
