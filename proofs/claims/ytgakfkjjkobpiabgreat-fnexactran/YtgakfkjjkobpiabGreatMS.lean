/- Gathered texts. -/
import Derived.Test.YtgakfkjjkobpiabGreatMR
import Derived.Test.YtgakfkjjkobpiabGreatMM
set_option maxRecDepth 100000
set_option maxHeartbeats 8000000
namespace Go.Proofs.YtgakfkjjkobpiabGreat
open Go.ChangeShapes Go.WideShapes Go.ChangeAt Go.RowKit
theorem poss_canI {dss:List (List Dd)}{b:Bd}{c:Nat}(_:dss.length≤3)(h:canM dss b c=true)(hc:c<dss.length):isB (possM dss b) (c:Int)=true:=by
 unfold isB possM;rw[List.any_append,List.any_map];simp only[Bool.or_eq_true];left;rw[List.any_eq_true];exact⟨c,List.mem_filter.2 ⟨List.mem_range.2 hc,h⟩,by simp⟩
theorem poss_noteI {dss:List (List Dd)}{b:Bd}{c:Nat}(h:decide (0<(b.nts.getD c []).length)=true)(hc:c<dss.length):isB (possM dss b) (10+(c:Int))=true:=by
 unfold isB possM;rw[List.any_append];simp only[Bool.or_eq_true];right;rw[List.any_map,List.any_eq_true];refine⟨c,List.mem_filter.2 ⟨List.mem_range.2 hc,?_⟩,by simp⟩
 cases e:b.nts.getD c [] with
 |nil=>rw[e] at h;simp at h
 |cons x r=>rfl
theorem poss_noI {dss:List (List Dd)}{b:Bd}{s:Int}(h0:∀c:Nat,c<dss.length→s=(c:Int)→canM dss b c=false)(h1:∀c:Nat,c<dss.length→s=10+(c:Int)→decide (0<(b.nts.getD c []).length)=false):isB (possM dss b) s=false:=by
 cases e:isB (possM dss b) s with
 |false=>rfl
 |true=>
  exfalso;unfold isB possM at e;rw[List.any_append,List.any_map,List.any_map] at e;simp only[Bool.or_eq_true,List.any_eq_true,List.mem_filter,List.mem_range,Function.comp,beq_iff_eq] at e;rcases e with ⟨c,⟨hc,q⟩,e⟩|⟨c,⟨hc,q⟩,e⟩
  · rw[h0 c hc e.symm] at q;cases q
  ·
   have:=h1 c hc e.symm
   cases en:b.nts.getD c [] with
   |nil=>rw[en] at q;simp at q
   |cons x r=>rw[en] at this;simp at this
theorem FreeBd.wide {w:World}{m m' M M':Nat}{v:BV}{dss:List (List Dd)}{b:Bd}(h:FreeBd w m M v dss b)(hm:m'≤m)(hM:M≤M'):FreeBd w m' M' v dss b:=by
 obtain⟨Vw,Vn,Vr,h1,h2,h3⟩:=h.ex;have up:∀v n,HdM v n m→HdM v n m':=fun v n q b o l c e hn=>Nat.le_trans hm (q b o l c e hn)
 exact⟨h.rd,⟨Vw,Vn,Vr,h1,h2,fun x hx=>⟨Nat.le_trans hm (h3 x hx).1,Nat.lt_of_lt_of_le (h3 x hx).2 hM⟩⟩,up _ _ h.hd.1,up _ _ h.hd.2.1,up _ _ h.hd.2.2⟩
theorem OwnVal.all {w:World}{m:Nat}{v:BV}{nv rv wv:List Value}{bs N:Nat}{dss:List (List Dd)}{b:Bd}(h:OwnVal w m v nv rv bs N dss b)(lw:OwnLW w bs N v.W wv dss)(hm:m≤bs):OwnA w m v nv rv wv dss b:=by
 have wl:∀o,llLive wv.length o→∀k,(llR 72 ddR v.W wv dss o).v.ownBlock=some k→bs≤k∧k<N:=fun o ho k hk=>⟨(lw.ll.fam.lt ho k hk).1,lw.lt o ho k hk⟩
 have cross:∀i,liveB nv rv i→i≠.bd→∀o,llLive wv.length o→(famR 0 v nv rv b i).v.ownBlock=none∨(famR 0 v nv rv b i).v.ownBlock≠(llR 72 ddR v.W wv dss o).v.ownBlock:=fun i hi hb o ho=>by
  cases e:(famR 0 v nv rv b i).v.ownBlock with
  |none=>exact .inl rfl
  |some k=>exact .inr (fun q=>by have:=h.out i hi hb k e;have:=wl o ho k q.symm;omega)
 have cross':∀o,llLive wv.length o→∀i,liveB nv rv i→i≠.bd→(llR 72 ddR v.W wv dss o).v.ownBlock=none∨(llR 72 ddR v.W wv dss o).v.ownBlock≠(famR 0 v nv rv b i).v.ownBlock:=fun o ho i hi hb=>by
  cases e:(llR 72 ddR v.W wv dss o).v.ownBlock with
  |none=>exact .inl rfl
  |some k=>exact .inr (fun q=>by have:=h.out i hi hb k q.symm;have:=wl o ho k e;omega)
 refine⟨⟨fun j hj=>?_,fun i j hi hj hij=>?_⟩,h.ln,h.lr,lw.ll.len⟩
 ·
  cases j with
  |b i=>exact h.fam.own i hj
  |wk=>exact own_base (lw.ll.fam.own none trivial) hm
  |wd c=>exact own_base (lw.ll.fam.own (some c) hj) hm
 ·
  cases i with
  |b i=>
   cases j with
   |b j=>exact h.fam.apart i j hi hj (fun e=>hij (by rw[e]))
   |wk=>exact cross i hi.1 hi.2 none trivial
   |wd c=>exact cross i hi.1 hi.2 (some c) hj
  |wk=>
   cases j with
   |b j=>exact cross' none trivial j hj.1 hj.2
   |wk=>exact absurd rfl hij
   |wd c=>exact lw.ll.fam.apart none (some c) trivial hj (by simp)
  |wd c=>
   cases j with
   |b j=>exact cross' (some c) hi j hj.1 hj.2
   |wk=>exact lw.ll.fam.apart (some c) none hi trivial (by simp)
   |wd d=>exact lw.ll.fam.apart (some c) (some d) hi hj (fun e=>hij (by have:=Option.some.inj e;rw[this]))
theorem implStepped_any (w:World)(v:BV)(dss:List (List Dd))(b:Bd)(s:Int)(h:RdBd w v dss b)(hz:SzBd dss b):
  Calls Tryz.prog 9 #[v.agg,.int .i64 s] w fun e w'=>∃bv':BV,e = .returned (.tuple #[bv'.agg,.bool (stpT dss b s)])∧FreeBd w' w.heap.size w'.heap.size bv' (stpD dss b) (stpB dss b s)∧Keep w w':=by
 obtain⟨s0,hs0⟩:∃s0,s0=s:=⟨_,rfl⟩;have HS0:=Lib.hid hs0;clear hs0;have XRB:=Lib.hid h;have CB:=fun (W:World) (kW:Keep w W)=>implBoardOk_any W v dss b (h.keep kW) hz
 obtain⟨aW,aP,aL,aN,aX,aS,aF,aR,cW,cP,cL,cN,cX,cS,cF,cR,rfl⟩:=h.shapes;clear h hz;obtain⟨w1,hw1⟩:∃W:World,W=(w.alloc (.cells #[.slice aW dss.length cW,.slice aP b.plc.length cP,.slice aL b.lst.length cL,.slice aN b.nts.length cN,.slice aX b.nxt.length cX,.slice aS b.sn.length cS,.slice aF b.fr.length cF,.slice aR b.rws.length cR] 32)).alloc (.cells #[nilS,nilS,nilS,nilS,nilS,nilS,nilS,nilS] 32):=⟨_,rfl⟩;have K1:Keep w w1:=by rw[hw1];exact ((Keep.refl w).alloc _).alloc _
 have s1:w.heap.size+1<w1.heap.size:=by rw[hw1,heap_size,heap_size];omega
 have hB1:w1.heap[w.heap.size]? = some (.cells #[.slice aW dss.length cW,.slice aP b.plc.length cP,.slice aL b.lst.length cL,.slice aN b.nts.length cN,.slice aX b.nxt.length cX,.slice aS b.sn.length cS,.slice aF b.fr.length cF,.slice aR b.rws.length cR] 32 (0,0)):=by rw[hw1];exact box_heap ((Keep.refl _).alloc _)
 have hR1:w1.heap[w.heap.size+1]? = some (.cells #[nilS,nilS,nilS,nilS,nilS,nilS,nilS,nilS] 32 (0,0)):=by rw[hw1,←heap_size w (.cells #[.slice aW dss.length cW,.slice aP b.plc.length cP,.slice aL b.lst.length cL,.slice aN b.nts.length cN,.slice aX b.nxt.length cX,.slice aS b.sn.length cS,.slice aF b.fr.length cF,.slice aR b.rws.length cR] 32)];exact heap_alloc_new _ _
 go_enter Tryz.func9,Tryz.ntmps9
 go_upto_region 1 with fail
 rw[←hw1];clear hw1;go_wp2_with (first|refine wpList_load_row rfl 32 _ rfl w.heap.size rfl 32 _ (0,0) _ hB1 Tryz.underlying32 rfl board_info ?_|fail)
 refine (CB _ K1).mono ?_;rintro e w2 ⟨rfl,k2⟩;have K2:=K1.trans k2;have s2:=k2.size;have hB2:=(Below.block k2 w.heap.size (by omega)).trans hB1;have hR2:=(Below.block k2 (w.heap.size+1) (by omega)).trans hR1;clear CB hB1 hR1 k2;cases hb:boardB dss b
 ·
  have HD:Hid (stpD dss b=[]):=Lib.hid (by unfold stpD;rw[hb];rfl);have HB:Hid (stpB dss b s=zBd):=Lib.hid (by unfold stpB;rw[hb];rfl);have HT:Hid (stpT dss b s=false):=Lib.hid (by unfold stpT;rw[hb];rfl);have HG:=Lib.hid (grown_row3 w2 (w.heap.size+1) #[nilS,nilS,nilS,nilS,nilS,nilS,nilS,nilS]);have HZ:=Lib.hid (setRow_heap w2 (w.heap.size+1) _ #[nilS,nilS,nilS,nilS,nilS,nilS,nilS,nilS] _ _ hR2);have HK:=Lib.hid (K2.grown HG.out (fun q hq=>by have:=Option.some.inj hq;omega));clear K2 hB2;go_wp2_with (first|refine wpList_store_row rfl 32 _ _ rfl (w.heap.size+1) _ rfl rfl 32 _ hR2 board_info rfl (by simp[Value.oneCell']) ?_|fail)
  refine bodyPost_ret (results_row_tmp (by rfl) _ _ (w.heap.size+1) _ _ (0,0) _ (.bool false) rfl HZ.out rfl Tryz.underlying32 rfl board_info) rfl ?_;exact⟨bd0,by rw[HT.out],by rw[HD.out,HB.out];exact (ownA_zero _ _).free,HK.out⟩
 have XSH:=Lib.hid (Shp.of hb);have XD3:Hid (dss.length≤3):=Lib.hid (workB_useR XSH.out.work).1;have d3:=XD3.out;go_wp2_with (first|refine wpList_load_row rfl 32 _ rfl w.heap.size rfl 32 _ (0,0) _ hB2 Tryz.underlying32 rfl board_info ?_|fail)
 refine (copiedBoard_any w2 _ dss b (XRB.out.keep K2) hb).mono ?_;rintro e w3 ⟨bv',nv,rv,wv,bs,N,rfl,OV,LW,hbsm,k3⟩;obtain⟨uW,uP,uL,uN,uX,uS,uF,uR,eW,eP,eL,eN,eX,eS,eF,eR,rfl⟩:=OV.rd0.shapes;have XMV:=Lib.hid OV;have XLW:=Lib.hid LW;have s3:=k3.size;clear OV LW;obtain⟨w4,hw4⟩:∃W:World,W=w3.alloc (.cells #[.slice uW dss.length eW,.slice uP b.plc.length eP,.slice uL b.lst.length eL,.slice uN b.nts.length eN,.slice uX b.nxt.length eX,.slice uS b.sn.length eS,.slice uF b.fr.length eF,.slice uR b.rws.length eR] 32):=⟨_,rfl⟩;have k4:Keep w3 w4:=by rw[hw4];exact (Keep.refl w3).alloc _
 have hM4:w4.heap[w3.heap.size]? = some (.cells #[.slice uW dss.length eW,.slice uP b.plc.length eP,.slice uL b.lst.length eL,.slice uN b.nts.length eN,.slice uX b.nxt.length eX,.slice uS b.sn.length eS,.slice uF b.fr.length eF,.slice uR b.rws.length eR] 32 (0,0)):=by rw[hw4];exact heap_alloc_new _ _
 have y4:w3.heap.size<w4.heap.size:=by rw[hw4,heap_size];omega
 go_upto_region 4 with fail
 rw[←hw4];clear hw4;go_wp2_with fail
 refine (allSteps_any w4).mono ?_;rintro e w5 ⟨rfl,hw5⟩;have k5:Keep w4 w5:=by rw[hw5];exact (Keep.refl w4).alloc _
 have hT5:w5.heap[w4.heap.size]? = some (.cells stepT 63 (0,0)):=by rw[hw5];exact heap_alloc_new _ _
 have y5:w4.heap.size<w5.heap.size:=by rw[hw5,heap_size];omega
 have K35:=Lib.hid (k4.trans k5);have K25:=k3.trans (k4.trans k5);have K05:=Lib.hid (K2.trans K25);have XB5:=Lib.hid ((Below.block K25 w.heap.size (by omega)).trans hB2);have XR5:=Lib.hid ((Below.block K25 (w.heap.size+1) (by omega)).trans hR2);have XM5:=Lib.hid ((Below.block k5 w3.heap.size (by omega)).trans hM4);have XT5:=Lib.hid hT5;clear hw5 hB2 hR2 hM4 hT5 k3 k4 k5 K25 K2 K1;go_wp2;go_loopw [8,9,18] (fun _ _ i wr=>∃k:Nat,k≤2∧i = .int .i64 k∧Keep w5 wr∧(1≤k→∀cc:Nat,cc<dss.length→(s0=(cc:Int))→canM dss b cc=false)∧(2≤k→∀cc:Nat,cc<dss.length→(s0=10+(cc:Int))→decide (0<(b.nts.getD cc []).length)=false)) (fun _ _ i _=>2-(intOf i).toNat)
 case atStart=>exact⟨0,Nat.zero_le _,rfl,Keep.refl _,fun q=>absurd q (by omega),fun q=>absurd q (by omega)⟩
 case round=>
  obtain⟨k,hk,rfl,kr,hn0,hn1⟩:=hrel;have sr:=kr.size;have hBr:=(Below.block kr w.heap.size (by omega)).trans XB5.out;have hTr:=(Below.block kr w4.heap.size (by omega)).trans XT5.out;by_cases hlt:k<2
  ·
   have k01:k=0∨k=1:=by omega
   rcases k01 with rfl|rfl
   ·
    clear hn0 hn1;obtain⟨q0,q1,q2⟩:=(tbl_cells hTr).1;obtain⟨wa,hwa⟩:∃W:World,W=(wr.alloc (.cells #[.int .i64 0,.nilFunc,.nilFunc] 63)).setRow wr.heap.size #[.int .i64 0,.func (.func 72) #[] #[],.func (.func 73) #[] #[]]:=⟨_,rfl⟩;have hA:(wr.alloc (.cells #[.int .i64 0,.nilFunc,.nilFunc] 63)).heap[wr.heap.size]? = some (.cells #[.int .i64 0,.nilFunc,.nilFunc] 63 (0,0)):=heap_alloc_new _ _;have g4:(wr.alloc (.cells #[.int .i64 0,.nilFunc,.nilFunc] 63)).grownBy wa (some wr.heap.size):=by rw[hwa];exact grown_row3 _ _ _
    have k4:Keep wr wa:=((Keep.refl wr).alloc _).grown g4 (fun q hq=>Nat.le_of_eq (Option.some.inj hq));have hQ4:wa.heap[wr.heap.size]? = some (.cells #[.int .i64 0,.func (.func 72) #[] #[],.func (.func 73) #[] #[]] 63 (0,0)):=by rw[hwa];exact setRow_heap _ _ _ _ _ _ hA
    have y4:wr.heap.size<wa.heap.size:=by have:=g4.size;rw[heap_size] at this;omega
    go_upto_region 7 with (first|refine wpList_store_row rfl 63 _ _ rfl wr.heap.size _ rfl rfl 63 _ hA step_info rfl (by simp[Value.oneCell']) ?_|fail)
    rw[←hwa];clear hwa hA q0 q1 q2 g4;have K5a:=kr.trans k4;have KA:=K05.out.trans K5a;have hB4:=(Below.block k4 w.heap.size (by omega)).trans hBr;have z0:wa.cell? ⟨w.heap.size,0,none⟩=some (.slice aW dss.length cW):=by rw[cell_of_row wa _ 0 _ _ _ hB4];rfl
    have t0:wa.cell? ⟨wr.heap.size,0,none⟩=some (.int .i64 0):=by rw[cell_of_row wa _ 0 _ _ _ hQ4];rfl
    have t1:wa.cell? ⟨wr.heap.size,1,none⟩=some (.func (.func 72) #[] #[]):=by rw[cell_of_row wa _ 1 _ _ _ hQ4];rfl
    have hw1:IntKind.i64.wrap ((dss.length:Int))=(dss.length:Int):=by rw[IntKind.wrap_i64];omega
    have hw2:IntKind.i64.wrap ((dss.length:Int)-1)=(dss.length:Int)-1:=by rw[IntKind.wrap_i64];omega
    have s4:=k4.size;go_wp2_with fail
    refine (isFrom_any _ _ _ _).mono ?_;rintro e wa' ⟨rfl,hwa'⟩;rw[hwa'];clear hwa';by_cases hin:∃cc:Nat,cc<dss.length∧s=(cc:Int)
    ·
     obtain⟨cc,hcc,hs⟩:=hin;have hI:inB s 0 ((dss.length:Int)-1)=true:=by unfold inB;simp;omega
     rw[hI];subst hs;have hws:IntKind.i64.wrap ((cc:Int)-0)=(cc:Int):=by rw[IntKind.wrap_i64];omega
     have hws2:IntKind.i64.wrap (cc:Int)=(cc:Int):=by rw[IntKind.wrap_i64];omega
     have z1:wa.cell? ⟨w.heap.size,1,none⟩=some (.slice aP b.plc.length cP):=by rw[cell_of_row wa _ 1 _ _ _ hB4];rfl
     have z2:wa.cell? ⟨w.heap.size,2,none⟩=some (.slice aL b.lst.length cL):=by rw[cell_of_row wa _ 2 _ _ _ hB4];rfl
     have z3:wa.cell? ⟨w.heap.size,3,none⟩=some (.slice aN b.nts.length cN):=by rw[cell_of_row wa _ 3 _ _ _ hB4];rfl
     have z4:wa.cell? ⟨w.heap.size,4,none⟩=some (.slice aX b.nxt.length cX):=by rw[cell_of_row wa _ 4 _ _ _ hB4];rfl
     have z5:wa.cell? ⟨w.heap.size,5,none⟩=some (.slice aS b.sn.length cS):=by rw[cell_of_row wa _ 5 _ _ _ hB4];rfl
     have z6:wa.cell? ⟨w.heap.size,6,none⟩=some (.slice aF b.fr.length cF):=by rw[cell_of_row wa _ 6 _ _ _ hB4];rfl
     have z7:wa.cell? ⟨w.heap.size,7,none⟩=some (.slice aR b.rws.length cR):=by rw[cell_of_row wa _ 7 _ _ _ hB4];rfl
     have CAN:=canWork_any wa _ dss b cc (XRB.out.keep KA) hb hcc;clear hI;go_wp2_with fail
     refine CAN.mono ?_;rintro e wb ⟨rfl,kb⟩;have K5b:=K5a.trans kb;have K3b:=K35.out.trans K5b;have sb:=kb.size
     cases ht:canM dss b cc with
     |false=>
      have HN:Hid (∀cc:Nat,cc<dss.length→(s0=(cc:Int))→canM dss b cc=false):=Lib.hid (fun d hd e=>by
       have e2:(cc:Int)=(d:Int):=HS0.out.symm.trans e;obtain rfl:cc=d:=by omega
       exact ht)
      go_wp2;go_roundw;case rel=>exact⟨1,by omega,rfl,K5b,fun _=>HN.out,fun q=>absurd q (by omega)⟩
      case measure=>simp[intOf]
     |true=>
      have hQb:=(Below.block kb wr.heap.size y4).trans hQ4;have hMb:=(Below.block K5b w3.heap.size (by omega)).trans XM5.out;have hRb:=(Below.block K5b (w.heap.size+1) (by omega)).trans XR5.out;have u0:wb.cell? ⟨wr.heap.size,0,none⟩=some (.int .i64 0):=by rw[cell_of_row wb _ 0 _ _ _ hQb];rfl
      have u2:wb.cell? ⟨wr.heap.size,2,none⟩=some (.func (.func 73) #[] #[]):=by rw[cell_of_row wb _ 2 _ _ _ hQb];rfl
      have s5b:=K5b.size;obtain⟨cu1,cu2⟩:=can_use ht;have CDO:=work_any wb w2.heap.size ⟨.slice uW dss.length eW,.slice uP b.plc.length eP,.slice uL b.lst.length eL,.slice uN b.nts.length eN,.slice uX b.nxt.length eX,.slice uS b.sn.length eS,.slice uF b.fr.length eF,.slice uR b.rws.length eR⟩ nv rv bs N dss b 20 cc (XMV.out.keep K3b) XSH.out (by omega) (by omega) hcc (board_clerk hb hcc).1 cu1 (fun q3=>by rcases cu2 with q|q;omega;exact q);have HT:Hid (stpT dss b ((cc:Int))=true):=Lib.hid (by unfold stpT;rw[hb,poss_canI XD3.out ht hcc];rfl);have HB:Hid (stpB dss b ((cc:Int))=stepM dss (eventsB dss) b ((cc:Int))):=Lib.hid (by unfold stpB stepB;rw[if_pos hb,poss_canI XD3.out ht hcc,if_pos rfl]);have HD:Hid (stpD dss b=dss):=Lib.hid (by unfold stpD;rw[if_pos hb]);go_wp2_with (first|refine wpList_load_row rfl 32 _ rfl w3.heap.size rfl 32 _ (0,0) _ hMb Tryz.underlying32 rfl board_info ?_|fail)
      refine CDO.mono ?_;rintro e wd ⟨rfl,nv6,rv6,V6,T6⟩;have LW6:=OwnLW.turn (v:=⟨.slice uW dss.length eW,.slice uP b.plc.length eP,.slice uL b.lst.length eL,.slice uN b.nts.length eN,.slice uX b.nxt.length eX,.slice uS b.sn.length eS,.slice uF b.fr.length eF,.slice uR b.rws.length eR⟩) (XLW.out.keep K3b) (XMV.out.keep K3b) T6;have FR6:=Lib.hid ((V6.all LW6 hbsm).free);have XT6:=Lib.hid T6;clear V6 T6 LW6 CDO;have hM6:=(XT6.out.block w3.heap.size (by omega) (fun q=>by have:=(XMV.out.blk _ q).2.1;omega)).trans hMb;have hR6:=(XT6.out.block (w.heap.size+1) (by omega) (fun q=>by have:=(XMV.out.blk _ q).1;omega)).trans hRb;have K6:Keep w wd:=Below.trans (K05.out.trans K5b) (XT6.out.low (show w.heap.size≤wb.heap.size by omega) (fun g hg=>by have:=(XMV.out.blk g hg).1;omega));have s6:=XT6.out.size;clear hMb hRb u0 u2 hQb;have HG:=Lib.hid (grown_row3 wd (w.heap.size+1) #[.slice uW dss.length eW,.slice uP b.plc.length eP,.slice uL b.lst.length eL,.slice uN b.nts.length eN,.slice uX b.nxt.length eX,.slice uS b.sn.length eS,.slice uF b.fr.length eF,.slice uR b.rws.length eR]);have HZ:=Lib.hid (setRow_heap wd (w.heap.size+1) _ #[.slice uW dss.length eW,.slice uP b.plc.length eP,.slice uL b.lst.length eL,.slice uN b.nts.length eN,.slice uX b.nxt.length eX,.slice uS b.sn.length eS,.slice uF b.fr.length eF,.slice uR b.rws.length eR] _ _ hR6);have HF:=Lib.hid (((FR6.out).above (w':=wd.setRow (w.heap.size+1) #[.slice uW dss.length eW,.slice uP b.plc.length eP,.slice uL b.lst.length eL,.slice uN b.nts.length eN,.slice uX b.nxt.length eX,.slice uS b.sn.length eS,.slice uF b.fr.length eF,.slice uR b.rws.length eR]) (fun q h1 h2=>HG.out.block q h2 (fun e=>by have:=Option.some.inj e;omega)) HG.out.size).wide (show w.heap.size≤_ by omega) HG.out.size);have HKK:=Lib.hid ((K6).grown HG.out (fun q hq=>by have:=Option.some.inj hq;omega));go_wp2_with (first|refine wpList_load_row rfl 32 _ rfl w3.heap.size rfl 32 _ (0,0) _ hM6 Tryz.underlying32 rfl board_info ?_|refine wpList_store_row rfl 32 _ _ rfl (w.heap.size+1) _ rfl rfl 32 _ hR6 board_info rfl (by simp[Value.oneCell']) ?_|fail)
      refine bodyPost_ret (results_row_tmp (by rfl) _ _ (w.heap.size+1) _ _ (0,0) _ (.bool true) rfl HZ.out rfl Tryz.underlying32 rfl board_info) rfl ?_;exact⟨⟨.slice uW dss.length eW,.slice uP b.plc.length eP,.slice uL b.lst.length eL,.slice uN b.nts.length eN,.slice uX b.nxt.length eX,.slice uS b.sn.length eS,.slice uF b.fr.length eF,.slice uR b.rws.length eR⟩,by rw[HT.out],by rw[HD.out,HB.out];exact HF.out,HKK.out⟩
    ·
     have hI:inB s 0 ((dss.length:Int)-1)=false:=by
      unfold inB;rw[decide_eq_false];rintro⟨h1,h2⟩;exact hin ⟨(s-0).toNat,by omega,by omega⟩
     rw[hI];have HN:Hid (∀cc:Nat,cc<dss.length→(s0=(cc:Int))→canM dss b cc=false):=Lib.hid (fun d hd e=>(hin ⟨d,hd,HS0.out.symm.trans e⟩).elim);clear hI hin;go_wp2;go_roundw;case rel=>exact⟨1,by omega,rfl,K5a,fun _=>HN.out,fun q=>absurd q (by omega)⟩
     case measure=>simp[intOf]
   ·
    clear hn1;obtain⟨q0,q1,q2⟩:=(tbl_cells hTr).2;obtain⟨wa,hwa⟩:∃W:World,W=(wr.alloc (.cells #[.int .i64 0,.nilFunc,.nilFunc] 63)).setRow wr.heap.size #[.int .i64 10,.func (.func 55) #[] #[],.func (.func 74) #[] #[]]:=⟨_,rfl⟩;have hA:(wr.alloc (.cells #[.int .i64 0,.nilFunc,.nilFunc] 63)).heap[wr.heap.size]? = some (.cells #[.int .i64 0,.nilFunc,.nilFunc] 63 (0,0)):=heap_alloc_new _ _;have g4:(wr.alloc (.cells #[.int .i64 0,.nilFunc,.nilFunc] 63)).grownBy wa (some wr.heap.size):=by rw[hwa];exact grown_row3 _ _ _
    have k4:Keep wr wa:=((Keep.refl wr).alloc _).grown g4 (fun q hq=>Nat.le_of_eq (Option.some.inj hq));have hQ4:wa.heap[wr.heap.size]? = some (.cells #[.int .i64 10,.func (.func 55) #[] #[],.func (.func 74) #[] #[]] 63 (0,0)):=by rw[hwa];exact setRow_heap _ _ _ _ _ _ hA
    have y4:wr.heap.size<wa.heap.size:=by have:=g4.size;rw[heap_size] at this;omega
    go_upto_region 7 with (first|refine wpList_store_row rfl 63 _ _ rfl wr.heap.size _ rfl rfl 63 _ hA step_info rfl (by simp[Value.oneCell']) ?_|fail)
    rw[←hwa];clear hwa hA q0 q1 q2 g4;have K5a:=kr.trans k4;have KA:=K05.out.trans K5a;have hB4:=(Below.block k4 w.heap.size (by omega)).trans hBr;have z0:wa.cell? ⟨w.heap.size,0,none⟩=some (.slice aW dss.length cW):=by rw[cell_of_row wa _ 0 _ _ _ hB4];rfl
    have t0:wa.cell? ⟨wr.heap.size,0,none⟩=some (.int .i64 10):=by rw[cell_of_row wa _ 0 _ _ _ hQ4];rfl
    have t1:wa.cell? ⟨wr.heap.size,1,none⟩=some (.func (.func 55) #[] #[]):=by rw[cell_of_row wa _ 1 _ _ _ hQ4];rfl
    have hw1:IntKind.i64.wrap (10+(dss.length:Int))=10+(dss.length:Int):=by rw[IntKind.wrap_i64];omega
    have hw2:IntKind.i64.wrap (10+(dss.length:Int)-1)=10+(dss.length:Int)-1:=by rw[IntKind.wrap_i64];omega
    have s4:=k4.size;go_wp2_with fail
    refine (isFrom_any _ _ _ _).mono ?_;rintro e wa' ⟨rfl,hwa'⟩;rw[hwa'];clear hwa';by_cases hin:∃cc:Nat,cc<dss.length∧s=10+(cc:Int)
    ·
     obtain⟨cc,hcc,hs⟩:=hin;have hI:inB s 10 (10+(dss.length:Int)-1)=true:=by unfold inB;simp;omega
     rw[hI];subst hs;have hws:IntKind.i64.wrap (10+(cc:Int)-10)=(cc:Int):=by rw[IntKind.wrap_i64];omega
     have z1:wa.cell? ⟨w.heap.size,1,none⟩=some (.slice aP b.plc.length cP):=by rw[cell_of_row wa _ 1 _ _ _ hB4];rfl
     have z2:wa.cell? ⟨w.heap.size,2,none⟩=some (.slice aL b.lst.length cL):=by rw[cell_of_row wa _ 2 _ _ _ hB4];rfl
     have z3:wa.cell? ⟨w.heap.size,3,none⟩=some (.slice aN b.nts.length cN):=by rw[cell_of_row wa _ 3 _ _ _ hB4];rfl
     have z4:wa.cell? ⟨w.heap.size,4,none⟩=some (.slice aX b.nxt.length cX):=by rw[cell_of_row wa _ 4 _ _ _ hB4];rfl
     have z5:wa.cell? ⟨w.heap.size,5,none⟩=some (.slice aS b.sn.length cS):=by rw[cell_of_row wa _ 5 _ _ _ hB4];rfl
     have z6:wa.cell? ⟨w.heap.size,6,none⟩=some (.slice aF b.fr.length cF):=by rw[cell_of_row wa _ 6 _ _ _ hB4];rfl
     have z7:wa.cell? ⟨w.heap.size,7,none⟩=some (.slice aR b.rws.length cR):=by rw[cell_of_row wa _ 7 _ _ _ hB4];rfl
     have CAN:=hasNotes_any wa _ dss b cc (XRB.out.keep KA) (by rw[XSH.out.nts];exact hcc);clear hI;go_wp2_with fail
     refine CAN.mono ?_;rintro e wb ⟨rfl,kb⟩;have K5b:=K5a.trans kb;have K3b:=K35.out.trans K5b;have sb:=kb.size
     cases ht:decide (0<(b.nts.getD cc []).length) with
     |false=>
      have HN:Hid (∀cc:Nat,cc<dss.length→(s0=10+(cc:Int))→decide (0<(b.nts.getD cc []).length)=false):=Lib.hid (fun d hd e=>by
       have e2:10+(cc:Int)=10+(d:Int):=HS0.out.symm.trans e;obtain rfl:cc=d:=by omega
       exact ht)
      go_wp2;go_roundw;case rel=>exact⟨2,by omega,rfl,K5b,fun _=>hn0 (by omega),fun _=>HN.out⟩
      case measure=>simp[intOf]
     |true=>
      have hQb:=(Below.block kb wr.heap.size y4).trans hQ4;have hMb:=(Below.block K5b w3.heap.size (by omega)).trans XM5.out;have hRb:=(Below.block K5b (w.heap.size+1) (by omega)).trans XR5.out;have u0:wb.cell? ⟨wr.heap.size,0,none⟩=some (.int .i64 10):=by rw[cell_of_row wb _ 0 _ _ _ hQb];rfl
      have u2:wb.cell? ⟨wr.heap.size,2,none⟩=some (.func (.func 74) #[] #[]):=by rw[cell_of_row wb _ 2 _ _ _ hQb];rfl
      have s5b:=K5b.size
      obtain⟨xx,rr,hxr⟩:∃xx rr,b.nts.getD cc []=xx::rr:=by
       cases e:b.nts.getD cc [] with
       |nil=>rw[e] at ht;simp at ht
       |cons xx rr=>exact⟨xx,rr,rfl⟩
      have hxx:=(((RB.any hb).nl cc).2 xx (by rw[hxr];simp)).1;have CDO:=bring_any wb w2.heap.size ⟨.slice uW dss.length eW,.slice uP b.plc.length eP,.slice uL b.lst.length eL,.slice uN b.nts.length eN,.slice uX b.nxt.length eX,.slice uS b.sn.length eS,.slice uF b.fr.length eF,.slice uR b.rws.length eR⟩ nv rv wv bs N dss b 20 cc xx rr (XMV.out.keep K3b) (XLW.out.keep K3b) hbsm XSH.out (by omega) (by omega) hcc hxr hxx;have HT:Hid (stpT dss b (10+(cc:Int))=true):=Lib.hid (by unfold stpT;rw[hb,poss_noteI ht hcc];rfl);have HB:Hid (stpB dss b (10+(cc:Int))=flushM b cc):=Lib.hid (by unfold stpB stepB;rw[if_pos hb,poss_noteI ht hcc,if_pos rfl,flush_step]);have HD:Hid (stpD dss b=dss):=Lib.hid (by unfold stpD;rw[if_pos hb]);go_wp2_with (first|refine wpList_load_row rfl 32 _ rfl w3.heap.size rfl 32 _ (0,0) _ hMb Tryz.underlying32 rfl board_info ?_|fail)
      refine CDO.mono ?_;rintro e wd ⟨rfl,FR6,F6,T6⟩;replace FR6:=Lib.hid FR6;have XT6:=Lib.hid T6;clear T6 CDO;have hM6:=(XT6.out.block w3.heap.size (by omega) (fun q=>by have:=(XMV.out.blk _ q).2.1;omega)).trans hMb;have hR6:=(XT6.out.block (w.heap.size+1) (by omega) (fun q=>by have:=(XMV.out.blk _ q).1;omega)).trans hRb;have K6:Keep w wd:=Below.trans (K05.out.trans K5b) (XT6.out.low (show w.heap.size≤wb.heap.size by omega) (fun g hg=>by have:=(XMV.out.blk g hg).1;omega));have s6:=XT6.out.size;clear hMb hRb u0 u2 hQb;have HG:=Lib.hid (grown_row3 wd (w.heap.size+1) #[.slice uW dss.length eW,.slice uP b.plc.length eP,.slice uL b.lst.length eL,.slice uN b.nts.length eN,.slice uX b.nxt.length eX,.slice uS b.sn.length eS,.slice uF b.fr.length eF,.slice uR b.rws.length eR]);have HZ:=Lib.hid (setRow_heap wd (w.heap.size+1) _ #[.slice uW dss.length eW,.slice uP b.plc.length eP,.slice uL b.lst.length eL,.slice uN b.nts.length eN,.slice uX b.nxt.length eX,.slice uS b.sn.length eS,.slice uF b.fr.length eF,.slice uR b.rws.length eR] _ _ hR6);have HF:=Lib.hid (((FR6.out).above (w':=wd.setRow (w.heap.size+1) #[.slice uW dss.length eW,.slice uP b.plc.length eP,.slice uL b.lst.length eL,.slice uN b.nts.length eN,.slice uX b.nxt.length eX,.slice uS b.sn.length eS,.slice uF b.fr.length eF,.slice uR b.rws.length eR]) (fun q h1 h2=>HG.out.block q h2 (fun e=>by have:=Option.some.inj e;omega)) HG.out.size).wide (show w.heap.size≤_ by omega) HG.out.size);have HKK:=Lib.hid ((K6).grown HG.out (fun q hq=>by have:=Option.some.inj hq;omega));go_wp2_with (first|refine wpList_load_row rfl 32 _ rfl w3.heap.size rfl 32 _ (0,0) _ hM6 Tryz.underlying32 rfl board_info ?_|refine wpList_store_row rfl 32 _ _ rfl (w.heap.size+1) _ rfl rfl 32 _ hR6 board_info rfl (by simp[Value.oneCell']) ?_|fail)
      refine bodyPost_ret (results_row_tmp (by rfl) _ _ (w.heap.size+1) _ _ (0,0) _ (.bool true) rfl HZ.out rfl Tryz.underlying32 rfl board_info) rfl ?_;exact⟨⟨.slice uW dss.length eW,.slice uP b.plc.length eP,.slice uL b.lst.length eL,.slice uN b.nts.length eN,.slice uX b.nxt.length eX,.slice uS b.sn.length eS,.slice uF b.fr.length eF,.slice uR b.rws.length eR⟩,by rw[HT.out],by rw[HD.out,HB.out];exact HF.out,HKK.out⟩
    ·
     have hI:inB s 10 (10+(dss.length:Int)-1)=false:=by
      unfold inB;rw[decide_eq_false];rintro⟨h1,h2⟩;exact hin ⟨(s-10).toNat,by omega,by omega⟩
     rw[hI];have HN:Hid (∀cc:Nat,cc<dss.length→(s0=10+(cc:Int))→decide (0<(b.nts.getD cc []).length)=false):=Lib.hid (fun d hd e=>(hin ⟨d,hd,HS0.out.symm.trans e⟩).elim);clear hI hin;go_wp2;go_roundw;case rel=>exact⟨2,by omega,rfl,K5a,fun _=>hn0 (by omega),fun _=>HN.out⟩
     case measure=>simp[intOf]
  ·
   obtain rfl:k=2:=by omega
   have hno:=poss_noI (hn0 (by omega)) (hn1 (by omega));rw[HS0.out] at hno;have HT:Hid (stpT dss b s=false):=Lib.hid (by unfold stpT;rw[hno];simp);have HB:Hid (stpB dss b s=b):=Lib.hid (by unfold stpB stepB;rw[if_pos hb,hno];rfl);have HD:Hid (stpD dss b=dss):=Lib.hid (by unfold stpD;rw[if_pos hb]);have hMr:=(Below.block kr w3.heap.size (by omega)).trans XM5.out;have hRr:=(Below.block kr (w.heap.size+1) (by omega)).trans XR5.out;have FRr:=Lib.hid (((XMV.out.keep (K35.out.trans kr)).all (XLW.out.keep (K35.out.trans kr)) hbsm).free);have Kr:=K05.out.trans kr;clear hno hn0 hn1 hBr hTr hlt hk;have HG:=Lib.hid (grown_row3 wr (w.heap.size+1) #[.slice uW dss.length eW,.slice uP b.plc.length eP,.slice uL b.lst.length eL,.slice uN b.nts.length eN,.slice uX b.nxt.length eX,.slice uS b.sn.length eS,.slice uF b.fr.length eF,.slice uR b.rws.length eR]);have HZ:=Lib.hid (setRow_heap wr (w.heap.size+1) _ #[.slice uW dss.length eW,.slice uP b.plc.length eP,.slice uL b.lst.length eL,.slice uN b.nts.length eN,.slice uX b.nxt.length eX,.slice uS b.sn.length eS,.slice uF b.fr.length eF,.slice uR b.rws.length eR] _ _ hRr);have HF:=Lib.hid (((FRr.out).above (w':=wr.setRow (w.heap.size+1) #[.slice uW dss.length eW,.slice uP b.plc.length eP,.slice uL b.lst.length eL,.slice uN b.nts.length eN,.slice uX b.nxt.length eX,.slice uS b.sn.length eS,.slice uF b.fr.length eF,.slice uR b.rws.length eR]) (fun q h1 h2=>HG.out.block q h2 (fun e=>by have:=Option.some.inj e;omega)) HG.out.size).wide (show w.heap.size≤_ by omega) HG.out.size);have HKK:=Lib.hid ((Kr).grown HG.out (fun q hq=>by have:=Option.some.inj hq;omega));go_wp2_with (first|refine wpList_load_row rfl 32 _ rfl w3.heap.size rfl 32 _ (0,0) _ hMr Tryz.underlying32 rfl board_info ?_|refine wpList_store_row rfl 32 _ _ rfl (w.heap.size+1) _ rfl rfl 32 _ hRr board_info rfl (by simp[Value.oneCell']) ?_|fail)
   refine bodyPost_ret (results_row_tmp (by rfl) _ _ (w.heap.size+1) _ _ (0,0) _ (.bool false) rfl HZ.out rfl Tryz.underlying32 rfl board_info) rfl ?_;exact⟨⟨.slice uW dss.length eW,.slice uP b.plc.length eP,.slice uL b.lst.length eL,.slice uN b.nts.length eN,.slice uX b.nxt.length eX,.slice uS b.sn.length eS,.slice uF b.fr.length eF,.slice uR b.rws.length eR⟩,by rw[HT.out],by rw[HD.out,HB.out];exact HF.out,HKK.out⟩
end Go.Proofs.YtgakfkjjkobpiabGreat
