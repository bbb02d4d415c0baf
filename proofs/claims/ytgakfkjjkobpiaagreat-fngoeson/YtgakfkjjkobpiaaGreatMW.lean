/- Gathered texts. -/
import Derived.Test.YtgakfkjjkobpiaaGreatMV
import Derived.Test.YtgakfkjjkobpiaaGreatMM
set_option maxRecDepth 100000
set_option maxHeartbeats 8000000
namespace Go.Proofs.YtgakfkjjkobpiaaGreat
open Go.ChangeShapes Go.WideShapes Go.ChangeAt Go.RowKit
theorem Nq {AA:List (List Dd)}{b:Bd}{c:Nat}(_:AA.length<=3)(h:C6 AA b c=true)(hc:c<AA.length):Dx (Ae AA b) (c:Int)=true:=by
 unfold Dx Ae;rw[List.any_append,List.any_map];simp only[Bool.or_eq_true];left;rw[List.any_eq_true];exact⟨c,List.mem_filter.2 ⟨List.mem_range.2 hc,h⟩,by simp⟩
theorem MS {AA:List (List Dd)}{b:Bd}{c:Nat}(h:decide (0<(b.AH.getD c []).length)=true)(hc:c<AA.length):Dx (Ae AA b) (10+(c:Int))=true:=by
 unfold Dx Ae;rw[List.any_append];simp only[Bool.or_eq_true];right;rw[List.any_map,List.any_eq_true];refine⟨c,List.mem_filter.2 ⟨List.mem_range.2 hc,?_⟩,by simp⟩
 cases e:b.AH.getD c [] with
 |nil=>rw[e] at h;simp at h
 |cons x r=>rfl
theorem Ww {AA:List (List Dd)}{b:Bd}{s:Int}(h0:∀c:Nat,c<AA.length->s=(c:Int)->C6 AA b c=false)(h1:∀c:Nat,c<AA.length->s=10+(c:Int)->decide (0<(b.AH.getD c []).length)=false):Dx (Ae AA b) s=false:=by
 cases e:Dx (Ae AA b) s with
 |false=>rfl
 |true=>
  exfalso;unfold Dx Ae at e;rw[List.any_append,List.any_map,List.any_map] at e;simp only[Bool.or_eq_true,List.any_eq_true,List.mem_filter,List.mem_range,Function.comp,beq_iff_eq] at e;rcases e with ⟨c,⟨hc,q⟩,e⟩|⟨c,⟨hc,q⟩,e⟩
  . rw[h0 c hc e.symm] at q;cases q
  ·
   have:=h1 c hc e.symm
   cases en:b.AH.getD c [] with
   |nil=>rw[en] at q;simp at q
   |cons x r=>rw[en] at this;simp at this
theorem Ct.wide {w:World}{m m' M M':Nat}{v:BV}{AA:List (List Dd)}{b:Bd}(h:Ct w m M v AA b)(hm:m'<=m)(hM:M<=M'):Ct w m' M' v AA b:=by
 obtain⟨Vw,Vn,Vr,h1,h2,h3⟩:=h.ex;have up:∀v n,Zg v n m->Zg v n m':=fun v n q b o l c e hn=>Nat.le_trans hm (q b o l c e hn)
 exact⟨h.rd,⟨Vw,Vn,Vr,h1,h2,fun x hx=>⟨Nat.le_trans hm (h3 x hx).1,Nat.lt_of_lt_of_le (h3 x hx).2 hM⟩⟩,up _ _ h.hd.1,up _ _ h.hd.2.1,up _ _ h.hd.2.2⟩
theorem BA.all {w:World}{m:Nat}{v:BV}{nv rv wv:List Value}{bs N:Nat}{AA:List (List Dd)}{b:Bd}(h:BA w m v nv rv bs N AA b)(lw:Db w bs N v.W wv AA)(hm:m<=bs):Ek w m v nv rv wv AA b:=by
 have wl:∀o,FN wv.length o->∀k,(SG 52 RE v.W wv AA o).v.ownBlock=some k->bs<=k/\k<N:=fun o ho k hk=>⟨(lw.ll.Al.lt ho k hk).1,lw.lt o ho k hk⟩
 have cross:∀i,BN nv rv i->i≠.bd->∀o,FN wv.length o->(Ax 0 v nv rv b i).v.ownBlock=none\/(Ax 0 v nv rv b i).v.ownBlock≠(SG 52 RE v.W wv AA o).v.ownBlock:=fun i hi hb o ho=>by
  cases e:(Ax 0 v nv rv b i).v.ownBlock with
  |none=>exact .inl rfl
  |some k=>exact .inr (fun q=>by have:=h.out i hi hb k e;have:=wl o ho k q.symm;omega)
 have cross':∀o,FN wv.length o->∀i,BN nv rv i->i≠.bd->(SG 52 RE v.W wv AA o).v.ownBlock=none\/(SG 52 RE v.W wv AA o).v.ownBlock≠(Ax 0 v nv rv b i).v.ownBlock:=fun o ho i hi hb=>by
  cases e:(SG 52 RE v.W wv AA o).v.ownBlock with
  |none=>exact .inl rfl
  |some k=>exact .inr (fun q=>by have:=h.out i hi hb k q.symm;have:=wl o ho k e;omega)
 refine⟨⟨fun j hj=>?_,fun i j hi hj hij=>?_⟩,h.ln,h.lr,lw.ll.len⟩
 ·
  cases j with
  |b i=>exact h.Al.own i hj
  |wk=>exact DH (lw.ll.Al.own none trivial) hm
  |wd c=>exact DH (lw.ll.Al.own (some c) hj) hm
 ·
  cases i with
  |b i=>
   cases j with
   |b j=>exact h.Al.apart i j hi hj (fun e=>hij (by rw[e]))
   |wk=>exact cross i hi.1 hi.2 none trivial
   |wd c=>exact cross i hi.1 hi.2 (some c) hj
  |wk=>
   cases j with
   |b j=>exact cross' none trivial j hj.1 hj.2
   |wk=>exact absurd rfl hij
   |wd c=>exact lw.ll.Al.apart none (some c) trivial hj (by simp)
  |wd c=>
   cases j with
   |b j=>exact cross' (some c) hi j hj.1 hj.2
   |wk=>exact lw.ll.Al.apart (some c) none hi trivial (by simp)
   |wd d=>exact lw.ll.Al.apart (some c) (some d) hi hj (fun e=>hij (by have:=Option.some.inj e;rw[this]))
theorem DM (w:World)(v:BV)(AA:List (List Dd))(b:Bd)(s:Int)(h:CJ w v AA b)(hz:Cg AA b):
  Calls Tryz.prog 23 #[v.agg,.int .i64 s] w fun e w'=>∃bv':BV,e = .returned (.tuple #[bv'.agg,.bool (Gy AA b s)])/\Ct w' w.heap.size w'.heap.size bv' (FT AA b) (Em AA b s)/\AC w w':=by
 obtain⟨s0,hs0⟩:∃s0,s0=s:=⟨_,rfl⟩;have HS0:=Lib.hid hs0;clear hs0;have iV:=Lib.hid h;have CB:=fun (W:World) (kW:AC w W)=>DJ W v AA b (h.keep kW) hz
 obtain⟨aW,aP,aL,aN,aX,aS,aF,aR,cW,cP,cL,cN,cX,cS,cF,cR,rfl⟩:=h.shapes;clear h hz;obtain⟨w1,hw1⟩:∃W:World,W=(w.alloc (.cells #[.slice aW AA.length cW,.slice aP b.AM.length cP,.slice aL b.AQ.length cL,.slice aN b.AH.length cN,.slice aX b.AL.length cX,.slice aS b.sn.length cS,.slice aF b.fr.length cF,.slice aR b.rws.length cR] 30)).alloc (.cells #[AE,AE,AE,AE,AE,AE,AE,AE] 30):=⟨_,rfl⟩;have K1:AC w w1:=by rw[hw1];exact ((AC.refl w).alloc _).alloc _
 have s1:w.heap.size+1<w1.heap.size:=by rw[hw1,AD,AD];omega
 have hB1:w1.heap[w.heap.size]? = some (.cells #[.slice aW AA.length cW,.slice aP b.AM.length cP,.slice aL b.AQ.length cL,.slice aN b.AH.length cN,.slice aX b.AL.length cX,.slice aS b.sn.length cS,.slice aF b.fr.length cF,.slice aR b.rws.length cR] 30 (0,0)):=by rw[hw1];exact Ce ((AC.refl _).alloc _)
 have hR1:w1.heap[w.heap.size+1]? = some (.cells #[AE,AE,AE,AE,AE,AE,AE,AE] 30 (0,0)):=by rw[hw1,<-AD w (.cells #[.slice aW AA.length cW,.slice aP b.AM.length cP,.slice aL b.AQ.length cL,.slice aN b.AH.length cN,.slice aX b.AL.length cX,.slice aS b.sn.length cS,.slice aF b.fr.length cF,.slice aR b.rws.length cR] 30)];exact heap_alloc_new _ _
 go_enter Tryz.func23,Tryz.ntmps23
 go_upto_region 1 with fail
 rw[<-hw1];clear hw1;go_wp2_with (first|refine wpList_load_row rfl 30 _ rfl w.heap.size rfl 30 _ (0,0) _ hB1 Tryz.underlying30 rfl AF ?_|fail)
 refine (CB _ K1).mono ?_;rintro e w2 ⟨rfl,k2⟩;have K2:=K1.trans k2;have s2:=k2.size;have hB2:=(Below.block k2 w.heap.size (by omega)).trans hB1;have hR2:=(Below.block k2 (w.heap.size+1) (by omega)).trans hR1;clear CB hB1 hR1 k2;cases hb:Af AA b
 ·
  have HD:Hid (FT AA b=[]):=Lib.hid (by unfold FT;rw[hb];rfl);have HB:Hid (Em AA b s=PR):=Lib.hid (by unfold Em;rw[hb];rfl);have HT:Hid (Gy AA b s=false):=Lib.hid (by unfold Gy;rw[hb];rfl);have HG:=Lib.hid (AV w2 (w.heap.size+1) #[AE,AE,AE,AE,AE,AE,AE,AE]);have HZ:=Lib.hid (setRow_heap w2 (w.heap.size+1) _ #[AE,AE,AE,AE,AE,AE,AE,AE] _ _ hR2);have HK:=Lib.hid (K2.grown HG.out (fun q hq=>by have:=Option.some.inj hq;omega));clear K2 hB2;go_wp2_with (first|refine wpList_store_row rfl 30 _ _ rfl (w.heap.size+1) _ rfl rfl 30 _ hR2 AF rfl (by simp[Value.oneCell']) ?_|fail)
  refine bodyPost_ret (AZ (by rfl) _ _ (w.heap.size+1) _ _ (0,0) _ (.bool false) rfl HZ.out rfl Tryz.underlying30 rfl AF) rfl ?_;exact⟨Ts,by rw[HT.out],by rw[HD.out,HB.out];exact (IK _ _).free,HK.out⟩
 have pV:=Lib.hid (EF.of hb);have rR:Hid (AA.length<=3):=Lib.hid (As pV.out.work).1;have d3:=rR.out;go_wp2_with (first|refine wpList_load_row rfl 30 _ rfl w.heap.size rfl 30 _ (0,0) _ hB2 Tryz.underlying30 rfl AF ?_|fail)
 refine (KV w2 _ AA b (iV.out.keep K2) hb).mono ?_;rintro e w3 ⟨bv',nv,rv,wv,bs,N,rfl,OV,LW,fI,k3⟩;obtain⟨uW,uP,uL,uN,uX,uS,uF,uR,eW,eP,eL,eN,eX,eS,eF,eR,rfl⟩:=OV.rd0.shapes;have Xm:=Lib.hid OV;have rT:=Lib.hid LW;have s3:=k3.size;clear OV LW;obtain⟨w4,hw4⟩:∃W:World,W=w3.alloc (.cells #[.slice uW AA.length eW,.slice uP b.AM.length eP,.slice uL b.AQ.length eL,.slice uN b.AH.length eN,.slice uX b.AL.length eX,.slice uS b.sn.length eS,.slice uF b.fr.length eF,.slice uR b.rws.length eR] 30):=⟨_,rfl⟩;have k4:AC w3 w4:=by rw[hw4];exact (AC.refl w3).alloc _
 have hM4:w4.heap[w3.heap.size]? = some (.cells #[.slice uW AA.length eW,.slice uP b.AM.length eP,.slice uL b.AQ.length eL,.slice uN b.AH.length eN,.slice uX b.AL.length eX,.slice uS b.sn.length eS,.slice uF b.fr.length eF,.slice uR b.rws.length eR] 30 (0,0)):=by rw[hw4];exact heap_alloc_new _ _
 have y4:w3.heap.size<w4.heap.size:=by rw[hw4,AD];omega
 go_upto_region 4 with fail
 rw[<-hw4];clear hw4;go_wp2_with fail
 refine (JG w4).mono ?_;rintro e w5 ⟨rfl,hw5⟩;have k5:AC w4 w5:=by rw[hw5];exact (AC.refl w4).alloc _
 have hT5:w5.heap[w4.heap.size]? = some (.cells Mb 81 (0,0)):=by rw[hw5];exact heap_alloc_new _ _
 have y5:w4.heap.size<w5.heap.size:=by rw[hw5,AD];omega
 have K35:=Lib.hid (k4.trans k5);have K25:=k3.trans (k4.trans k5);have K05:=Lib.hid (K2.trans K25);have XB5:=Lib.hid ((Below.block K25 w.heap.size (by omega)).trans hB2);have rV:=Lib.hid ((Below.block K25 (w.heap.size+1) (by omega)).trans hR2);have rU:=Lib.hid ((Below.block k5 w3.heap.size (by omega)).trans hM4);have XT5:=Lib.hid hT5;clear hw5 hB2 hR2 hM4 hT5 k3 k4 k5 K25 K2 K1;go_wp2;go_loopw [8,9,18] (fun _ _ i wr=>∃k:Nat,k<=2/\i = .int .i64 k/\AC w5 wr/\(1<=k->∀cc:Nat,cc<AA.length->(s0=(cc:Int))->C6 AA b cc=false)/\(2<=k->∀cc:Nat,cc<AA.length->(s0=10+(cc:Int))->decide (0<(b.AH.getD cc []).length)=false)) (fun _ _ i _=>2-(intOf i).toNat)
 case atStart=>exact⟨0,Nat.zero_le _,rfl,AC.refl _,fun q=>absurd q (by omega),fun q=>absurd q (by omega)⟩
 case round=>
  obtain⟨k,hk,rfl,kr,hn0,hn1⟩:=hrel;have sr:=kr.size;have hBr:=(Below.block kr w.heap.size (by omega)).trans XB5.out;have hTr:=(Below.block kr w4.heap.size (by omega)).trans XT5.out;by_cases hlt:k<2
  ·
   have k01:k=0\/k=1:=by omega
   rcases k01 with rfl|rfl
   ·
    clear hn0 hn1;obtain⟨q0,q1,q2⟩:=(IQ hTr).1;obtain⟨wa,Y3⟩:∃W:World,W=(wr.alloc (.cells #[.int .i64 0,.nilFunc,.nilFunc] 81)).setRow wr.heap.size #[.int .i64 0,.func (.func 88) #[] #[],.func (.func 89) #[] #[]]:=⟨_,rfl⟩;have hA:(wr.alloc (.cells #[.int .i64 0,.nilFunc,.nilFunc] 81)).heap[wr.heap.size]? = some (.cells #[.int .i64 0,.nilFunc,.nilFunc] 81 (0,0)):=heap_alloc_new _ _;have g4:(wr.alloc (.cells #[.int .i64 0,.nilFunc,.nilFunc] 81)).grownBy wa (some wr.heap.size):=by rw[Y3];exact AV _ _ _
    have k4:AC wr wa:=((AC.refl wr).alloc _).grown g4 (fun q hq=>Nat.le_of_eq (Option.some.inj hq));have hQ4:wa.heap[wr.heap.size]? = some (.cells #[.int .i64 0,.func (.func 88) #[] #[],.func (.func 89) #[] #[]] 81 (0,0)):=by rw[Y3];exact setRow_heap _ _ _ _ _ _ hA
    have y4:wr.heap.size<wa.heap.size:=by have:=g4.size;rw[AD] at this;omega
    go_upto_region 7 with (first|refine wpList_store_row rfl 81 _ _ rfl wr.heap.size _ rfl rfl 81 _ hA IP rfl (by simp[Value.oneCell']) ?_|fail)
    rw[<-Y3];clear Y3 hA q0 q1 q2 g4;have bG:=kr.trans k4;have KA:=K05.out.trans bG;have hB4:=(Below.block k4 w.heap.size (by omega)).trans hBr;have z0:wa.cell? ⟨w.heap.size,0,none⟩=some (.slice aW AA.length cW):=by rw[cell_of_row wa _ 0 _ _ _ hB4];rfl
    have t0:wa.cell? ⟨wr.heap.size,0,none⟩=some (.int .i64 0):=by rw[cell_of_row wa _ 0 _ _ _ hQ4];rfl
    have t1:wa.cell? ⟨wr.heap.size,1,none⟩=some (.func (.func 88) #[] #[]):=by rw[cell_of_row wa _ 1 _ _ _ hQ4];rfl
    have hw1:IntKind.i64.wrap ((AA.length:Int))=(AA.length:Int):=by rw[IntKind.wrap_i64];omega
    have hw2:IntKind.i64.wrap ((AA.length:Int)-1)=(AA.length:Int)-1:=by rw[IntKind.wrap_i64];omega
    have s4:=k4.size;go_wp2_with fail
    refine (BF _ _ _ _).mono ?_;rintro e wa' ⟨rfl,WN⟩;rw[WN];clear WN;by_cases hin:∃cc:Nat,cc<AA.length/\s=(cc:Int)
    ·
     obtain⟨cc,hcc,hs⟩:=hin;have hI:CX s 0 ((AA.length:Int)-1)=true:=by unfold CX;simp;omega
     rw[hI];subst hs;have hws:IntKind.i64.wrap ((cc:Int)-0)=(cc:Int):=by rw[IntKind.wrap_i64];omega
     have hws2:IntKind.i64.wrap (cc:Int)=(cc:Int):=by rw[IntKind.wrap_i64];omega
     have z1:wa.cell? ⟨w.heap.size,1,none⟩=some (.slice aP b.AM.length cP):=by rw[cell_of_row wa _ 1 _ _ _ hB4];rfl
     have z2:wa.cell? ⟨w.heap.size,2,none⟩=some (.slice aL b.AQ.length cL):=by rw[cell_of_row wa _ 2 _ _ _ hB4];rfl
     have z3:wa.cell? ⟨w.heap.size,3,none⟩=some (.slice aN b.AH.length cN):=by rw[cell_of_row wa _ 3 _ _ _ hB4];rfl
     have z4:wa.cell? ⟨w.heap.size,4,none⟩=some (.slice aX b.AL.length cX):=by rw[cell_of_row wa _ 4 _ _ _ hB4];rfl
     have z5:wa.cell? ⟨w.heap.size,5,none⟩=some (.slice aS b.sn.length cS):=by rw[cell_of_row wa _ 5 _ _ _ hB4];rfl
     have z6:wa.cell? ⟨w.heap.size,6,none⟩=some (.slice aF b.fr.length cF):=by rw[cell_of_row wa _ 6 _ _ _ hB4];rfl
     have z7:wa.cell? ⟨w.heap.size,7,none⟩=some (.slice aR b.rws.length cR):=by rw[cell_of_row wa _ 7 _ _ _ hB4];rfl
     have CAN:=J7 wa _ AA b cc (iV.out.keep KA) hb hcc;clear hI;go_wp2_with fail
     refine CAN.mono ?_;rintro e wb ⟨rfl,kb⟩;have Tk:=bG.trans kb;have iP:=K35.out.trans Tk;have sb:=kb.size
     cases ht:C6 AA b cc with
     |false=>
      have HN:Hid (∀cc:Nat,cc<AA.length->(s0=(cc:Int))->C6 AA b cc=false):=Lib.hid (fun d hd e=>by
       have e2:(cc:Int)=(d:Int):=HS0.out.symm.trans e;obtain rfl:cc=d:=by omega
       exact ht)
      go_wp2;go_roundw;case rel=>exact⟨1,by omega,rfl,Tk,fun _=>HN.out,fun q=>absurd q (by omega)⟩
      case measure=>simp[intOf]
     |true=>
      have hQb:=(Below.block kb wr.heap.size y4).trans hQ4;have fG:=(Below.block Tk w3.heap.size (by omega)).trans rU.out;have hRb:=(Below.block Tk (w.heap.size+1) (by omega)).trans rV.out;have u0:wb.cell? ⟨wr.heap.size,0,none⟩=some (.int .i64 0):=by rw[cell_of_row wb _ 0 _ _ _ hQb];rfl
      have u2:wb.cell? ⟨wr.heap.size,2,none⟩=some (.func (.func 89) #[] #[]):=by rw[cell_of_row wb _ 2 _ _ _ hQb];rfl
      have s5b:=Tk.size;obtain⟨cu1,di⟩:=GM ht;have jJ:=Xg wb w2.heap.size ⟨.slice uW AA.length eW,.slice uP b.AM.length eP,.slice uL b.AQ.length eL,.slice uN b.AH.length eN,.slice uX b.AL.length eX,.slice uS b.sn.length eS,.slice uF b.fr.length eF,.slice uR b.rws.length eR⟩ nv rv bs N AA b 20 cc (Xm.out.keep iP) pV.out (by omega) (by omega) hcc (EN hb hcc).1 cu1 (fun q3=>by rcases di with q|q;omega;exact q);have HT:Hid (Gy AA b ((cc:Int))=true):=Lib.hid (by unfold Gy;rw[hb,Nq rR.out ht hcc];rfl);have HB:Hid (Em AA b ((cc:Int))=Aq AA (AB AA) b ((cc:Int))):=Lib.hid (by unfold Em EA;rw[if_pos hb,Nq rR.out ht hcc,if_pos rfl]);have HD:Hid (FT AA b=AA):=Lib.hid (by unfold FT;rw[if_pos hb]);go_wp2_with (first|refine wpList_load_row rfl 30 _ rfl w3.heap.size rfl 30 _ (0,0) _ fG Tryz.underlying30 rfl AF ?_|fail)
      refine jJ.mono ?_;rintro e wd ⟨rfl,nv6,rv6,V6,T6⟩;have wh:=Db.turn (v:=⟨.slice uW AA.length eW,.slice uP b.AM.length eP,.slice uL b.AQ.length eL,.slice uN b.AH.length eN,.slice uX b.AL.length eX,.slice uS b.sn.length eS,.slice uF b.fr.length eF,.slice uR b.rws.length eR⟩) (rT.out.keep iP) (Xm.out.keep iP) T6;have jW:=Lib.hid ((V6.all wh fI).free);have YM:=Lib.hid T6;clear V6 T6 wh jJ;have hM6:=(YM.out.block w3.heap.size (by omega) (fun q=>by have:=(Xm.out.blk _ q).2.1;omega)).trans fG;have hR6:=(YM.out.block (w.heap.size+1) (by omega) (fun q=>by have:=(Xm.out.blk _ q).1;omega)).trans hRb;have K6:AC w wd:=Below.trans (K05.out.trans Tk) (YM.out.low (show w.heap.size<=wb.heap.size by omega) (fun g hg=>by have:=(Xm.out.blk g hg).1;omega));have s6:=YM.out.size;clear fG hRb u0 u2 hQb;have HG:=Lib.hid (AV wd (w.heap.size+1) #[.slice uW AA.length eW,.slice uP b.AM.length eP,.slice uL b.AQ.length eL,.slice uN b.AH.length eN,.slice uX b.AL.length eX,.slice uS b.sn.length eS,.slice uF b.fr.length eF,.slice uR b.rws.length eR]);have HZ:=Lib.hid (setRow_heap wd (w.heap.size+1) _ #[.slice uW AA.length eW,.slice uP b.AM.length eP,.slice uL b.AQ.length eL,.slice uN b.AH.length eN,.slice uX b.AL.length eX,.slice uS b.sn.length eS,.slice uF b.fr.length eF,.slice uR b.rws.length eR] _ _ hR6);have HF:=Lib.hid (((jW.out).above (w':=wd.setRow (w.heap.size+1) #[.slice uW AA.length eW,.slice uP b.AM.length eP,.slice uL b.AQ.length eL,.slice uN b.AH.length eN,.slice uX b.AL.length eX,.slice uS b.sn.length eS,.slice uF b.fr.length eF,.slice uR b.rws.length eR]) (fun q h1 h2=>HG.out.block q h2 (fun e=>by have:=Option.some.inj e;omega)) HG.out.size).wide (show w.heap.size<=_ by omega) HG.out.size);have HKK:=Lib.hid ((K6).grown HG.out (fun q hq=>by have:=Option.some.inj hq;omega));go_wp2_with (first|refine wpList_load_row rfl 30 _ rfl w3.heap.size rfl 30 _ (0,0) _ hM6 Tryz.underlying30 rfl AF ?_|refine wpList_store_row rfl 30 _ _ rfl (w.heap.size+1) _ rfl rfl 30 _ hR6 AF rfl (by simp[Value.oneCell']) ?_|fail)
      refine bodyPost_ret (AZ (by rfl) _ _ (w.heap.size+1) _ _ (0,0) _ (.bool true) rfl HZ.out rfl Tryz.underlying30 rfl AF) rfl ?_;exact⟨⟨.slice uW AA.length eW,.slice uP b.AM.length eP,.slice uL b.AQ.length eL,.slice uN b.AH.length eN,.slice uX b.AL.length eX,.slice uS b.sn.length eS,.slice uF b.fr.length eF,.slice uR b.rws.length eR⟩,by rw[HT.out],by rw[HD.out,HB.out];exact HF.out,HKK.out⟩
    ·
     have hI:CX s 0 ((AA.length:Int)-1)=false:=by
      unfold CX;rw[decide_eq_false];rintro⟨h1,h2⟩;exact hin ⟨(s-0).toNat,by omega,by omega⟩
     rw[hI];have HN:Hid (∀cc:Nat,cc<AA.length->(s0=(cc:Int))->C6 AA b cc=false):=Lib.hid (fun d hd e=>(hin ⟨d,hd,HS0.out.symm.trans e⟩).elim);clear hI hin;go_wp2;go_roundw;case rel=>exact⟨1,by omega,rfl,bG,fun _=>HN.out,fun q=>absurd q (by omega)⟩
     case measure=>simp[intOf]
   ·
    clear hn1;obtain⟨q0,q1,q2⟩:=(IQ hTr).2;obtain⟨wa,Y3⟩:∃W:World,W=(wr.alloc (.cells #[.int .i64 0,.nilFunc,.nilFunc] 81)).setRow wr.heap.size #[.int .i64 10,.func (.func 90) #[] #[],.func (.func 91) #[] #[]]:=⟨_,rfl⟩;have hA:(wr.alloc (.cells #[.int .i64 0,.nilFunc,.nilFunc] 81)).heap[wr.heap.size]? = some (.cells #[.int .i64 0,.nilFunc,.nilFunc] 81 (0,0)):=heap_alloc_new _ _;have g4:(wr.alloc (.cells #[.int .i64 0,.nilFunc,.nilFunc] 81)).grownBy wa (some wr.heap.size):=by rw[Y3];exact AV _ _ _
    have k4:AC wr wa:=((AC.refl wr).alloc _).grown g4 (fun q hq=>Nat.le_of_eq (Option.some.inj hq));have hQ4:wa.heap[wr.heap.size]? = some (.cells #[.int .i64 10,.func (.func 90) #[] #[],.func (.func 91) #[] #[]] 81 (0,0)):=by rw[Y3];exact setRow_heap _ _ _ _ _ _ hA
    have y4:wr.heap.size<wa.heap.size:=by have:=g4.size;rw[AD] at this;omega
    go_upto_region 7 with (first|refine wpList_store_row rfl 81 _ _ rfl wr.heap.size _ rfl rfl 81 _ hA IP rfl (by simp[Value.oneCell']) ?_|fail)
    rw[<-Y3];clear Y3 hA q0 q1 q2 g4;have bG:=kr.trans k4;have KA:=K05.out.trans bG;have hB4:=(Below.block k4 w.heap.size (by omega)).trans hBr;have z0:wa.cell? ⟨w.heap.size,0,none⟩=some (.slice aW AA.length cW):=by rw[cell_of_row wa _ 0 _ _ _ hB4];rfl
    have t0:wa.cell? ⟨wr.heap.size,0,none⟩=some (.int .i64 10):=by rw[cell_of_row wa _ 0 _ _ _ hQ4];rfl
    have t1:wa.cell? ⟨wr.heap.size,1,none⟩=some (.func (.func 90) #[] #[]):=by rw[cell_of_row wa _ 1 _ _ _ hQ4];rfl
    have hw1:IntKind.i64.wrap (10+(AA.length:Int))=10+(AA.length:Int):=by rw[IntKind.wrap_i64];omega
    have hw2:IntKind.i64.wrap (10+(AA.length:Int)-1)=10+(AA.length:Int)-1:=by rw[IntKind.wrap_i64];omega
    have s4:=k4.size;go_wp2_with fail
    refine (BF _ _ _ _).mono ?_;rintro e wa' ⟨rfl,WN⟩;rw[WN];clear WN;by_cases hin:∃cc:Nat,cc<AA.length/\s=10+(cc:Int)
    ·
     obtain⟨cc,hcc,hs⟩:=hin;have hI:CX s 10 (10+(AA.length:Int)-1)=true:=by unfold CX;simp;omega
     rw[hI];subst hs;have hws:IntKind.i64.wrap (10+(cc:Int)-10)=(cc:Int):=by rw[IntKind.wrap_i64];omega
     have z1:wa.cell? ⟨w.heap.size,1,none⟩=some (.slice aP b.AM.length cP):=by rw[cell_of_row wa _ 1 _ _ _ hB4];rfl
     have z2:wa.cell? ⟨w.heap.size,2,none⟩=some (.slice aL b.AQ.length cL):=by rw[cell_of_row wa _ 2 _ _ _ hB4];rfl
     have z3:wa.cell? ⟨w.heap.size,3,none⟩=some (.slice aN b.AH.length cN):=by rw[cell_of_row wa _ 3 _ _ _ hB4];rfl
     have z4:wa.cell? ⟨w.heap.size,4,none⟩=some (.slice aX b.AL.length cX):=by rw[cell_of_row wa _ 4 _ _ _ hB4];rfl
     have z5:wa.cell? ⟨w.heap.size,5,none⟩=some (.slice aS b.sn.length cS):=by rw[cell_of_row wa _ 5 _ _ _ hB4];rfl
     have z6:wa.cell? ⟨w.heap.size,6,none⟩=some (.slice aF b.fr.length cF):=by rw[cell_of_row wa _ 6 _ _ _ hB4];rfl
     have z7:wa.cell? ⟨w.heap.size,7,none⟩=some (.slice aR b.rws.length cR):=by rw[cell_of_row wa _ 7 _ _ _ hB4];rfl
     have CAN:=GU wa _ AA b cc (iV.out.keep KA) (by rw[pV.out.AH];exact hcc);clear hI;go_wp2_with fail
     refine CAN.mono ?_;rintro e wb ⟨rfl,kb⟩;have Tk:=bG.trans kb;have iP:=K35.out.trans Tk;have sb:=kb.size
     cases ht:decide (0<(b.AH.getD cc []).length) with
     |false=>
      have HN:Hid (∀cc:Nat,cc<AA.length->(s0=10+(cc:Int))->decide (0<(b.AH.getD cc []).length)=false):=Lib.hid (fun d hd e=>by
       have e2:10+(cc:Int)=10+(d:Int):=HS0.out.symm.trans e;obtain rfl:cc=d:=by omega
       exact ht)
      go_wp2;go_roundw;case rel=>exact⟨2,by omega,rfl,Tk,fun _=>hn0 (by omega),fun _=>HN.out⟩
      case measure=>simp[intOf]
     |true=>
      have hQb:=(Below.block kb wr.heap.size y4).trans hQ4;have fG:=(Below.block Tk w3.heap.size (by omega)).trans rU.out;have hRb:=(Below.block Tk (w.heap.size+1) (by omega)).trans rV.out;have u0:wb.cell? ⟨wr.heap.size,0,none⟩=some (.int .i64 10):=by rw[cell_of_row wb _ 0 _ _ _ hQb];rfl
      have u2:wb.cell? ⟨wr.heap.size,2,none⟩=some (.func (.func 91) #[] #[]):=by rw[cell_of_row wb _ 2 _ _ _ hQb];rfl
      have s5b:=Tk.size
      obtain⟨xx,rr,mD⟩:∃xx rr,b.AH.getD cc []=xx::rr:=by
       cases e:b.AH.getD cc [] with
       |nil=>rw[e] at ht;simp at ht
       |cons xx rr=>exact⟨xx,rr,rfl⟩
      have hxx:=(((RB.any hb).nl cc).2 xx (by rw[mD];simp)).1;have jJ:=Tv wb w2.heap.size ⟨.slice uW AA.length eW,.slice uP b.AM.length eP,.slice uL b.AQ.length eL,.slice uN b.AH.length eN,.slice uX b.AL.length eX,.slice uS b.sn.length eS,.slice uF b.fr.length eF,.slice uR b.rws.length eR⟩ nv rv wv bs N AA b 20 cc xx rr (Xm.out.keep iP) (rT.out.keep iP) fI pV.out (by omega) (by omega) hcc mD hxx;have HT:Hid (Gy AA b (10+(cc:Int))=true):=Lib.hid (by unfold Gy;rw[hb,MS ht hcc];rfl);have HB:Hid (Em AA b (10+(cc:Int))=Bs b cc):=Lib.hid (by unfold Em EA;rw[if_pos hb,MS ht hcc,if_pos rfl,Lm]);have HD:Hid (FT AA b=AA):=Lib.hid (by unfold FT;rw[if_pos hb]);go_wp2_with (first|refine wpList_load_row rfl 30 _ rfl w3.heap.size rfl 30 _ (0,0) _ fG Tryz.underlying30 rfl AF ?_|fail)
      refine jJ.mono ?_;rintro e wd ⟨rfl,jW,F6,T6⟩;replace jW:=Lib.hid jW;have YM:=Lib.hid T6;clear T6 jJ;have hM6:=(YM.out.block w3.heap.size (by omega) (fun q=>by have:=(Xm.out.blk _ q).2.1;omega)).trans fG;have hR6:=(YM.out.block (w.heap.size+1) (by omega) (fun q=>by have:=(Xm.out.blk _ q).1;omega)).trans hRb;have K6:AC w wd:=Below.trans (K05.out.trans Tk) (YM.out.low (show w.heap.size<=wb.heap.size by omega) (fun g hg=>by have:=(Xm.out.blk g hg).1;omega));have s6:=YM.out.size;clear fG hRb u0 u2 hQb;have HG:=Lib.hid (AV wd (w.heap.size+1) #[.slice uW AA.length eW,.slice uP b.AM.length eP,.slice uL b.AQ.length eL,.slice uN b.AH.length eN,.slice uX b.AL.length eX,.slice uS b.sn.length eS,.slice uF b.fr.length eF,.slice uR b.rws.length eR]);have HZ:=Lib.hid (setRow_heap wd (w.heap.size+1) _ #[.slice uW AA.length eW,.slice uP b.AM.length eP,.slice uL b.AQ.length eL,.slice uN b.AH.length eN,.slice uX b.AL.length eX,.slice uS b.sn.length eS,.slice uF b.fr.length eF,.slice uR b.rws.length eR] _ _ hR6);have HF:=Lib.hid (((jW.out).above (w':=wd.setRow (w.heap.size+1) #[.slice uW AA.length eW,.slice uP b.AM.length eP,.slice uL b.AQ.length eL,.slice uN b.AH.length eN,.slice uX b.AL.length eX,.slice uS b.sn.length eS,.slice uF b.fr.length eF,.slice uR b.rws.length eR]) (fun q h1 h2=>HG.out.block q h2 (fun e=>by have:=Option.some.inj e;omega)) HG.out.size).wide (show w.heap.size<=_ by omega) HG.out.size);have HKK:=Lib.hid ((K6).grown HG.out (fun q hq=>by have:=Option.some.inj hq;omega));go_wp2_with (first|refine wpList_load_row rfl 30 _ rfl w3.heap.size rfl 30 _ (0,0) _ hM6 Tryz.underlying30 rfl AF ?_|refine wpList_store_row rfl 30 _ _ rfl (w.heap.size+1) _ rfl rfl 30 _ hR6 AF rfl (by simp[Value.oneCell']) ?_|fail)
      refine bodyPost_ret (AZ (by rfl) _ _ (w.heap.size+1) _ _ (0,0) _ (.bool true) rfl HZ.out rfl Tryz.underlying30 rfl AF) rfl ?_;exact⟨⟨.slice uW AA.length eW,.slice uP b.AM.length eP,.slice uL b.AQ.length eL,.slice uN b.AH.length eN,.slice uX b.AL.length eX,.slice uS b.sn.length eS,.slice uF b.fr.length eF,.slice uR b.rws.length eR⟩,by rw[HT.out],by rw[HD.out,HB.out];exact HF.out,HKK.out⟩
    ·
     have hI:CX s 10 (10+(AA.length:Int)-1)=false:=by
      unfold CX;rw[decide_eq_false];rintro⟨h1,h2⟩;exact hin ⟨(s-10).toNat,by omega,by omega⟩
     rw[hI];have HN:Hid (∀cc:Nat,cc<AA.length->(s0=10+(cc:Int))->decide (0<(b.AH.getD cc []).length)=false):=Lib.hid (fun d hd e=>(hin ⟨d,hd,HS0.out.symm.trans e⟩).elim);clear hI hin;go_wp2;go_roundw;case rel=>exact⟨2,by omega,rfl,bG,fun _=>hn0 (by omega),fun _=>HN.out⟩
     case measure=>simp[intOf]
  ·
   obtain rfl:k=2:=by omega
   have hno:=Ww (hn0 (by omega)) (hn1 (by omega));rw[HS0.out] at hno;have HT:Hid (Gy AA b s=false):=Lib.hid (by unfold Gy;rw[hno];simp);have HB:Hid (Em AA b s=b):=Lib.hid (by unfold Em EA;rw[if_pos hb,hno];rfl);have HD:Hid (FT AA b=AA):=Lib.hid (by unfold FT;rw[if_pos hb]);have ku:=(Below.block kr w3.heap.size (by omega)).trans rU.out;have hRr:=(Below.block kr (w.heap.size+1) (by omega)).trans rV.out;have zh:=Lib.hid (((Xm.out.keep (K35.out.trans kr)).all (rT.out.keep (K35.out.trans kr)) fI).free);have Kr:=K05.out.trans kr;clear hno hn0 hn1 hBr hTr hlt hk;have HG:=Lib.hid (AV wr (w.heap.size+1) #[.slice uW AA.length eW,.slice uP b.AM.length eP,.slice uL b.AQ.length eL,.slice uN b.AH.length eN,.slice uX b.AL.length eX,.slice uS b.sn.length eS,.slice uF b.fr.length eF,.slice uR b.rws.length eR]);have HZ:=Lib.hid (setRow_heap wr (w.heap.size+1) _ #[.slice uW AA.length eW,.slice uP b.AM.length eP,.slice uL b.AQ.length eL,.slice uN b.AH.length eN,.slice uX b.AL.length eX,.slice uS b.sn.length eS,.slice uF b.fr.length eF,.slice uR b.rws.length eR] _ _ hRr);have HF:=Lib.hid (((zh.out).above (w':=wr.setRow (w.heap.size+1) #[.slice uW AA.length eW,.slice uP b.AM.length eP,.slice uL b.AQ.length eL,.slice uN b.AH.length eN,.slice uX b.AL.length eX,.slice uS b.sn.length eS,.slice uF b.fr.length eF,.slice uR b.rws.length eR]) (fun q h1 h2=>HG.out.block q h2 (fun e=>by have:=Option.some.inj e;omega)) HG.out.size).wide (show w.heap.size<=_ by omega) HG.out.size);have HKK:=Lib.hid ((Kr).grown HG.out (fun q hq=>by have:=Option.some.inj hq;omega));go_wp2_with (first|refine wpList_load_row rfl 30 _ rfl w3.heap.size rfl 30 _ (0,0) _ ku Tryz.underlying30 rfl AF ?_|refine wpList_store_row rfl 30 _ _ rfl (w.heap.size+1) _ rfl rfl 30 _ hRr AF rfl (by simp[Value.oneCell']) ?_|fail)
   refine bodyPost_ret (AZ (by rfl) _ _ (w.heap.size+1) _ _ (0,0) _ (.bool false) rfl HZ.out rfl Tryz.underlying30 rfl AF) rfl ?_;exact⟨⟨.slice uW AA.length eW,.slice uP b.AM.length eP,.slice uL b.AQ.length eL,.slice uN b.AH.length eN,.slice uX b.AL.length eX,.slice uS b.sn.length eS,.slice uF b.fr.length eF,.slice uR b.rws.length eR⟩,by rw[HT.out],by rw[HD.out,HB.out];exact HF.out,HKK.out⟩
theorem Te {AA:List (List Dd)}{b:Bd}{k j:Nat}(h:U6 AA b k j=true):I3 AA b k (j+1)=I3 AA b k j++[uo k+(j:Int)]:=by
 unfold I3;rw[List.range_succ,List.filter_append,List.map_append];simp[h]
theorem Qq {AA:List (List Dd)}{b:Bd}{k j:Nat}(h:U6 AA b k j=false):I3 AA b k (j+1)=I3 AA b k j:=by
 unfold I3;rw[List.range_succ,List.filter_append,List.map_append];simp[h]
theorem PG (AA:List (List Dd))(b:Bd)(k j:Nat):(I3 AA b k j).length<=j:=by
 unfold I3;rw[List.length_map];exact Nat.le_trans (List.length_filter_le _ _) (by simp)
theorem PE (AA:List (List Dd))(b:Bd)(n:Nat):∀k:Nat,(Iz AA b n k).length<=k*n
 | 0=>by simp[Iz]
 |k+1=>by
  show (Iz AA b n k++I3 AA b k n).length<=_;rw[List.length_append];have:=PE AA b n k;have:=PG AA b k n;rw[Nat.succ_mul];omega
theorem ZL (AA:List (List Dd))(b:Bd):Iz AA b AA.length 2=Ae AA b:=by
 show ([]++I3 AA b 0 AA.length)++I3 AA b 1 AA.length=Ae AA b;rw[List.nil_append];unfold Ae I3
 congr 1
 ·
  have e:∀c:Nat,uo 0+(c:Int)=(c:Int):=fun c=>by show (0:Int)+_=_;omega
  simp only[e];rfl
 ·
  have e:(fun c=>!(b.AH.getD c []).isEmpty)=U6 AA b 1:=by
   funext c;show _=decide (0<(b.AH.getD c []).length);cases b.AH.getD c []<;>rfl
  rw[e];rfl
theorem GD (w:World)(v:BV)(AA:List (List Dd))(b:Bd)(h:CJ w v AA b)(hz:Cg AA b):
  Calls Tryz.prog 24 #[v.agg] w fun e w'=>∃v',e = .returned v'/\M9 w' w.heap.size v' (Dz AA b)/\AC w w':=by
 have CB:=fun (W:World) (kW:AC w W)=>DJ W v AA b (h.keep kW) hz
 have CC:=fun (k:Nat) (W:World) (kW:AC w W) (hb:Af AA b=true) (c:Nat) (hc:c<AA.length)=>Qr k W v AA b c (h.keep kW) hb hc
 have HP:Hid (Dz AA b=if Af AA b=true then Ae AA b else []):=Lib.hid rfl;obtain⟨i0,hi,hz0,hz1,hz2⟩:=info_parts Tryz.FL;obtain⟨aW,aP,aL,aN,aX,aS,aF,aR,cW,cP,cL,cN,cX,cS,cF,cR,rfl⟩:=h.shapes;clear h hz;obtain⟨w0,hw0⟩:∃W:World,W=w.alloc (.cells #[.slice aW AA.length cW,.slice aP b.AM.length cP,.slice aL b.AQ.length cL,.slice aN b.AH.length cN,.slice aX b.AL.length cX,.slice aS b.sn.length cS,.slice aF b.fr.length cF,.slice aR b.rws.length cR] 30):=⟨_,rfl⟩;have K0:AC w w0:=by rw[hw0];exact (AC.refl w).alloc _
 have hB0:w0.heap[w.heap.size]? = some (.cells #[.slice aW AA.length cW,.slice aP b.AM.length cP,.slice aL b.AQ.length cL,.slice aN b.AH.length cN,.slice aX b.AL.length cX,.slice aS b.sn.length cS,.slice aF b.fr.length cF,.slice aR b.rws.length cR] 30 (0,0)):=by rw[hw0];exact heap_alloc_new _ _
 have y0:w.heap.size<w0.heap.size:=by rw[hw0,AD];omega
 have O1:A8 (w0.alloc (.cells #[] 2)) w0.heap.size (.slice (some ⟨w0.heap.size,0,none⟩) 0 0) []:=World.ownsRow_lit w0 #[] 0 (Nat.le_refl _) (by decide) rfl;go_enter Tryz.func24,Tryz.ntmps24
 go_upto_region 1 with fail
 rw[<-hw0];clear hw0;go_upto_region 2 with fail
 obtain⟨w1,hw1⟩:∃W:World,W=w0.alloc (.cells #[] 2):=⟨_,rfl⟩;have k1:AC w0 w1:=by rw[hw1];exact (AC.refl w0).alloc _
 have y1:w0.heap.size<w1.heap.size:=by rw[hw1,AD];omega
 rw[<-hw1] at O1 ⊢;clear hw1;have hB1:=(Below.block k1 w.heap.size y0).trans hB0;go_wp2_with (first|refine wpList_load_row rfl 30 _ rfl w.heap.size rfl 30 _ (0,0) _ hB1 Tryz.underlying30 rfl AF ?_|fail)
 refine (CB _ (K0.trans k1)).mono ?_;rintro e w2 ⟨rfl,k2⟩;have O2:=O1.keep k2;have K2:=(K0.trans k1).trans k2;have s1:w0.heap.size<w1.heap.size:=y1;have s2:=k2.size;cases hb:Af AA b
 ·
  have HE:Hid (Dz AA b=[]):=Lib.hid (by rw[HP.out,hb];rfl);go_wp2;go_ret;exact⟨_,rfl,by rw[HE.out];exact (O2.BE (by omega)).row,K2⟩
 have HE:Hid (Dz AA b=Iz AA b AA.length 2):=Lib.hid (by rw[HP.out,hb,ZL];rfl);have hd3:AA.length<=3:=(As (EF.of hb).work).1;have hB2:=(Below.block k2 w.heap.size (by omega)).trans hB1;clear CB HP hB0 hB1 k1 k2 O1 K0;go_wp2_with fail
 refine (JG w2).mono ?_;rintro e w3 ⟨rfl,hw3⟩;have k3:AC w2 w3:=by rw[hw3];exact (AC.refl w2).alloc _
 have hT3:w3.heap[w2.heap.size]? = some (.cells Mb 81 (0,0)):=by rw[hw3];exact heap_alloc_new _ _
 have y3:w2.heap.size<w3.heap.size:=by rw[hw3,AD];omega
 have O3:=O2.keep k3;have K3:=K2.trans k3;have hB3:=(Below.block k3 w.heap.size (by omega)).trans hB2;clear hw3 O2 K2 hB2 k3;go_wp2;go_loopw [3,5,6,14] (fun v0 _ _ i wr=>∃(k:Nat) (v:Value),v=v0/\k<=2/\i = .int .i64 k/\A8 wr w0.heap.size v (Iz AA b AA.length k)/\AC w wr/\wr.heap[w.heap.size]? = some (.cells #[.slice aW AA.length cW,.slice aP b.AM.length cP,.slice aL b.AQ.length cL,.slice aN b.AH.length cN,.slice aX b.AL.length cX,.slice aS b.sn.length cS,.slice aF b.fr.length cF,.slice aR b.rws.length cR] 30 (0,0))/\wr.heap[w2.heap.size]? = some (.cells Mb 81 (0,0))/\w3.heap.size<=wr.heap.size/\Hid (∀q,v.ownBlock=some q->q≠w2.heap.size)) (fun _ _ _ i _=>2-(intOf i).toNat)
 case atStart=>exact⟨0,_,rfl,Nat.zero_le _,rfl,O3,K3,hB3,hT3,Nat.le_refl _,Lib.hid (fun q hq=>by have e:w0.heap.size=q:=Option.some.inj hq;omega)⟩
 case round=>
  obtain⟨k,v,rfl,hk,rfl,ho,hK,hB,hT,hS,hO⟩:=hrel;clear O3 K3 hB3 hT3;by_cases hlt:k<2
  ·
   have k01:k=0\/k=1:=by omega
   rcases k01 with rfl|rfl
   ·
    obtain⟨q0,q1,q2⟩:=(IQ hT).1;obtain⟨w4,hw4⟩:∃W:World,W=(wr.alloc (.cells #[.int .i64 0,.nilFunc,.nilFunc] 81)).setRow wr.heap.size #[.int .i64 ((0:Int)),.func (.func (88)) #[] #[],.func (.func (89)) #[] #[]]:=⟨_,rfl⟩;have hA:(wr.alloc (.cells #[.int .i64 0,.nilFunc,.nilFunc] 81)).heap[wr.heap.size]? = some (.cells #[.int .i64 0,.nilFunc,.nilFunc] 81 (0,0)):=heap_alloc_new _ _;have g4:(wr.alloc (.cells #[.int .i64 0,.nilFunc,.nilFunc] 81)).grownBy w4 (some wr.heap.size):=by rw[hw4];exact AV _ _ _
    have k4:AC wr w4:=((AC.refl wr).alloc _).grown g4 (fun q hq=>Nat.le_of_eq (Option.some.inj hq));have hQ4:w4.heap[wr.heap.size]? = some (.cells #[.int .i64 ((0:Int)),.func (.func (88)) #[] #[],.func (.func (89)) #[] #[]] 81 (0,0)):=by rw[hw4];exact setRow_heap _ _ _ _ _ _ hA
    have y4:wr.heap.size<w4.heap.size:=by have:=g4.size;rw[AD] at this;omega
    go_upto_region 7 with (first|refine wpList_store_row rfl 81 _ _ rfl wr.heap.size _ rfl rfl 81 _ hA IP rfl (by simp[Value.oneCell']) ?_|fail)
    rw[<-hw4];clear hw4 hA q0 q1 q2 g4;have hB4:=(Below.block k4 w.heap.size (by omega)).trans hB;have hT4:=(Below.block k4 w2.heap.size (by omega)).trans hT;have o4:=ho.keep k4;have hO4:Hid (∀q,v.ownBlock=some q->q≠wr.heap.size/\q≠w2.heap.size):=Lib.hid (fun q hq=>⟨by have:=(World.ownsRow.lt ho q hq).2;omega,hO.out q hq⟩);have K4:=hK.trans k4;have CK:=fun (W:World) (kW:AC w W) (c:Nat) (hc:c<AA.length)=>CC 0 W kW hb c hc
    have f0:w4.cell? ⟨w.heap.size,0,none⟩=some (.slice aW AA.length cW):=by rw[cell_of_row w4 _ 0 _ _ _ hB4];rfl
    have s4:=k4.size;have hla:=PE AA b AA.length 0;have HS:Hid (Iz AA b AA.length (1)=Iz AA b AA.length 0++I3 AA b 0 AA.length):=Lib.hid rfl;have HX:Hid (∀j,U6 AA b 0 j=true->I3 AA b 0 (j+1)=I3 AA b 0 j++[(0:Int)+(j:Int)]):=Lib.hid (fun j h=>Te h);have HY:Hid (∀j,U6 AA b 0 j=false->I3 AA b 0 (j+1)=I3 AA b 0 j):=Lib.hid (fun j h=>Qq h);have HL:Hid (∀j,(I3 AA b 0 j).length<=j):=Lib.hid (fun j=>PG AA b 0 j);have OL:A8 w4 w0.heap.size v (Iz AA b AA.length 0++I3 AA b 0 0):=by rw[show I3 AA b 0 0=[] from rfl,List.append_nil];exact o4
    generalize Iz AA b AA.length 0=LA at *;generalize hst:I3 AA b 0=LK at *;generalize U6 AA b 0=TK at *;clear hst o4 ho hK hB hT k4 hO;generalize wr.heap.size=Q at *;go_wp2;clear f0;go_loopw [3,6,21] (fun v0 _ i wr'=>∃(j:Nat) (v:Value),v=v0/\j<=AA.length/\i = .int .i64 j/\A8 wr' w0.heap.size v (LA++LK j)/\AC w wr'/\wr'.heap[w.heap.size]? = some (.cells #[.slice aW AA.length cW,.slice aP b.AM.length cP,.slice aL b.AQ.length cL,.slice aN b.AH.length cN,.slice aX b.AL.length cX,.slice aS b.sn.length cS,.slice aF b.fr.length cF,.slice aR b.rws.length cR] 30 (0,0))/\wr'.heap[Q]? = some (.cells #[.int .i64 ((0:Int)),.func (.func (88)) #[] #[],.func (.func (89)) #[] #[]] 81 (0,0))/\wr'.heap[w2.heap.size]? = some (.cells Mb 81 (0,0))/\w4.heap.size<=wr'.heap.size/\Hid (∀q,v.ownBlock=some q->q≠Q/\q≠w2.heap.size)) (fun _ _ i _=>AA.length-(intOf i).toNat)
    case atStart=>exact⟨0,_,rfl,Nat.zero_le _,rfl,OL,K4,hB4,hQ4,hT4,Nat.le_refl _,hO4⟩
    case round=>
     clear OL;obtain⟨j,v',rfl,hj,rfl,oj,Kj,fE,lH,hTj,sj,WI⟩:=hrel;by_cases hjl:j<AA.length
     ·
      have j1:(0:Int)<=(j:Int):=Int.natCast_nonneg _;have j2:(j:Int)<(AA.length:Int):=by omega
      have t1:wr.cell? ⟨Q,1,none⟩=some (.func (.func 88) #[] #[]):=by rw[cell_of_row _ _ 1 _ _ _ lH];rfl
      go_wp2_with (first|refine wpList_load_row rfl 30 _ rfl w.heap.size rfl 30 _ (0,0) _ fE Tryz.underlying30 rfl AF ?_|fail)
      refine (CK _ Kj j hjl).mono ?_;rintro e w5 ⟨rfl,k5⟩;have o5:=oj.keep k5;have K5:=Kj.trans k5;have s5:=k5.size;have hB5:=(Below.block k5 w.heap.size (by omega)).trans fE;have hQ5:=(Below.block k5 Q (by omega)).trans lH;have hT5:=(Below.block k5 w2.heap.size (by omega)).trans hTj;have t0:w5.cell? ⟨Q,0,none⟩=some (.int .i64 0):=by rw[cell_of_row _ _ 0 _ _ _ hQ5];rfl
      have hll:=HL.out j;cases hc:TK j
      ·
       have HM:Hid (LK (j+1)=LK j):=Lib.hid (HY.out j hc);go_wp2;go_roundw;case rel=>exact⟨j+1,_,rfl,by omega,by go_num,by rw[HM.out];exact o5,K5,hB5,hQ5,hT5,by omega,WI⟩
       case measure=>simp[intOf];omega
      ·
       have HM:Hid (LA++LK (j+1)=(LA++LK j)++[(j:Int)]):=Lib.hid (by rw[HX.out j hc,List.append_assoc];simp);have hll2:(LA++LK j).length<=20:=by rw[List.length_append];omega
       have jw:IntKind.i64.wrap ((0:Int)+(j:Int))=(0:Int)+(j:Int):=by rw[IntKind.wrap_i64];omega
       generalize LA++LK j=LL at *;go_wp2_with (at_builtin;refine wpList_append_own_at _ rfl _ _ 26 rfl w0.heap.size 2 i0 (.int .i64 0) 1 8 Tryz.underlying26 hi hz0 hz1 hz2 rfl (by decide) _ _ _ rfl (World.ownsRow.alloc o5 _) ⟨_,0,none⟩ 1 1 [.int .i64 ((j:Int))] rfl rfl ?c1 ?c2 ?c3 ?c4 ?c5 ?_)
       case c1=>
        intro j u hj
        match j,hj with
        | 0,hj=>simp at hj;subst hj;simp[Addr.add]
       case c2=>intro u hu;simp at hu;subst hu;rfl
       case c3=>unfold maxLen;omega
       case c4=>omega
       case c5=>simp;omega
       intro v7 w6 hown' hgrow _ hblk;have hK6:AC w w6:=(K5.alloc _).grown hgrow (fun q hq=>by have:=o5.ge q hq;omega);have st:=fun q (hq:q<w5.heap.size) (hne:∀z,v'.ownBlock=some z->z≠q)=>(hgrow.block q (by rw[AD];omega) (fun e=>hne q e.symm rfl)).trans (Below.block ((AC.refl w5).alloc _) q hq)
       have hB6:=(st w.heap.size (by omega) (fun z hz=>by have:=o5.ge z hz;omega)).trans hB5;have hQ6:=(st Q (by omega) (fun z hz=>(WI.out z hz).1)).trans hQ5;have hT6:=(st w2.heap.size (by omega) (fun z hz=>(WI.out z hz).2)).trans hT5;have s6:=hgrow.size;rw[AD] at s6
       have hO6:Hid (∀q,v7.ownBlock=some q->q≠Q/\q≠w2.heap.size):=Lib.hid (fun q hq=>by
        rcases hblk with e|e
        . exact WI.out q (by rw[<-e];exact hq)
        . rw[e] at hq;have:=Option.some.inj hq;omega)
       clear hgrow hblk st;go_wp2;go_roundw;case rel=>exact⟨j+1,_,rfl,by omega,by go_num,by rw[HM.out];exact Dp hown',hK6,hB6,hQ6,hT6,by omega,hO6⟩
       case measure=>simp[intOf];omega
     ·
      obtain rfl:j=AA.length:=by omega
      go_wp2;go_roundw;case rel=>exact⟨1,_,rfl,by omega,by go_num,by rw[HS.out];exact oj,Kj,fE,hTj,by omega,Lib.hid (fun q hq=>(WI.out q hq).2)⟩
      case measure=>simp[intOf]
   ·
    obtain⟨q0,q1,q2⟩:=(IQ hT).2;obtain⟨w4,hw4⟩:∃W:World,W=(wr.alloc (.cells #[.int .i64 0,.nilFunc,.nilFunc] 81)).setRow wr.heap.size #[.int .i64 ((10:Int)),.func (.func (90)) #[] #[],.func (.func (91)) #[] #[]]:=⟨_,rfl⟩;have hA:(wr.alloc (.cells #[.int .i64 0,.nilFunc,.nilFunc] 81)).heap[wr.heap.size]? = some (.cells #[.int .i64 0,.nilFunc,.nilFunc] 81 (0,0)):=heap_alloc_new _ _;have g4:(wr.alloc (.cells #[.int .i64 0,.nilFunc,.nilFunc] 81)).grownBy w4 (some wr.heap.size):=by rw[hw4];exact AV _ _ _
    have k4:AC wr w4:=((AC.refl wr).alloc _).grown g4 (fun q hq=>Nat.le_of_eq (Option.some.inj hq));have hQ4:w4.heap[wr.heap.size]? = some (.cells #[.int .i64 ((10:Int)),.func (.func (90)) #[] #[],.func (.func (91)) #[] #[]] 81 (0,0)):=by rw[hw4];exact setRow_heap _ _ _ _ _ _ hA
    have y4:wr.heap.size<w4.heap.size:=by have:=g4.size;rw[AD] at this;omega
    go_upto_region 7 with (first|refine wpList_store_row rfl 81 _ _ rfl wr.heap.size _ rfl rfl 81 _ hA IP rfl (by simp[Value.oneCell']) ?_|fail)
    rw[<-hw4];clear hw4 hA q0 q1 q2 g4;have hB4:=(Below.block k4 w.heap.size (by omega)).trans hB;have hT4:=(Below.block k4 w2.heap.size (by omega)).trans hT;have o4:=ho.keep k4;have hO4:Hid (∀q,v.ownBlock=some q->q≠wr.heap.size/\q≠w2.heap.size):=Lib.hid (fun q hq=>⟨by have:=(World.ownsRow.lt ho q hq).2;omega,hO.out q hq⟩);have K4:=hK.trans k4;have CK:=fun (W:World) (kW:AC w W) (c:Nat) (hc:c<AA.length)=>CC 1 W kW hb c hc
    have f0:w4.cell? ⟨w.heap.size,0,none⟩=some (.slice aW AA.length cW):=by rw[cell_of_row w4 _ 0 _ _ _ hB4];rfl
    have s4:=k4.size;have hla:=PE AA b AA.length 1;have HS:Hid (Iz AA b AA.length (2)=Iz AA b AA.length 1++I3 AA b 1 AA.length):=Lib.hid rfl;have HX:Hid (∀j,U6 AA b 1 j=true->I3 AA b 1 (j+1)=I3 AA b 1 j++[(10:Int)+(j:Int)]):=Lib.hid (fun j h=>Te h);have HY:Hid (∀j,U6 AA b 1 j=false->I3 AA b 1 (j+1)=I3 AA b 1 j):=Lib.hid (fun j h=>Qq h);have HL:Hid (∀j,(I3 AA b 1 j).length<=j):=Lib.hid (fun j=>PG AA b 1 j);have OL:A8 w4 w0.heap.size v (Iz AA b AA.length 1++I3 AA b 1 0):=by rw[show I3 AA b 1 0=[] from rfl,List.append_nil];exact o4
    generalize Iz AA b AA.length 1=LA at *;generalize hst:I3 AA b 1=LK at *;generalize U6 AA b 1=TK at *;clear hst o4 ho hK hB hT k4 hO;generalize wr.heap.size=Q at *;go_wp2;clear f0;go_loopw [3,6,21] (fun v0 _ i wr'=>∃(j:Nat) (v:Value),v=v0/\j<=AA.length/\i = .int .i64 j/\A8 wr' w0.heap.size v (LA++LK j)/\AC w wr'/\wr'.heap[w.heap.size]? = some (.cells #[.slice aW AA.length cW,.slice aP b.AM.length cP,.slice aL b.AQ.length cL,.slice aN b.AH.length cN,.slice aX b.AL.length cX,.slice aS b.sn.length cS,.slice aF b.fr.length cF,.slice aR b.rws.length cR] 30 (0,0))/\wr'.heap[Q]? = some (.cells #[.int .i64 ((10:Int)),.func (.func (90)) #[] #[],.func (.func (91)) #[] #[]] 81 (0,0))/\wr'.heap[w2.heap.size]? = some (.cells Mb 81 (0,0))/\w4.heap.size<=wr'.heap.size/\Hid (∀q,v.ownBlock=some q->q≠Q/\q≠w2.heap.size)) (fun _ _ i _=>AA.length-(intOf i).toNat)
    case atStart=>exact⟨0,_,rfl,Nat.zero_le _,rfl,OL,K4,hB4,hQ4,hT4,Nat.le_refl _,hO4⟩
    case round=>
     clear OL;obtain⟨j,v',rfl,hj,rfl,oj,Kj,fE,lH,hTj,sj,WI⟩:=hrel;by_cases hjl:j<AA.length
     ·
      have j1:(0:Int)<=(j:Int):=Int.natCast_nonneg _;have j2:(j:Int)<(AA.length:Int):=by omega
      have t1:wr.cell? ⟨Q,1,none⟩=some (.func (.func 90) #[] #[]):=by rw[cell_of_row _ _ 1 _ _ _ lH];rfl
      go_wp2_with (first|refine wpList_load_row rfl 30 _ rfl w.heap.size rfl 30 _ (0,0) _ fE Tryz.underlying30 rfl AF ?_|fail)
      refine (CK _ Kj j hjl).mono ?_;rintro e w5 ⟨rfl,k5⟩;have o5:=oj.keep k5;have K5:=Kj.trans k5;have s5:=k5.size;have hB5:=(Below.block k5 w.heap.size (by omega)).trans fE;have hQ5:=(Below.block k5 Q (by omega)).trans lH;have hT5:=(Below.block k5 w2.heap.size (by omega)).trans hTj;have t0:w5.cell? ⟨Q,0,none⟩=some (.int .i64 10):=by rw[cell_of_row _ _ 0 _ _ _ hQ5];rfl
      have hll:=HL.out j;cases hc:TK j
      ·
       have HM:Hid (LK (j+1)=LK j):=Lib.hid (HY.out j hc);go_wp2;go_roundw;case rel=>exact⟨j+1,_,rfl,by omega,by go_num,by rw[HM.out];exact o5,K5,hB5,hQ5,hT5,by omega,WI⟩
       case measure=>simp[intOf];omega
      ·
       have HM:Hid (LA++LK (j+1)=(LA++LK j)++[10+(j:Int)]):=Lib.hid (by rw[HX.out j hc,List.append_assoc]);have hll2:(LA++LK j).length<=20:=by rw[List.length_append];omega
       have jw:IntKind.i64.wrap ((10:Int)+(j:Int))=(10:Int)+(j:Int):=by rw[IntKind.wrap_i64];omega
       generalize LA++LK j=LL at *;go_wp2_with (at_builtin;refine wpList_append_own_at _ rfl _ _ 26 rfl w0.heap.size 2 i0 (.int .i64 0) 1 8 Tryz.underlying26 hi hz0 hz1 hz2 rfl (by decide) _ _ _ rfl (World.ownsRow.alloc o5 _) ⟨_,0,none⟩ 1 1 [.int .i64 (10+(j:Int))] rfl rfl ?c1 ?c2 ?c3 ?c4 ?c5 ?_)
       case c1=>
        intro j u hj
        match j,hj with
        | 0,hj=>simp at hj;subst hj;simp[Addr.add]
       case c2=>intro u hu;simp at hu;subst hu;rfl
       case c3=>unfold maxLen;omega
       case c4=>omega
       case c5=>simp;omega
       intro v7 w6 hown' hgrow _ hblk;have hK6:AC w w6:=(K5.alloc _).grown hgrow (fun q hq=>by have:=o5.ge q hq;omega);have st:=fun q (hq:q<w5.heap.size) (hne:∀z,v'.ownBlock=some z->z≠q)=>(hgrow.block q (by rw[AD];omega) (fun e=>hne q e.symm rfl)).trans (Below.block ((AC.refl w5).alloc _) q hq)
       have hB6:=(st w.heap.size (by omega) (fun z hz=>by have:=o5.ge z hz;omega)).trans hB5;have hQ6:=(st Q (by omega) (fun z hz=>(WI.out z hz).1)).trans hQ5;have hT6:=(st w2.heap.size (by omega) (fun z hz=>(WI.out z hz).2)).trans hT5;have s6:=hgrow.size;rw[AD] at s6
       have hO6:Hid (∀q,v7.ownBlock=some q->q≠Q/\q≠w2.heap.size):=Lib.hid (fun q hq=>by
        rcases hblk with e|e
        . exact WI.out q (by rw[<-e];exact hq)
        . rw[e] at hq;have:=Option.some.inj hq;omega)
       clear hgrow hblk st;go_wp2;go_roundw;case rel=>exact⟨j+1,_,rfl,by omega,by go_num,by rw[HM.out];exact Dp hown',hK6,hB6,hQ6,hT6,by omega,hO6⟩
       case measure=>simp[intOf];omega
     ·
      obtain rfl:j=AA.length:=by omega
      go_wp2;go_roundw;case rel=>exact⟨2,_,rfl,by omega,by go_num,by rw[HS.out];exact oj,Kj,fE,hTj,by omega,Lib.hid (fun q hq=>(WI.out q hq).2)⟩
      case measure=>simp[intOf]
  ·
   obtain rfl:k=2:=by omega
   go_wp2;go_ret;exact⟨_,rfl,by rw[HE.out];exact (ho.BE (by omega)).row,hK⟩
end Go.Proofs.YtgakfkjjkobpiaaGreat
