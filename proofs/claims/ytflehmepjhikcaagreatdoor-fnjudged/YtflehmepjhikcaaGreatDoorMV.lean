/- Gathered texts. -/
import Derived.Test.YtflehmepjhikcaaGreatDoorMU
import Derived.Deep.AppendLies
import Derived.Deep.Cut
import Derived.Deep.QuietTactic
import Derived.Defers
import Derived.Recover
import Derived.Lib.Hide
import Derived.Laws.Rows
set_option maxRecDepth 100000
set_option maxHeartbeats 8000000
namespace Go.Proofs.YtflehmepjhikcaaGreatDoor
open Go.ChangeMaps (setBlock heap_setBlock_same heap_setBlock_other)
open Go.ChangeShapes Go.WideShapes Go.ChangeAt Go.RowKit
open Go.ChangeShapes Go.WideShapes Go.ChangeAt Go.RowKit Go.Shelf Go.Sort
open Go.MapKept (stamped_iff stamped_empty)
open Go.WideElems (Fit)
theorem P9 {AA:List (List Dd)}{b:Bd}{c:Nat}(_:AA.length<=3)(h:Ce AA b c=true)(hc:c<AA.length):Op (Aq AA b) (c:Int)=true:=by
 unfold Op Aq;rw[List.any_append,List.any_map];simp only[KBw];left;rw[KCf];exact⟨c,KBF.2 ⟨KAd.2 hc,h⟩,by simp⟩
theorem Nz {AA:List (List Dd)}{b:Bd}{c:Nat}(h:decide (0<(b.AJ.getD c []).length)=true)(hc:c<AA.length):Op (Aq AA b) (10+(c:Int))=true:=by
 unfold Op Aq;rw[List.any_append];simp only[KBw];right;rw[List.any_map,KCf];refine⟨c,KBF.2 ⟨KAd.2 hc,?_⟩,by simp⟩
 cases e:b.AJ.getD c [] with
 |nil=>rw[e] at h;simp at h
 |cons x r=>rfl
theorem cZ {AA:List (List Dd)}{b:Bd}{s:Int}(h0:∀c:Nat,c<AA.length->s=(c:Int)->Ce AA b c=false)(h1:∀c:Nat,c<AA.length->s=10+(c:Int)->decide (0<(b.AJ.getD c []).length)=false):Op (Aq AA b) s=false:=by
 cases e:Op (Aq AA b) s with
 |false=>rfl
 |true=>
  exfalso;unfold Op Aq at e;rw[List.any_append,List.any_map,List.any_map] at e;simp only[KBw,KCf,KBF,KAd,Function.comp,KCp] at e;rcases e with ⟨c,⟨hc,q⟩,e⟩|⟨c,⟨hc,q⟩,e⟩
  . rw[h0 c hc e.symm] at q;cases q
  ·
   have:=h1 c hc e.symm
   cases en:b.AJ.getD c [] with
   |nil=>rw[en] at q;simp at q
   |cons x r=>rw[en] at this;simp at this
theorem Dh.wide {w:World}{m m' M M':Nat}{v:BV}{AA:List (List Dd)}{b:Bd}(h:Dh w m M v AA b)(hm:m'<=m)(hM:M<=M'):Dh w m' M' v AA b:=by
 obtain⟨Vw,Vn,Vr,h1,h2,h3⟩:=h.ex;have up:∀v n,gm v n m->gm v n m':=fun v n q b o l c e hn=>KAU hm (q b o l c e hn)
 exact⟨h.rd,⟨Vw,Vn,Vr,h1,h2,fun x hx=>⟨KAU hm (h3 x hx).1,KAC (h3 x hx).2 hM⟩⟩,up _ _ h.hd.1,up _ _ h.hd.2.1,up _ _ h.hd.2.2⟩
theorem BT.all {w:World}{m:Nat}{v:BV}{nv rv wv:List Value}{bs N:Nat}{AA:List (List Dd)}{b:Bd}(h:BT w m v nv rv bs N AA b)(lw:ED w bs N v.W wv AA)(hm:m<=bs):GH w m v nv rv wv AA b:=by
 have wl:∀o,FI wv.length o->∀k,(Lk 72 Th v.W wv AA o).v.ownBlock=some k->bs<=k/\k<N:=fun o ho k hk=>⟨(lw.ll.Ag.lt ho k hk).1,lw.lt o ho k hk⟩
 have cross:∀i,BW nv rv i->i≠.bd->∀o,FI wv.length o->(Ay 0 v nv rv b i).v.ownBlock=none\/(Ay 0 v nv rv b i).v.ownBlock≠(Lk 72 Th v.W wv AA o).v.ownBlock:=fun i hi hb o ho=>by
  cases e:(Ay 0 v nv rv b i).v.ownBlock with
  |none=>exact .inl rfl
  |some k=>exact .inr (fun q=>by have:=h.out i hi hb k e;have:=wl o ho k q.symm;omega)
 have cross':∀o,FI wv.length o->∀i,BW nv rv i->i≠.bd->(Lk 72 Th v.W wv AA o).v.ownBlock=none\/(Lk 72 Th v.W wv AA o).v.ownBlock≠(Ay 0 v nv rv b i).v.ownBlock:=fun o ho i hi hb=>by
  cases e:(Lk 72 Th v.W wv AA o).v.ownBlock with
  |none=>exact .inl rfl
  |some k=>exact .inr (fun q=>by have:=h.out i hi hb k q.symm;have:=wl o ho k e;omega)
 refine⟨⟨fun j hj=>?_,fun i j hi hj hij=>?_⟩,h.ln,h.lr,lw.ll.len⟩
 ·
  cases j with
  |b i=>exact h.Ag.own i hj
  |wk=>exact Dp (lw.ll.Ag.own none trivial) hm
  |wd c=>exact Dp (lw.ll.Ag.own (some c) hj) hm
 ·
  cases i with
  |b i=>
   cases j with
   |b j=>exact h.Ag.apart i j hi hj (fun e=>hij (by rw[e]))
   |wk=>exact cross i hi.1 hi.2 none trivial
   |wd c=>exact cross i hi.1 hi.2 (some c) hj
  |wk=>
   cases j with
   |b j=>exact cross' none trivial j hj.1 hj.2
   |wk=>exact absurd rfl hij
   |wd c=>exact lw.ll.Ag.apart none (some c) trivial hj (by simp)
  |wd c=>
   cases j with
   |b j=>exact cross' (some c) hi j hj.1 hj.2
   |wk=>exact lw.ll.Ag.apart (some c) none hi trivial (by simp)
   |wd d=>exact lw.ll.Ag.apart (some c) (some d) hi hj (fun e=>hij (by have:=KAI e;rw[this]))
theorem MV (w:World)(v:BV)(AA:List (List Dd))(b:Bd)(s:Int)(h:Cw w v AA b)(hz:MS AA b):
  Calls Tryz.prog 84 #[v.agg,.int .i64 s] w fun e w'=>∃bv':BV,e = .returned (.tuple #[bv'.agg,.bool (RY AA b s)])/\Dh w' w.heap.size w'.heap.size bv' (OH AA b) (J5 AA b s)/\AC w w':=by
 obtain⟨s0,hs0⟩:∃s0,s0=s:=⟨_,rfl⟩;have HS0:=AI hs0;clear hs0;have qm:=AI h;have CB:=fun (W:World) (kW:AC w W)=>Hj W v AA b (h.keep kW) hz
 obtain⟨aW,aP,aL,aN,aX,aS,aF,aR,cW,cP,cL,cN,cX,cS,cF,cR,rfl⟩:=h.shapes;clear h hz;obtain⟨w1,hw1⟩:∃W:World,W=(w.alloc (.cells #[.slice aW AA.length cW,.slice aP b.AM.length cP,.slice aL b.AQ.length cL,.slice aN b.AJ.length cN,.slice aX b.AK.length cX,.slice aS b.sn.length cS,.slice aF b.fr.length cF,.slice aR b.rws.length cR] 103)).alloc (.cells #[AF,AF,AF,AF,AF,AF,AF,AF] 103):=⟨_,rfl⟩;have K1:AC w w1:=by rw[hw1];exact ((AC.refl w).alloc _).alloc _
 have s1:w.heap.size+1<w1.heap.size:=by rw[hw1,AD,AD];omega
 have hB1:w1.heap[w.heap.size]? = some (.cells #[.slice aW AA.length cW,.slice aP b.AM.length cP,.slice aL b.AQ.length cL,.slice aN b.AJ.length cN,.slice aX b.AK.length cX,.slice aS b.sn.length cS,.slice aF b.fr.length cF,.slice aR b.rws.length cR] 103 (0,0)):=by rw[hw1];exact DM ((AC.refl _).alloc _)
 have hR1:w1.heap[w.heap.size+1]? = some (.cells #[AF,AF,AF,AF,AF,AF,AF,AF] 103 (0,0)):=by rw[hw1,<-AD w (.cells #[.slice aW AA.length cW,.slice aP b.AM.length cP,.slice aL b.AQ.length cL,.slice aN b.AJ.length cN,.slice aX b.AK.length cX,.slice aS b.sn.length cS,.slice aF b.fr.length cF,.slice aR b.rws.length cR] 103)];exact KAX _ _
 go_enter Tryz.func84,Tryz.ntmps84
 go_upto_region 1 with fail
 rw[<-hw1];clear hw1;go_wp2_with (first|refine KAq rfl 103 _ rfl w.heap.size rfl 103 _ (0,0) _ hB1 Tryz.underlying103 rfl AR ?_|fail)
 refine (CB _ K1).mono ?_;rintro e w2 ⟨rfl,k2⟩;have K2:=K1.trans k2;have s2:=k2.size;have hB2:=(KAW k2 w.heap.size (by omega)).trans hB1;have hR2:=(KAW k2 (w.heap.size+1) (by omega)).trans hR1;clear CB hB1 hR1 k2;cases hb:Ap AA b
 ·
  have HD:Hid (OH AA b=[]):=AI (by unfold OH;rw[hb];rfl);have HB:Hid (J5 AA b s=OW):=AI (by unfold J5;rw[hb];rfl);have HT:Hid (RY AA b s=false):=AI (by unfold RY;rw[hb];rfl);have HG:=AI (As w2 (w.heap.size+1) #[AF,AF,AF,AF,AF,AF,AF,AF]);have HZ:=AI (KBs w2 (w.heap.size+1) _ #[AF,AF,AF,AF,AF,AF,AF,AF] _ _ hR2);have HK:=AI (K2.grown HG.out (fun q hq=>by have:=KAI hq;omega));clear K2 hB2;go_wp2_with (first|refine KBY rfl 103 _ _ rfl (w.heap.size+1) _ rfl rfl 103 _ hR2 AR rfl (by simp[Value.oneCell']) ?_|fail)
  refine KA7 (Cm (by rfl) _ _ (w.heap.size+1) _ _ (0,0) _ (.bool false) rfl HZ.out rfl Tryz.underlying103 rfl AR) rfl ?_;exact⟨Rz,by rw[HT.out],by rw[HD.out,HB.out];exact (P6 _ _).free,HK.out⟩
 have yB:=AI (Ee.of hb);have zO:Hid (AA.length<=3):=AI (BM yB.out.work).1;have d3:=zO.out;go_wp2_with (first|refine KAq rfl 103 _ rfl w.heap.size rfl 103 _ (0,0) _ hB2 Tryz.underlying103 rfl AR ?_|fail)
 refine (MT w2 _ AA b (qm.out.keep K2) hb).mono ?_;rintro e w3 ⟨bv',nv,rv,wv,bs,N,rfl,OV,LW,pO,k3⟩;obtain⟨uW,uP,uL,uN,uX,uS,uF,uR,eW,eP,eL,eN,eX,eS,eF,eR,rfl⟩:=OV.rd0.shapes;have gD:=AI OV;have zV:=AI LW;have s3:=k3.size;clear OV LW;obtain⟨w4,hw4⟩:∃W:World,W=w3.alloc (.cells #[.slice uW AA.length eW,.slice uP b.AM.length eP,.slice uL b.AQ.length eL,.slice uN b.AJ.length eN,.slice uX b.AK.length eX,.slice uS b.sn.length eS,.slice uF b.fr.length eF,.slice uR b.rws.length eR] 103):=⟨_,rfl⟩;have k4:AC w3 w4:=by rw[hw4];exact (AC.refl w3).alloc _
 have hM4:w4.heap[w3.heap.size]? = some (.cells #[.slice uW AA.length eW,.slice uP b.AM.length eP,.slice uL b.AQ.length eL,.slice uN b.AJ.length eN,.slice uX b.AK.length eX,.slice uS b.sn.length eS,.slice uF b.fr.length eF,.slice uR b.rws.length eR] 103 (0,0)):=by rw[hw4];exact KAX _ _
 have y4:w3.heap.size<w4.heap.size:=by rw[hw4,AD];omega
 go_upto_region 4 with fail
 rw[<-hw4];clear hw4;go_wp2_with fail
 refine (KM w4).mono ?_;rintro e w5 ⟨rfl,hw5⟩;have k5:AC w4 w5:=by rw[hw5];exact (AC.refl w4).alloc _
 have hT5:w5.heap[w4.heap.size]? = some (.cells OG 178 (0,0)):=by rw[hw5];exact KAX _ _
 have y5:w4.heap.size<w5.heap.size:=by rw[hw5,AD];omega
 have K35:=AI (k4.trans k5);have K25:=k3.trans (k4.trans k5);have K05:=AI (K2.trans K25);have XB5:=AI ((KAW K25 w.heap.size (by omega)).trans hB2);have zY:=AI ((KAW K25 (w.heap.size+1) (by omega)).trans hR2);have zW:=AI ((KAW k5 w3.heap.size (by omega)).trans hM4);have XT5:=AI hT5;clear hw5 hB2 hR2 hM4 hT5 k3 k4 k5 K25 K2 K1;go_wp2;go_loopw [8,9,18] (fun _ _ i wr=>∃k:Nat,k<=2/\i = .int .i64 k/\AC w5 wr/\(1<=k->∀cc:Nat,cc<AA.length->(s0=(cc:Int))->Ce AA b cc=false)/\(2<=k->∀cc:Nat,cc<AA.length->(s0=10+(cc:Int))->decide (0<(b.AJ.getD cc []).length)=false)) (fun _ _ i _=>2-(intOf i).toNat)
 case atStart=>exact⟨0,KAb _,rfl,AC.refl _,fun q=>absurd q (by omega),fun q=>absurd q (by omega)⟩
 case round=>
  obtain⟨k,hk,rfl,kr,hn0,hn1⟩:=hrel;have sr:=kr.size;have hBr:=(KAW kr w.heap.size (by omega)).trans XB5.out;have hTr:=(KAW kr w4.heap.size (by omega)).trans XT5.out;by_cases hlt:k<2
  ·
   have k01:k=0\/k=1:=by omega
   rcases k01 with rfl|rfl
   ·
    clear hn0 hn1;obtain⟨q0,q1,q2⟩:=(JQ hTr).1;obtain⟨wa,Ya⟩:∃W:World,W=(wr.alloc (.cells #[.int .i64 0,.nilFunc,.nilFunc] 178)).setRow wr.heap.size #[.int .i64 0,.func (.func 149) #[] #[],.func (.func 150) #[] #[]]:=⟨_,rfl⟩;have hA:(wr.alloc (.cells #[.int .i64 0,.nilFunc,.nilFunc] 178)).heap[wr.heap.size]? = some (.cells #[.int .i64 0,.nilFunc,.nilFunc] 178 (0,0)):=KAX _ _;have g4:(wr.alloc (.cells #[.int .i64 0,.nilFunc,.nilFunc] 178)).grownBy wa (some wr.heap.size):=by rw[Ya];exact As _ _ _
    have k4:AC wr wa:=((AC.refl wr).alloc _).grown g4 (fun q hq=>KBP (KAI hq));have hQ4:wa.heap[wr.heap.size]? = some (.cells #[.int .i64 0,.func (.func 149) #[] #[],.func (.func 150) #[] #[]] 178 (0,0)):=by rw[Ya];exact KBs _ _ _ _ _ _ hA
    have y4:wr.heap.size<wa.heap.size:=by have:=g4.size;rw[AD] at this;omega
    go_upto_region 7 with (first|refine KBY rfl 178 _ _ rfl wr.heap.size _ rfl rfl 178 _ hA JO rfl (by simp[Value.oneCell']) ?_|fail)
    rw[<-Ya];clear Ya hA q0 q1 q2 g4;have nT:=kr.trans k4;have KA:=K05.out.trans nT;have hB4:=(KAW k4 w.heap.size (by omega)).trans hBr;have z0:wa.cell? ⟨w.heap.size,0,none⟩=some (.slice aW AA.length cW):=by rw[KAL wa _ 0 _ _ _ hB4];rfl
    have t0:wa.cell? ⟨wr.heap.size,0,none⟩=some (.int .i64 0):=by rw[KAL wa _ 0 _ _ _ hQ4];rfl
    have t1:wa.cell? ⟨wr.heap.size,1,none⟩=some (.func (.func 149) #[] #[]):=by rw[KAL wa _ 1 _ _ _ hQ4];rfl
    have hw1:IntKind.i64.wrap ((AA.length:Int))=(AA.length:Int):=by rw[KAk];omega
    have hw2:IntKind.i64.wrap ((AA.length:Int)-1)=(AA.length:Int)-1:=by rw[KAk];omega
    have s4:=k4.size;go_wp2_with fail
    refine (A6 _ _ _ _).mono ?_;rintro e wa' ⟨rfl,Z3⟩;rw[Z3];clear Z3;by_cases hin:∃cc:Nat,cc<AA.length/\s=(cc:Int)
    ·
     obtain⟨cc,hcc,hs⟩:=hin;have hI:Co s 0 ((AA.length:Int)-1)=true:=by unfold Co;simp;omega
     rw[hI];subst hs;have hws:IntKind.i64.wrap ((cc:Int)-0)=(cc:Int):=by rw[KAk];omega
     have hws2:IntKind.i64.wrap (cc:Int)=(cc:Int):=by rw[KAk];omega
     have z1:wa.cell? ⟨w.heap.size,1,none⟩=some (.slice aP b.AM.length cP):=by rw[KAL wa _ 1 _ _ _ hB4];rfl
     have z2:wa.cell? ⟨w.heap.size,2,none⟩=some (.slice aL b.AQ.length cL):=by rw[KAL wa _ 2 _ _ _ hB4];rfl
     have z3:wa.cell? ⟨w.heap.size,3,none⟩=some (.slice aN b.AJ.length cN):=by rw[KAL wa _ 3 _ _ _ hB4];rfl
     have z4:wa.cell? ⟨w.heap.size,4,none⟩=some (.slice aX b.AK.length cX):=by rw[KAL wa _ 4 _ _ _ hB4];rfl
     have z5:wa.cell? ⟨w.heap.size,5,none⟩=some (.slice aS b.sn.length cS):=by rw[KAL wa _ 5 _ _ _ hB4];rfl
     have z6:wa.cell? ⟨w.heap.size,6,none⟩=some (.slice aF b.fr.length cF):=by rw[KAL wa _ 6 _ _ _ hB4];rfl
     have z7:wa.cell? ⟨w.heap.size,7,none⟩=some (.slice aR b.rws.length cR):=by rw[KAL wa _ 7 _ _ _ hB4];rfl
     have CAN:=Lw wa _ AA b cc (qm.out.keep KA) hb hcc;clear hI;go_wp2_with fail
     refine CAN.mono ?_;rintro e wb ⟨rfl,kb⟩;have WS:=nT.trans kb;have qj:=K35.out.trans WS;have sb:=kb.size
     cases ht:Ce AA b cc with
     |false=>
      have HN:Hid (∀cc:Nat,cc<AA.length->(s0=(cc:Int))->Ce AA b cc=false):=AI (fun d hd e=>by
       have e2:(cc:Int)=(d:Int):=HS0.out.symm.trans e;obtain rfl:cc=d:=by omega
       exact ht)
      go_wp2;go_roundw;case rel=>exact⟨1,by omega,rfl,WS,fun _=>HN.out,fun q=>absurd q (by omega)⟩
      case measure=>simp[intOf]
     |true=>
      have hQb:=(KAW kb wr.heap.size y4).trans hQ4;have pJ:=(KAW WS w3.heap.size (by omega)).trans zW.out;have hRb:=(KAW WS (w.heap.size+1) (by omega)).trans zY.out;have u0:wb.cell? ⟨wr.heap.size,0,none⟩=some (.int .i64 0):=by rw[KAL wb _ 0 _ _ _ hQb];rfl
      have u2:wb.cell? ⟨wr.heap.size,2,none⟩=some (.func (.func 150) #[] #[]):=by rw[KAL wb _ 2 _ _ _ hQb];rfl
      have s5b:=WS.size;obtain⟨yH,yI⟩:=VF ht;have rG:=fV wb w2.heap.size ⟨.slice uW AA.length eW,.slice uP b.AM.length eP,.slice uL b.AQ.length eL,.slice uN b.AJ.length eN,.slice uX b.AK.length eX,.slice uS b.sn.length eS,.slice uF b.fr.length eF,.slice uR b.rws.length eR⟩ nv rv bs N AA b 20 cc (gD.out.keep qj) yB.out (by omega) (by omega) hcc (GD hb hcc).1 yH (fun q3=>by rcases yI with q|q;omega;exact q);have HT:Hid (RY AA b ((cc:Int))=true):=AI (by unfold RY;rw[hb,P9 zO.out ht hcc];rfl);have HB:Hid (J5 AA b ((cc:Int))=Ar AA (AB AA) b ((cc:Int))):=AI (by unfold J5 TU;rw[KAP hb,P9 zO.out ht hcc,KAP rfl]);have HD:Hid (OH AA b=AA):=AI (by unfold OH;rw[KAP hb]);go_wp2_with (first|refine KAq rfl 103 _ rfl w3.heap.size rfl 103 _ (0,0) _ pJ Tryz.underlying103 rfl AR ?_|fail)
      refine rG.mono ?_;rintro e wd ⟨rfl,nv6,rv6,V6,T6⟩;have LW6:=ED.turn (v:=⟨.slice uW AA.length eW,.slice uP b.AM.length eP,.slice uL b.AQ.length eL,.slice uN b.AJ.length eN,.slice uX b.AK.length eX,.slice uS b.sn.length eS,.slice uF b.fr.length eF,.slice uR b.rws.length eR⟩) (zV.out.keep qj) (gD.out.keep qj) T6;have sD:=AI ((V6.all LW6 pO).free);have iI:=AI T6;clear V6 T6 LW6 rG;have hM6:=(iI.out.block w3.heap.size (by omega) (fun q=>by have:=(gD.out.blk _ q).2.1;omega)).trans pJ;have hR6:=(iI.out.block (w.heap.size+1) (by omega) (fun q=>by have:=(gD.out.blk _ q).1;omega)).trans hRb;have K6:AC w wd:=KCS (K05.out.trans WS) (iI.out.low (show w.heap.size<=wb.heap.size by omega) (fun g hg=>by have:=(gD.out.blk g hg).1;omega));have s6:=iI.out.size;clear pJ hRb u0 u2 hQb;have HG:=AI (As wd (w.heap.size+1) #[.slice uW AA.length eW,.slice uP b.AM.length eP,.slice uL b.AQ.length eL,.slice uN b.AJ.length eN,.slice uX b.AK.length eX,.slice uS b.sn.length eS,.slice uF b.fr.length eF,.slice uR b.rws.length eR]);have HZ:=AI (KBs wd (w.heap.size+1) _ #[.slice uW AA.length eW,.slice uP b.AM.length eP,.slice uL b.AQ.length eL,.slice uN b.AJ.length eN,.slice uX b.AK.length eX,.slice uS b.sn.length eS,.slice uF b.fr.length eF,.slice uR b.rws.length eR] _ _ hR6);have HF:=AI (((sD.out).above (w':=wd.setRow (w.heap.size+1) #[.slice uW AA.length eW,.slice uP b.AM.length eP,.slice uL b.AQ.length eL,.slice uN b.AJ.length eN,.slice uX b.AK.length eX,.slice uS b.sn.length eS,.slice uF b.fr.length eF,.slice uR b.rws.length eR]) (fun q h1 h2=>HG.out.block q h2 (fun e=>by have:=KAI e;omega)) HG.out.size).wide (show w.heap.size<=_ by omega) HG.out.size);have HKK:=AI ((K6).grown HG.out (fun q hq=>by have:=KAI hq;omega));go_wp2_with (first|refine KAq rfl 103 _ rfl w3.heap.size rfl 103 _ (0,0) _ hM6 Tryz.underlying103 rfl AR ?_|refine KBY rfl 103 _ _ rfl (w.heap.size+1) _ rfl rfl 103 _ hR6 AR rfl (by simp[Value.oneCell']) ?_|fail)
      refine KA7 (Cm (by rfl) _ _ (w.heap.size+1) _ _ (0,0) _ (.bool true) rfl HZ.out rfl Tryz.underlying103 rfl AR) rfl ?_;exact⟨⟨.slice uW AA.length eW,.slice uP b.AM.length eP,.slice uL b.AQ.length eL,.slice uN b.AJ.length eN,.slice uX b.AK.length eX,.slice uS b.sn.length eS,.slice uF b.fr.length eF,.slice uR b.rws.length eR⟩,by rw[HT.out],by rw[HD.out,HB.out];exact HF.out,HKK.out⟩
    ·
     have hI:Co s 0 ((AA.length:Int)-1)=false:=by
      unfold Co;rw[KAi];rintro⟨h1,h2⟩;exact hin ⟨(s-0).toNat,by omega,by omega⟩
     rw[hI];have HN:Hid (∀cc:Nat,cc<AA.length->(s0=(cc:Int))->Ce AA b cc=false):=AI (fun d hd e=>(hin ⟨d,hd,HS0.out.symm.trans e⟩).elim);clear hI hin;go_wp2;go_roundw;case rel=>exact⟨1,by omega,rfl,nT,fun _=>HN.out,fun q=>absurd q (by omega)⟩
     case measure=>simp[intOf]
   ·
    clear hn1;obtain⟨q0,q1,q2⟩:=(JQ hTr).2;obtain⟨wa,Ya⟩:∃W:World,W=(wr.alloc (.cells #[.int .i64 0,.nilFunc,.nilFunc] 178)).setRow wr.heap.size #[.int .i64 10,.func (.func 151) #[] #[],.func (.func 152) #[] #[]]:=⟨_,rfl⟩;have hA:(wr.alloc (.cells #[.int .i64 0,.nilFunc,.nilFunc] 178)).heap[wr.heap.size]? = some (.cells #[.int .i64 0,.nilFunc,.nilFunc] 178 (0,0)):=KAX _ _;have g4:(wr.alloc (.cells #[.int .i64 0,.nilFunc,.nilFunc] 178)).grownBy wa (some wr.heap.size):=by rw[Ya];exact As _ _ _
    have k4:AC wr wa:=((AC.refl wr).alloc _).grown g4 (fun q hq=>KBP (KAI hq));have hQ4:wa.heap[wr.heap.size]? = some (.cells #[.int .i64 10,.func (.func 151) #[] #[],.func (.func 152) #[] #[]] 178 (0,0)):=by rw[Ya];exact KBs _ _ _ _ _ _ hA
    have y4:wr.heap.size<wa.heap.size:=by have:=g4.size;rw[AD] at this;omega
    go_upto_region 7 with (first|refine KBY rfl 178 _ _ rfl wr.heap.size _ rfl rfl 178 _ hA JO rfl (by simp[Value.oneCell']) ?_|fail)
    rw[<-Ya];clear Ya hA q0 q1 q2 g4;have nT:=kr.trans k4;have KA:=K05.out.trans nT;have hB4:=(KAW k4 w.heap.size (by omega)).trans hBr;have z0:wa.cell? ⟨w.heap.size,0,none⟩=some (.slice aW AA.length cW):=by rw[KAL wa _ 0 _ _ _ hB4];rfl
    have t0:wa.cell? ⟨wr.heap.size,0,none⟩=some (.int .i64 10):=by rw[KAL wa _ 0 _ _ _ hQ4];rfl
    have t1:wa.cell? ⟨wr.heap.size,1,none⟩=some (.func (.func 151) #[] #[]):=by rw[KAL wa _ 1 _ _ _ hQ4];rfl
    have hw1:IntKind.i64.wrap (10+(AA.length:Int))=10+(AA.length:Int):=by rw[KAk];omega
    have hw2:IntKind.i64.wrap (10+(AA.length:Int)-1)=10+(AA.length:Int)-1:=by rw[KAk];omega
    have s4:=k4.size;go_wp2_with fail
    refine (A6 _ _ _ _).mono ?_;rintro e wa' ⟨rfl,Z3⟩;rw[Z3];clear Z3;by_cases hin:∃cc:Nat,cc<AA.length/\s=10+(cc:Int)
    ·
     obtain⟨cc,hcc,hs⟩:=hin;have hI:Co s 10 (10+(AA.length:Int)-1)=true:=by unfold Co;simp;omega
     rw[hI];subst hs;have hws:IntKind.i64.wrap (10+(cc:Int)-10)=(cc:Int):=by rw[KAk];omega
     have z1:wa.cell? ⟨w.heap.size,1,none⟩=some (.slice aP b.AM.length cP):=by rw[KAL wa _ 1 _ _ _ hB4];rfl
     have z2:wa.cell? ⟨w.heap.size,2,none⟩=some (.slice aL b.AQ.length cL):=by rw[KAL wa _ 2 _ _ _ hB4];rfl
     have z3:wa.cell? ⟨w.heap.size,3,none⟩=some (.slice aN b.AJ.length cN):=by rw[KAL wa _ 3 _ _ _ hB4];rfl
     have z4:wa.cell? ⟨w.heap.size,4,none⟩=some (.slice aX b.AK.length cX):=by rw[KAL wa _ 4 _ _ _ hB4];rfl
     have z5:wa.cell? ⟨w.heap.size,5,none⟩=some (.slice aS b.sn.length cS):=by rw[KAL wa _ 5 _ _ _ hB4];rfl
     have z6:wa.cell? ⟨w.heap.size,6,none⟩=some (.slice aF b.fr.length cF):=by rw[KAL wa _ 6 _ _ _ hB4];rfl
     have z7:wa.cell? ⟨w.heap.size,7,none⟩=some (.slice aR b.rws.length cR):=by rw[KAL wa _ 7 _ _ _ hB4];rfl
     have CAN:=G7 wa _ AA b cc (qm.out.keep KA) (by rw[yB.out.AJ];exact hcc);clear hI;go_wp2_with fail
     refine CAN.mono ?_;rintro e wb ⟨rfl,kb⟩;have WS:=nT.trans kb;have qj:=K35.out.trans WS;have sb:=kb.size
     cases ht:decide (0<(b.AJ.getD cc []).length) with
     |false=>
      have HN:Hid (∀cc:Nat,cc<AA.length->(s0=10+(cc:Int))->decide (0<(b.AJ.getD cc []).length)=false):=AI (fun d hd e=>by
       have e2:10+(cc:Int)=10+(d:Int):=HS0.out.symm.trans e;obtain rfl:cc=d:=by omega
       exact ht)
      go_wp2;go_roundw;case rel=>exact⟨2,by omega,rfl,WS,fun _=>hn0 (by omega),fun _=>HN.out⟩
      case measure=>simp[intOf]
     |true=>
      have hQb:=(KAW kb wr.heap.size y4).trans hQ4;have pJ:=(KAW WS w3.heap.size (by omega)).trans zW.out;have hRb:=(KAW WS (w.heap.size+1) (by omega)).trans zY.out;have u0:wb.cell? ⟨wr.heap.size,0,none⟩=some (.int .i64 10):=by rw[KAL wb _ 0 _ _ _ hQb];rfl
      have u2:wb.cell? ⟨wr.heap.size,2,none⟩=some (.func (.func 152) #[] #[]):=by rw[KAL wb _ 2 _ _ _ hQb];rfl
      have s5b:=WS.size
      obtain⟨xx,rr,vI⟩:∃xx rr,b.AJ.getD cc []=xx::rr:=by
       cases e:b.AJ.getD cc [] with
       |nil=>rw[e] at ht;simp at ht
       |cons xx rr=>exact⟨xx,rr,rfl⟩
      have hxx:=(((RB.any hb).nl cc).2 xx (by rw[vI];simp)).1;have rG:=Wp wb w2.heap.size ⟨.slice uW AA.length eW,.slice uP b.AM.length eP,.slice uL b.AQ.length eL,.slice uN b.AJ.length eN,.slice uX b.AK.length eX,.slice uS b.sn.length eS,.slice uF b.fr.length eF,.slice uR b.rws.length eR⟩ nv rv wv bs N AA b 20 cc xx rr (gD.out.keep qj) (zV.out.keep qj) pO yB.out (by omega) (by omega) hcc vI hxx;have HT:Hid (RY AA b (10+(cc:Int))=true):=AI (by unfold RY;rw[hb,Nz ht hcc];rfl);have HB:Hid (J5 AA b (10+(cc:Int))=BS b cc):=AI (by unfold J5 TU;rw[KAP hb,Nz ht hcc,KAP rfl,UK]);have HD:Hid (OH AA b=AA):=AI (by unfold OH;rw[KAP hb]);go_wp2_with (first|refine KAq rfl 103 _ rfl w3.heap.size rfl 103 _ (0,0) _ pJ Tryz.underlying103 rfl AR ?_|fail)
      refine rG.mono ?_;rintro e wd ⟨rfl,sD,F6,T6⟩;replace sD:=AI sD;have iI:=AI T6;clear T6 rG;have hM6:=(iI.out.block w3.heap.size (by omega) (fun q=>by have:=(gD.out.blk _ q).2.1;omega)).trans pJ;have hR6:=(iI.out.block (w.heap.size+1) (by omega) (fun q=>by have:=(gD.out.blk _ q).1;omega)).trans hRb;have K6:AC w wd:=KCS (K05.out.trans WS) (iI.out.low (show w.heap.size<=wb.heap.size by omega) (fun g hg=>by have:=(gD.out.blk g hg).1;omega));have s6:=iI.out.size;clear pJ hRb u0 u2 hQb;have HG:=AI (As wd (w.heap.size+1) #[.slice uW AA.length eW,.slice uP b.AM.length eP,.slice uL b.AQ.length eL,.slice uN b.AJ.length eN,.slice uX b.AK.length eX,.slice uS b.sn.length eS,.slice uF b.fr.length eF,.slice uR b.rws.length eR]);have HZ:=AI (KBs wd (w.heap.size+1) _ #[.slice uW AA.length eW,.slice uP b.AM.length eP,.slice uL b.AQ.length eL,.slice uN b.AJ.length eN,.slice uX b.AK.length eX,.slice uS b.sn.length eS,.slice uF b.fr.length eF,.slice uR b.rws.length eR] _ _ hR6);have HF:=AI (((sD.out).above (w':=wd.setRow (w.heap.size+1) #[.slice uW AA.length eW,.slice uP b.AM.length eP,.slice uL b.AQ.length eL,.slice uN b.AJ.length eN,.slice uX b.AK.length eX,.slice uS b.sn.length eS,.slice uF b.fr.length eF,.slice uR b.rws.length eR]) (fun q h1 h2=>HG.out.block q h2 (fun e=>by have:=KAI e;omega)) HG.out.size).wide (show w.heap.size<=_ by omega) HG.out.size);have HKK:=AI ((K6).grown HG.out (fun q hq=>by have:=KAI hq;omega));go_wp2_with (first|refine KAq rfl 103 _ rfl w3.heap.size rfl 103 _ (0,0) _ hM6 Tryz.underlying103 rfl AR ?_|refine KBY rfl 103 _ _ rfl (w.heap.size+1) _ rfl rfl 103 _ hR6 AR rfl (by simp[Value.oneCell']) ?_|fail)
      refine KA7 (Cm (by rfl) _ _ (w.heap.size+1) _ _ (0,0) _ (.bool true) rfl HZ.out rfl Tryz.underlying103 rfl AR) rfl ?_;exact⟨⟨.slice uW AA.length eW,.slice uP b.AM.length eP,.slice uL b.AQ.length eL,.slice uN b.AJ.length eN,.slice uX b.AK.length eX,.slice uS b.sn.length eS,.slice uF b.fr.length eF,.slice uR b.rws.length eR⟩,by rw[HT.out],by rw[HD.out,HB.out];exact HF.out,HKK.out⟩
    ·
     have hI:Co s 10 (10+(AA.length:Int)-1)=false:=by
      unfold Co;rw[KAi];rintro⟨h1,h2⟩;exact hin ⟨(s-10).toNat,by omega,by omega⟩
     rw[hI];have HN:Hid (∀cc:Nat,cc<AA.length->(s0=10+(cc:Int))->decide (0<(b.AJ.getD cc []).length)=false):=AI (fun d hd e=>(hin ⟨d,hd,HS0.out.symm.trans e⟩).elim);clear hI hin;go_wp2;go_roundw;case rel=>exact⟨2,by omega,rfl,nT,fun _=>hn0 (by omega),fun _=>HN.out⟩
     case measure=>simp[intOf]
  ·
   obtain rfl:k=2:=by omega
   have hno:=cZ (hn0 (by omega)) (hn1 (by omega));rw[HS0.out] at hno;have HT:Hid (RY AA b s=false):=AI (by unfold RY;rw[hno];simp);have HB:Hid (J5 AA b s=b):=AI (by unfold J5 TU;rw[KAP hb,hno];rfl);have HD:Hid (OH AA b=AA):=AI (by unfold OH;rw[KAP hb]);have hMr:=(KAW kr w3.heap.size (by omega)).trans zW.out;have hRr:=(KAW kr (w.heap.size+1) (by omega)).trans zY.out;have FRr:=AI (((gD.out.keep (K35.out.trans kr)).all (zV.out.keep (K35.out.trans kr)) pO).free);have Kr:=K05.out.trans kr;clear hno hn0 hn1 hBr hTr hlt hk;have HG:=AI (As wr (w.heap.size+1) #[.slice uW AA.length eW,.slice uP b.AM.length eP,.slice uL b.AQ.length eL,.slice uN b.AJ.length eN,.slice uX b.AK.length eX,.slice uS b.sn.length eS,.slice uF b.fr.length eF,.slice uR b.rws.length eR]);have HZ:=AI (KBs wr (w.heap.size+1) _ #[.slice uW AA.length eW,.slice uP b.AM.length eP,.slice uL b.AQ.length eL,.slice uN b.AJ.length eN,.slice uX b.AK.length eX,.slice uS b.sn.length eS,.slice uF b.fr.length eF,.slice uR b.rws.length eR] _ _ hRr);have HF:=AI (((FRr.out).above (w':=wr.setRow (w.heap.size+1) #[.slice uW AA.length eW,.slice uP b.AM.length eP,.slice uL b.AQ.length eL,.slice uN b.AJ.length eN,.slice uX b.AK.length eX,.slice uS b.sn.length eS,.slice uF b.fr.length eF,.slice uR b.rws.length eR]) (fun q h1 h2=>HG.out.block q h2 (fun e=>by have:=KAI e;omega)) HG.out.size).wide (show w.heap.size<=_ by omega) HG.out.size);have HKK:=AI ((Kr).grown HG.out (fun q hq=>by have:=KAI hq;omega));go_wp2_with (first|refine KAq rfl 103 _ rfl w3.heap.size rfl 103 _ (0,0) _ hMr Tryz.underlying103 rfl AR ?_|refine KBY rfl 103 _ _ rfl (w.heap.size+1) _ rfl rfl 103 _ hRr AR rfl (by simp[Value.oneCell']) ?_|fail)
   refine KA7 (Cm (by rfl) _ _ (w.heap.size+1) _ _ (0,0) _ (.bool false) rfl HZ.out rfl Tryz.underlying103 rfl AR) rfl ?_;exact⟨⟨.slice uW AA.length eW,.slice uP b.AM.length eP,.slice uL b.AQ.length eL,.slice uN b.AJ.length eN,.slice uX b.AK.length eX,.slice uS b.sn.length eS,.slice uF b.fr.length eF,.slice uR b.rws.length eR⟩,by rw[HT.out],by rw[HD.out,HB.out];exact HF.out,HKK.out⟩
theorem Tryz.jS:(Tryz.prog.info? 103).map (fun i=>(i.zero,i.size,i.bytes))=some (some (.agg #[AF,AF,AF,AF,AF,AF,AF,AF]),8,192):=by kernel_rfl
theorem Dh.held {w:World}{m:Nat}{v:BV}{AA:List (List Dd)}{b:Bd}(h:Dh w m w.heap.size v AA b):DJ w (fun g=>m<=g/\g<w.heap.size) v AA b:=fun _ k=>(h.above (fun q h1 h2=>k.blk q h2 ⟨h1,h2⟩) k.size).rd
def Ji (ds:List (List Dd))(b:Bd):List Bd:=(DH ds b).map (fun s=>J5 ds b s)
theorem WV {ds:List (List Dd)}{b:Bd}{i:Nat}(h:i<(DH ds b).length):(Ji ds b).take (i+1)=(Ji ds b).take i++[J5 ds b ((DH ds b).getD i 0)]:=by
 have hl:i<(Ji ds b).length:=by unfold Ji;rw[KAj];exact h
 rw[KCR hl]
 have e:(Ji ds b)[i]=J5 ds b ((DH ds b).getD i 0):=by
  have q:(Ji ds b)[i]? = some (J5 ds b ((DH ds b).getD i 0)):=by
   unfold Ji;rw[KBN,IT,KAH h];rfl
  rw[KAH hl] at q;exact KAI q
 rw[e]
def nH (w w':World)(v:Value)(ds:List (List Dd))(l:List Bd):Prop:=∃vs P,Fd w' P w.heap.size v vs ds l/\∀g,P g->w.heap.size<=g/\g<w'.heap.size
structure AS (w:World)(z1:Nat)(wr:World)(bx:Array Value)(vp:Value)(ps:List Int)(v:Value)(ds:List (List Dd))(l:List Bd):Prop where
 st:∃vs P,Fd wr P w.heap.size v vs ds l/\∀g,P g->z1<=g/\g<wr.heap.size
 box:wr.heap[w.heap.size]? = some (.cells bx 103 (0,0))
 row:U7 wr z1 vp ps
 ne:∀g,v.ownBlock=some g->g≠w.heap.size/\vp.ownBlock≠some g
 K:AC w wr
 sz:z1<=wr.heap.size
 one:w.heap.size<z1
theorem AS.aft {w wr:World}{z1:Nat}{bx:Array Value}{vp v:Value}{ps:List Int}{ds:List (List Dd)}{l:List Bd}(h:AS w z1 wr bx vp ps v ds l):nH w wr v ds l:=by
 obtain⟨vs,P,h1,h2⟩:=h.st;exact⟨vs,P,h1,fun g hg=>⟨KAU (KB6 h.one) (h2 g hg).1,(h2 g hg).2⟩⟩
theorem AS.own {w wr:World}{z1:Nat}{bx:Array Value}{vp v:Value}{ps:List Int}{ds:List (List Dd)}{l:List Bd}(h:AS w z1 wr bx vp ps v ds l):∃vs:List BV,wr.ownsRow w.heap.size 103 8 v l.length (vs.flatMap cB)/\∀(w8 wq w':World) (v':Value) (b:Bd) (bv:BV),AC wr w8->AC w8 wq->DJ w8 (fun g=>wr.heap.size<=g/\g<w8.heap.size) bv ds b->w'.ownsRow w.heap.size 103 8 v' (l.length+1) (vs.flatMap cB++cB bv)->wq.grownBy w' v.ownBlock->(v'.ownBlock=v.ownBlock\/v'.ownBlock=some wq.heap.size)->AS w z1 w' bx vp ps v' ds (l++[b]):=by
 obtain⟨vs,P,h1,h2⟩:=h.st;refine⟨vs,h1.row,fun w8 wq w' v' b bv k8 kq hB ho hg hn=>?_⟩;have hlt:=h1.lt;have k:=k8.trans kq
 have q1:Fd wq (fun g=>P g\/(wr.heap.size<=g/\g<w8.heap.size)) w.heap.size v vs ds l:=(h1.kept k.grownBy (by simp)).mono (fun _ => .inl) (fun g hv hp=>by
  rcases hp with hp|hp
  . exact h1.np g hv hp
  . have:=(hlt g hv).2;omega)
 have hB2:DJ wq (fun g=>P g\/(wr.heap.size<=g/\g<w8.heap.size)) bv ds b:=(hB.on (BA.B7 kq)).mono (fun _ => .inr);have zq:=kq.size;have z8:=k8.size
 have nP:∀g,v'.ownBlock=some g->¬(P g\/(wr.heap.size<=g/\g<w8.heap.size)):=fun g hv hp=>by
  rcases hn with e|e
  . rw[e] at hv;exact q1.np g hv hp
  ·
   rw[e] at hv;have:=KAI hv;rcases hp with hp|hp
   . have:=(h2 g hp).2;omega
   . omega
 have q2:=q1.push hB2 ho hg nP
 have hne:∀x:Option Nat,(∀g,v.ownBlock=some g->x≠some g)->(x=none\/x≠v.ownBlock):=fun x hx=>by
  cases x with
  |none=>exact .inl rfl
  |some y=>exact .inr (fun e=>hx y e.symm rfl)
 refine⟨⟨_,_,q2,fun g hp=>?_⟩,?_,(h.row.keep k).kept hg (hne _ (fun g hv=>(h.ne g hv).2)),fun g hv=>?_,(h.K.trans k).grown hg (fun g hv=>(hlt g hv).1),KAU h.sz (KAU k.size hg.size),h.one⟩
 ·
  have:=hg.size;have:=h.sz;rcases hp with hp|hp
  . have:=h2 g hp;omega
  . omega
 ·
  have zz:=KAC h.one (KAU h.sz k.size);exact (hg.block _ zz (fun e=>(h.ne _ e.symm).1 rfl)).trans ((KAW k _ (KAC h.one h.sz)).trans h.box)
 ·
  rcases hn with e|e
  . rw[e] at hv;exact h.ne g hv
  ·
   rw[e] at hv;have e2:=KAI hv;have:=h.one;have:=h.sz;refine⟨by omega,fun hvp=>?_⟩;have:=(h.row.lt g hvp).2;omega
theorem AS.new {w w1 w2:World}{bx:Array Value}{vp:Value}{ps:List Int}{ds:List (List Dd)}(K1:AC w w1)(s1:w1.heap.size=w.heap.size+2)(hB:w1.heap[w.heap.size]? = some (.cells bx 103 (0,0)))(hM:w1.heap[w.heap.size+1]? = some (.cells #[] 103 (0,0)))(k2:AC w1 w2)(hr:U7 w2 w1.heap.size vp ps):AS w w1.heap.size w2 bx vp ps (.slice (some ⟨w.heap.size+1,0,none⟩) 0 0) ds []:=by
 refine⟨⟨[],fun _=>False,⟨⟨by simp,.inr ⟨w.heap.size+1,0,#[],rfl,by omega,(KAW k2 _ (by omega)).trans hM,KAM _,by decide,by simp,by simp⟩⟩,fun _ _ h=>h,fun i hi=>by simp at hi⟩,fun _ h=>h.elim⟩,(KAW k2 _ (by omega)).trans hB,hr,fun g hv=>?_,K1.trans k2,k2.size,by omega⟩;have:=KAI hv;simp only at this;subst this;refine⟨by omega,fun hvp=>?_⟩;have:=(hr.lt _ hvp).1;omega
theorem Hx (w:World)(v:BV)(ds:List (List Dd))(b:Bd)(h:Cw w v ds b)(hz:MS ds b)(hp:(DH ds b).length<=1000)(hb:∀s∈DH ds b,Ap ds b=true):
  Calls Tryz.prog 46 #[v.agg] w fun e w'=>∃v',e = .returned v'/\nH w w' v' ds (Ji ds b)/\AC w w':=by
 obtain⟨j0,hj,hy0,hy1,hy2⟩:=KA3 Tryz.jS;obtain⟨aW,aP,aL,aN,aX,aS,aF,aR,cW,cP,cL,cN,cX,cS,cF,cR,rfl⟩:=h.shapes;obtain⟨w1,hw1⟩:∃W:World,W=(w.alloc (.cells #[.slice aW ds.length cW,.slice aP b.AM.length cP,.slice aL b.AQ.length cL,.slice aN b.AJ.length cN,.slice aX b.AK.length cX,.slice aS b.sn.length cS,.slice aF b.fr.length cF,.slice aR b.rws.length cR] 103)).alloc (.cells #[] 103):=⟨_,rfl⟩;have K1:AC w w1:=by rw[hw1];exact ((AC.refl w).alloc _).alloc _
 have s1:w1.heap.size=w.heap.size+2:=by rw[hw1,AD,AD]
 have hB1:w1.heap[w.heap.size]? = some (.cells #[.slice aW ds.length cW,.slice aP b.AM.length cP,.slice aL b.AQ.length cL,.slice aN b.AJ.length cN,.slice aX b.AK.length cX,.slice aS b.sn.length cS,.slice aF b.fr.length cF,.slice aR b.rws.length cR] 103 (0,0)):=by rw[hw1];exact DM ((AC.refl _).alloc _)
 have hM1:w1.heap[w.heap.size+1]? = some (.cells #[] 103 (0,0)):=by
  have q:=KAX (w.alloc (.cells #[.slice aW ds.length cW,.slice aP b.AM.length cP,.slice aL b.AQ.length cL,.slice aN b.AJ.length cN,.slice aX b.AK.length cX,.slice aS b.sn.length cS,.slice aF b.fr.length cF,.slice aR b.rws.length cR] 103)) (.cells #[] 103);rw[AD] at q;rw[hw1];exact q
 have XB:=AI h;have XZ:=AI hz;have XHB:=AI hb;clear h hb;go_enter Tryz.func46,Tryz.ntmps46
 go_upto_region 2 with fail
 rw[<-hw1];clear hw1;have CP:=Lh w1 ⟨.slice aW ds.length cW,.slice aP b.AM.length cP,.slice aL b.AQ.length cL,.slice aN b.AJ.length cN,.slice aX b.AK.length cX,.slice aS b.sn.length cS,.slice aF b.fr.length cF,.slice aR b.rws.length cR⟩ ds b (XB.out.keep K1) hz;go_wp2_with (first|refine KAq rfl 103 _ rfl w.heap.size rfl 103 _ (0,0) _ hB1 Tryz.underlying103 rfl AR ?_|fail)
 refine CP.mono ?_;rintro e w2 ⟨vp,rfl,OP,k2⟩;have K2:=K1.trans k2;have s2:=k2.size;have A2:=AS.new (ds:=ds) K1 s1 hB1 hM1 k2 OP;obtain⟨ap,cp,rfl,-⟩:=id OP.rd;obtain⟨z1,hz1⟩:∃z1,z1=w1.heap.size:=⟨_,rfl⟩;rw[<-hz1] at A2;clear CP OP k2 K1 hB1 hM1 hz1 s1;go_wp2;go_loopw [3,5,6,7,12] (fun s3 _ _ _ s12 wr=>∃(i:Nat) (v3:Value),v3=s3/\i<=(DH ds b).length/\s12 = .int .i64 i/\AS w z1 wr #[.slice aW ds.length cW,.slice aP b.AM.length cP,.slice aL b.AQ.length cL,.slice aN b.AJ.length cN,.slice aX b.AK.length cX,.slice aS b.sn.length cS,.slice aF b.fr.length cF,.slice aR b.rws.length cR] (.slice ap (DH ds b).length cp) (DH ds b) v3 ds ((Ji ds b).take i)) (fun _ _ _ _ s12 _=>(DH ds b).length-(intOf s12).toNat)
 case atStart=>exact⟨0,_,rfl,KAb _,rfl,A2⟩
 case round=>
  obtain⟨i,v3,rfl,hi,rfl,A⟩:=hrel;clear A2;by_cases hlt:i<(DH ds b).length
  ·
   obtain⟨a',c',e',hpq⟩:=A.row.rd;simp only[KAT,KA8] at e';obtain⟨rfl,rfl⟩:=e';rcases hpq with h0|⟨bp,op,rfl,hbp,hcp⟩
   . exfalso;rw[h0] at hlt;simp at hlt
   have d1:=hcp i hlt;clear hcp;have hmem:(DH ds b).getD i 0∈DH ds b:=by rw[IT,KAH hlt];exact KBI hlt
   have hbr:=XHB.out _ hmem;have hsn:=WV hlt;have hll:((Ji ds b).take i).length<=1000:=by rw[KAz];omega
   generalize (Ji ds b).take i=LT at A hsn hll;have XN:=AI hsn;obtain⟨x,hx⟩:∃x,x=(DH ds b).getD i 0:=⟨_,rfl⟩;rw[<-hx] at d1 XN;clear hsn;have j1:(0:Int)<=(i:Int):=KAK _;have j2:(i:Int)<((DH ds b).length:Int):=by omega
   have hBX:=A.box;have CS:=MV wr ⟨.slice aW ds.length cW,.slice aP b.AM.length cP,.slice aL b.AQ.length cL,.slice aN b.AJ.length cN,.slice aX b.AK.length cX,.slice aS b.sn.length cS,.slice aF b.fr.length cF,.slice aR b.rws.length cR⟩ ds b x (XB.out.keep A.K) XZ.out;rw[show OH ds b=ds by unfold OH;rw[KAP hbr]] at CS;have XA:=AI A;clear hmem hx A hbr;go_wp2_with (first|refine KAq rfl 103 _ rfl w.heap.size rfl 103 _ (0,0) _ hBX Tryz.underlying103 rfl AR ?_|fail)
   refine CS.mono ?_;rintro e w8 ⟨bv8,rfl,F8,k8⟩;have zQ:=AI F8.held;obtain⟨xW,xP,xL,xN,xX,xS,xF,xR,yW,yP,yL,yN,yX,yS,yF,yR,rfl⟩:=F8.rd.shapes;obtain⟨B1,hB1⟩:∃B1,B1=J5 ds b x:=⟨_,rfl⟩;have XB1:=AI hB1;rw[<-hB1] at zQ ⊢;clear CS F8 hB1 hBX;obtain⟨w9,hw9⟩:∃W:World,W=w8.alloc (.cells #[.slice xW ds.length yW,.slice xP B1.AM.length yP,.slice xL B1.AQ.length yL,.slice xN B1.AJ.length yN,.slice xX B1.AK.length yX,.slice xS B1.sn.length yS,.slice xF B1.fr.length yF,.slice xR B1.rws.length yR] 103):=⟨_,rfl⟩;have k9:AC w8 w9:=by rw[hw9];exact (AC.refl w8).alloc _
   have d9:w9.heap[w8.heap.size]? = some (.cells #[.slice xW ds.length yW,.slice xP B1.AM.length yP,.slice xL B1.AQ.length yL,.slice xN B1.AJ.length yN,.slice xX B1.AK.length yX,.slice xS B1.sn.length yS,.slice xF B1.fr.length yF,.slice xR B1.rws.length yR] 103 (0,0)):=by rw[hw9];exact KAX _ _
   obtain⟨w11,hw11⟩:∃W:World,W=w9.alloc (.cells #[.slice xW ds.length yW,.slice xP B1.AM.length yP,.slice xL B1.AQ.length yL,.slice xN B1.AJ.length yN,.slice xX B1.AK.length yX,.slice xS B1.sn.length yS,.slice xF B1.fr.length yF,.slice xR B1.rws.length yR] 103):=⟨_,rfl⟩;have k11:AC w9 w11:=by rw[hw11];exact (AC.refl w9).alloc _
   have hN:=KAX w9 (.cells #[.slice xW ds.length yW,.slice xP B1.AM.length yP,.slice xL B1.AQ.length yL,.slice xN B1.AJ.length yN,.slice xX B1.AK.length yX,.slice xS B1.sn.length yS,.slice xF B1.fr.length yF,.slice xR B1.rws.length yR] 103);rw[<-hw11] at hN;obtain⟨vs,hrow,hpush⟩:=XA.out.own;have hrow11:=hrow.kept ((k8.trans (k9.trans k11)).grownBy) (by cases v3.ownBlock<;>simp);have hbs:w.heap.size<=w11.heap.size:=KAU XA.out.K.size (k8.trans (k9.trans k11)).size;have hlen:(LT).length<=1000:=hll;have XP:=AI hpush;clear hpush hrow;go_upto_region 6 with fail
   rw[<-hw9];clear hw9;go_wp2_with (first|refine KAq rfl 103 _ rfl (w8.heap.size) rfl 103 _ (0,0) _ d9 Tryz.underlying103 rfl AR ?_|(at_builtin;rw[<-hw11];refine KAe _ rfl _ _ 105 rfl w.heap.size 103 j0 (.agg #[AF,AF,AF,AF,AF,AF,AF,AF]) 8 192 Tryz.underlying105 hj hy0 hy1 hy2 rfl (by decide) _ _ _ rfl hrow11 ⟨w9.heap.size,0,none⟩ 1 1 [.slice xW ds.length yW,.slice xP B1.AM.length yP,.slice xL B1.AQ.length yL,.slice xN B1.AJ.length yN,.slice xX B1.AK.length yX,.slice xS B1.sn.length yS,.slice xF B1.fr.length yF,.slice xR B1.rws.length yR] rfl rfl (World.news_of_block (cs:=#[.slice xW ds.length yW,.slice xP B1.AM.length yP,.slice xL B1.AQ.length yL,.slice xN B1.AJ.length yN,.slice xX B1.AK.length yX,.slice xS B1.sn.length yS,.slice xF B1.fr.length yF,.slice xR B1.rws.length yR]) (t:=103) (fr:=(0,0)) hN) (by simp[Value.oneCell']) ?e3 ?e4 ?e5 ?_)|fail)
   case e3=>unfold maxLen;omega
   case e4=>omega
   case e5=>exact hbs
   intro v12 w12 hown12 hgrow12 _ hblk12;rw[<-hw11] at hgrow12;have hs11:w11.heap.size=w9.heap.size+1:=by rw[hw11,AD]
   have sZ:=AI (XP.out w8 w11 w12 v12 B1 ⟨.slice xW ds.length yW,.slice xP B1.AM.length yP,.slice xL B1.AQ.length yL,.slice xN B1.AJ.length yN,.slice xX B1.AK.length yX,.slice xS B1.sn.length yS,.slice xF B1.fr.length yF,.slice xR B1.rws.length yR⟩ k8 (k9.trans k11) zQ.out hown12 hgrow12 (by rw[hs11];exact hblk12));rw[XB1.out] at sZ;clear XB1 XP zQ hown12 hgrow12 hblk12 hrow11 hN d9 k9 k11 hw11 XA k8;go_wp2;go_roundw;case rel=>exact⟨i+1,_,rfl,by omega,by go_num,by rw[XN.out];exact sZ.out⟩
   case measure=>simp[intOf];omega
  ·
   obtain rfl:i=(DH ds b).length:=by omega
   rw[KBS (by unfold Ji;rw[KAj];exact KAM _)] at A;have XA:=AI A;clear A;go_wp2;go_ret;exact⟨_,rfl,XA.out.aft,XA.out.K⟩
section
theorem Ch.other {w w':World}{m x:Nat}{v:Value}{hs:List Value}{E:List (List Int)}(h:Ch 25 Bk w m v hs E)(hg:w.grownBy w' (some x))(hx:∀c t f,w.heap[x]?≠some (.cells c t f)):Ch 25 Bk w' m v hs E:=by
 refine⟨h.Ag.far hg (fun i hi=>?_),h.len⟩;by_cases e:(Lk 25 Bk v hs E i).v.ownBlock=some x
 ·
  exfalso;rcases (h.Ag.own i hi).2 with ⟨q,_⟩|⟨g,cap,cur,q,_,hc,_⟩
  . rw[q] at e;cases e
  ·
   rw[q] at e;have:=KAI e;simp only at this;subst this;exact hx _ _ _ hc
 . exact .inr e
structure Ls (w0 w:World)(ds:List (List Dd))(P:Nat->Prop)(ve:Value)(hs:List Value)(E:List (List Int))(bn bx r:Nat)(es:Array MapEntry)(l:List (BV×Bd))(OY:Array MapEntry)(lx:List (BV×Bd))(seen:Array Nat):Prop where
 low:∀g,P g->w0.heap.size<=g/\g<w.heap.size
 en:Ch 25 Bk w w0.heap.size ve hs E
 nE:∀g,ve.ownBlock=some g->¬P g
 nz:ve≠.slice none 0 0
 K:AC w0 w
 wn:Wv w bn es l
 wx:Wv w bx OY lx
 ne:bn≠bx
 gn:w0.heap.size<=bn/\¬P bn
 gx:w0.heap.size<=bx/\¬P bx
 gr:w0.heap.size<=r/\¬P r
 held:∀p∈l,DJ w P p.1 ds p.2
 Sd:∀p∈lx,DJ w P p.1 ds p.2
 it:∃since c0 ck,w.heap[r]? = some (.mapIter (some bn) since seen c0)/\(∀x∈es.toList,x.born<since)/\since<=c0/\w.heap[bn]? = some (.map es ck)/\since<=ck
structure Mt (w0 w:World)(ds:List (List Dd))(P:Nat->Prop)(ve:Value)(hs:List Value)(E:List (List Int))(bn bx:Nat)(es:Array MapEntry)(l:List (BV×Bd)):Prop where
 low:∀g,P g->w0.heap.size<=g/\g<w.heap.size
 en:Ch 25 Bk w w0.heap.size ve hs E
 nE:∀g,ve.ownBlock=some g->¬P g
 nz:ve≠.slice none 0 0
 K:AC w0 w
 wn:Wv w bn es l
 wx:Wv w bx #[] []
 ne:bn≠bx
 gn:w0.heap.size<=bn/\¬P bn
 gx:w0.heap.size<=bx/\¬P bx
 held:∀p∈l,DJ w P p.1 ds p.2
section
variable {w0 w w':World} {ds:List (List Dd)} {P:Nat->Prop} {ve:Value} {hs:List Value} {E:List (List Int)} {bn bx r:Nat} {es:Array MapEntry} {l:List (BV×Bd)} {OY:Array MapEntry} {lx:List (BV×Bd)} {seen:Array Nat}
theorem Wv.Kw {g:Nat}(h:Wv w g es l):∀c t f,w.heap[g]?≠some (.cells c t f):=fun c t f e=>by
 obtain⟨k,h1,_⟩:=h.ex;rw[h1] at e;cases e
theorem Ls.yZ (h:Ls w0 w ds P ve hs E bn bx r es l OY lx seen):r<w.heap.size:=by
 obtain⟨_,_,_,h1,_⟩:=h.it;exact (KAm.1 h1).1
theorem Ls.rn (h:Ls w0 w ds P ve hs E bn bx r es l OY lx seen):r≠bn/\r≠bx:=by
 obtain⟨_,_,_,h1,_⟩:=h.it;obtain⟨_,h2,_⟩:=h.wn.ex;obtain⟨_,h3,_⟩:=h.wx.ex;exact⟨fun e=>by rw[e,h2] at h1;(cases h1),fun e=>by rw[e,h3] at h1;(cases h1)⟩
theorem Ls.TM (h:Ls w0 w ds P ve hs E bn bx r es l OY lx seen):∀c t f,w.heap[r]?≠some (.cells c t f):=fun c t f e=>by
 obtain⟨_,_,_,h1,_⟩:=h.it;rw[h1] at e;cases e
theorem Ls.wide {P':Nat->Prop}(h:Ls w0 w ds P ve hs E bn bx r es l OY lx seen)(k:AC w w')(hP:∀g,P' g->w.heap.size<=g/\g<w'.heap.size):Ls w0 w' ds (fun g=>P g\/P' g) ve hs E bn bx r es l OY lx seen:=by
 have z:=k.size
 have no:∀ {g},g<w.heap.size->¬P g->¬(P g\/P' g):=fun hg hn hp=>by
  rcases hp with hp|hp
  . exact hn hp
  . have:=(hP _ hp).1;omega
 obtain⟨s,c0,ck,i1,i2,i3,i4,i5⟩:=h.it;refine⟨fun g hg=>?_,⟨h.en.Ag.keep k,h.en.len⟩,fun g hg=>no (h.en.Ag.lt (i:=none) trivial g hg).2 (h.nE g hg),h.nz,h.K.trans k,h.wn.keep k,h.wx.keep k,h.ne,⟨h.gn.1,no h.wn.lt h.gn.2⟩,⟨h.gx.1,no h.wx.lt h.gx.2⟩,⟨h.gr.1,no h.yZ h.gr.2⟩,fun p hp=>((h.held p hp).on (BA.B7 k)).mono (fun _ => .inl),fun p hp=>((h.Sd p hp).on (BA.B7 k)).mono (fun _ => .inl),⟨s,c0,ck,(KAW k r h.yZ).trans i1,i2,i3,(KAW k bn h.wn.lt).trans i4,i5⟩⟩;rcases hg with hg|hg
 . have:=h.low g hg;omega
 ·
  have:=hP g hg;have:=h.K.size;omega
theorem Ls.keep (h:Ls w0 w ds P ve hs E bn bx r es l OY lx seen)(k:AC w w'):Ls w0 w' ds P ve hs E bn bx r es l OY lx seen:=by
 have q:=h.wide (P':=fun _=>False) k (fun _ hg=>hg.elim);have e:(fun g=>P g\/False)=P:=by funext g;simp
 rwa [e] at q
theorem Ls.push {w1 w2:World}{v' u:Value}{xs:List Int}(h:Ls w0 w ds P ve hs E bn bx r es l OY lx seen)(k:AC w w1)(ou:A8 w1 w.heap.size u xs)(hg:w1.grownBy w2 ve.ownBlock)(hb:v'.ownBlock=ve.ownBlock\/v'.ownBlock=some w1.heap.size)(ho:w2.ownsRow w0.heap.size 25 1 v' (hs.length+1) (hs++[u]))(hz:v'≠.slice none 0 0):
  Ls w0 w2 ds P v' (hs++[u]) (E++[xs]) bn bx r es l OY lx seen:=by
 have h1:=h.keep k
 have hne:∀ {g},(∀c t f,w1.heap[g]?≠some (.cells c t f))->ve.ownBlock≠some g:=fun hc e=>by
  rcases (h1.en.Ag.own none trivial).2 with ⟨q,_⟩|⟨g',cap,cur,q,_,hh,_⟩
  ·
   rw[show (Lk 25 Bk ve hs E none).v=ve from rfl] at q;rw[q] at e;cases e
  ·
   rw[show (Lk 25 Bk ve hs E none).v=ve from rfl] at q;rw[q] at e;have:=KAI e;simp only at this;subst this;exact hc _ _ _ hh
 have st:BA P w1 w2:=BA.Dn hg (fun g hv=>h1.nE g hv);obtain⟨s,c0,ck,i1,i2,i3,i4,i5⟩:=h1.it;have z:=hg.size;refine⟨fun g hp=>⟨(h1.low g hp).1,KAC (h1.low g hp).2 z⟩,h.en.push (fun _ _=>rfl) k (A8.BK ou h.K.size) (fun b hb=>ou.ge b hb) hg hb (by show w2.ownsRow _ _ _ _ (hs++[u]).length _;rw[KAJ];exact ho),fun g hv=>?_,hz,h1.K.grown hg (fun g hv=>(h1.en.Ag.lt (i:=none) trivial g hv).1),h1.wn.kept hg (hne h1.wn.Kw),h1.wx.kept hg (hne h1.wx.Kw),h1.ne,h1.gn,h1.gx,h1.gr,fun p hp=>(h1.held p hp).on st,fun p hp=>(h1.Sd p hp).on st,⟨s,c0,ck,(hg.block r h1.yZ (fun e=>hne h1.TM e.symm)).trans i1,i2,i3,(hg.block bn h1.wn.lt (fun e=>hne h1.wn.Kw e.symm)).trans i4,i5⟩⟩;rcases hb with e|e
 . rw[e] at hv;exact h1.nE g hv
 ·
  rw[e] at hv;have:=KAI hv;intro hp;have:=(h1.low g hp).2;omega
theorem Ls.put {ug:Array MapEntry}{lx':List (BV×Bd)}(h:Ls w0 w ds P ve hs E bn bx r es l OY lx seen)(hg:w.grownBy w' (some bx))(hW:Wv w' bx ug lx')(hl:∀p∈lx',DJ w P p.1 ds p.2):Ls w0 w' ds P ve hs E bn bx r es l ug lx' seen:=by
 have st:BA P w w':=BA.Dn hg (fun g e hp=>by have:=KAI e;subst this;exact h.gx.2 hp);obtain⟨s,c0,ck,i1,i2,i3,i4,i5⟩:=h.it;exact⟨fun g hp=>⟨(h.low g hp).1,KAC (h.low g hp).2 hg.size⟩,h.en.other hg h.wx.Kw,h.nE,h.nz,h.K.grown hg (fun g e=>by have:=KAI e;subst this;exact h.gx.1),h.wn.kept hg (fun e=>h.ne (KAI e).symm),hW,h.ne,h.gn,h.gx,h.gr,fun p hp=>(h.held p hp).on st,fun p hp=>(hl p hp).on st,⟨s,c0,ck,(hg.block r h.yZ (fun e=>h.rn.2 (KAI e))).trans i1,i2,i3,(hg.block bn h.wn.lt (fun e=>h.ne (KAI e))).trans i4,i5⟩⟩
theorem Mt.range (h:Mt w0 w ds P ve hs E bn bx es l):∃c,w.heap[bn]? = some (.map es c)/\Ls w0 (w.alloc (.mapIter (some bn) c #[] c)) ds P ve hs E bn bx w.heap.size es l #[] [] #[]:=by
 obtain⟨c,hb,F⟩:=h.wn.ex;have k:AC w (w.alloc (.mapIter (some bn) c #[] c)):=(AC.refl w).alloc _;exact⟨c,hb,fun g hg=>⟨(h.low g hg).1,KAC (h.low g hg).2 k.size⟩,⟨h.en.Ag.keep k,h.en.len⟩,h.nE,h.nz,h.K.trans k,h.wn.keep k,h.wx.keep k,h.ne,h.gn,h.gx,⟨h.K.size,fun hp=>by have:=(h.low _ hp).2;omega⟩,fun p hp=>(h.held p hp).on (BA.B7 k),fun p hp=>(by cases hp),⟨c,c,c,KAX w _,((KDR es c).1 F.stamped).1,KAM _,(KAW k bn h.wn.lt).trans hb,KAM _⟩⟩
theorem Ls.next (h:Ls w0 w ds P ve hs E bn bx r es l OY lx seen):
  ((leftOf es seen).size=0/\∀ty,(Instr.next (.pointer (some ⟨r,0,none⟩)) false ty).run Tryz.prog w = .ok (.tuple #[.bool false]) w) \/
  ∃(x:MapEntry) (p:BV×Bd) (w1:World),x∈es.toList/\seen.contains x.born=false/\p∈l/\x.key=Hs p.2/\(leftOf es (seen.push x.born)).size<(leftOf es seen).size/\(∀ty,(Instr.next (.pointer (some ⟨r,0,none⟩)) false ty).run Tryz.prog w = .ok (.tuple #[.bool true,Hs p.2,p.1.agg]) w1) /\
   (Instr.entry (.pointer (some ⟨r,0,none⟩))).run Tryz.prog w1 = .ok (.tuple #[Hs p.2,p.1.agg]) w1/\Ls w0 w1 ds P ve hs E bn bx r es l OY lx (seen.push x.born):=by
 obtain⟨s,c0,ck,i1,i2,i3,i4,i5⟩:=h.it;obtain⟨c,hb,F⟩:=h.wn.ex;rcases run_next_at (P:=Tryz.prog) w 0 r bn s c0 seen es c i1 hb i2 i3 with ⟨h0,hrun⟩|⟨x,hx,w1,hal,hrun⟩
 . exact .inl ⟨h0,fun ty=>hrun⟩
 ·
  obtain⟨hxe,hxs⟩:=mem_left hx;obtain⟨p,hp,e1,e2⟩:=h.wn.pF x hxe;have hr1:w1.heap[r]? = some (.mapIter (some bn) s seen c0):=by rcases hal with rfl|rfl<;>exact i1
  have hz:w1.heap=w.heap:=by rcases hal with rfl|rfl<;>rfl
  have hg:w.grownBy (setBlock w1 r (.mapIter (some bn) s (seen.push x.born) c)) (some r):=by
   rcases hal with rfl|rfl
   . exact⟨rfl,rfl,rfl,by simp[setBlock],fun i _ hi=>(MapKept.heap_set i1).2 i (fun e=>hi (by rw[e]))⟩
   . exact⟨rfl,rfl,rfl,by simp[setBlock],fun i _ hi=>(MapKept.heap_set (w:=w.drew) i1).2 i (fun e=>hi (by rw[e]))⟩
  have hself:(setBlock w1 r (.mapIter (some bn) s (seen.push x.born) c)).heap[r]? = some (.mapIter (some bn) s (seen.push x.born) c):=(MapKept.heap_set hr1).1;have st:BA P w (setBlock w1 r (.mapIter (some bn) s (seen.push x.born) c)):=BA.Dn hg (fun g e hp=>by have:=KAI e;subst this;exact h.gr.2 hp);have hwn:=h.wn.kept hg (fun e=>h.rn.1 (KAI e));obtain⟨c',hb',_⟩:=hwn.ex
  have hcc:c'=c:=by
   have q:=(hg.block bn h.wn.lt (fun e=>h.rn.1 (KAI e).symm)).trans hb;rw[hb'] at q
   simpa using q
  subst hcc;refine .inr ⟨x,p,_,hxe,hxs,hp,e1,left_shrinks es seen x hx,fun ty=>?_,?_,⟨fun g hp=>⟨(h.low g hp).1,KAC (h.low g hp).2 hg.size⟩,h.en.other hg h.TM,h.nE,h.nz,h.K.grown hg (fun g e=>by have:=KAI e;subst this;exact h.gr.1),hwn,h.wx.kept hg (fun e=>h.rn.2 (KAI e)),h.ne,h.gn,h.gx,h.gr,fun p hp=>(h.held p hp).on st,fun p hp=>(h.Sd p hp).on st,?_⟩⟩
  . rw[<-e1,<-e2];exact hrun
  ·
   rw[<-e1,<-e2];exact run_entry_at _ r bn s seen es c' x hself hb' hxe ((KDR es c').1 F.stamped).2.1
  ·
   have e4:ck=c':=by rw[hb] at i4;simpa using i4.symm
   exact⟨s,c',c',hself,i2,by omega,hb',by omega⟩
theorem Ls.clear (h:Ls w0 w ds P ve hs E bn bx r es l OY lx seen):∃w',(∀ty,(Builtin.clear_ #[130] ty #[.map (some bn)]).run Tryz.prog w = .ok (.tuple #[]) w')/\Mt w0 w' ds P ve hs E bx bn OY lx:=by
 obtain⟨c,hb,F⟩:=h.wn.ex;have hg:w.grownBy (setBlock w bn (.map #[] c)) (some bn):=⟨rfl,rfl,rfl,by simp[setBlock],fun i _ hi=>heap_setBlock_other hb _ (fun e=>hi (by rw[e]))⟩;have st:BA P w (setBlock w bn (.map #[] c)):=BA.Dn hg (fun g e hp=>by have:=KAI e;subst this;exact h.gn.2 hp);refine⟨_,fun ty=>?_,⟨fun g hp=>⟨(h.low g hp).1,KAC (h.low g hp).2 hg.size⟩,h.en.other hg h.wn.Kw,h.nE,h.nz,h.K.grown hg (fun g e=>by have:=KAI e;subst this;exact h.gn.1),h.wx.kept hg (fun e=>h.ne (KAI e)),⟨⟨c,heap_setBlock_same hb _,⟨by simp,⟨by simp,by simp,by simp⟩,by simp⟩⟩,fun x hx=>by simp at hx,fun p hp=>by cases hp⟩,fun e=>h.ne e.symm,h.gx,h.gn,fun p hp=>(h.Sd p hp).on st⟩⟩;simp[Builtin.clear_,run_underlying Tryz.underlying130,MapKept.run_getObj_map hb,MapKept.run_setObj_map _ hb,Result.andThen,setBlock]
theorem Wv.len {g:Nat}(h:Wv w g es l):∀ty,(Builtin.len_ #[130] ty #[.map (some g)]).run Tryz.prog w = .ok (.int .i64 es.size) w:=by
 obtain⟨c,hb,F⟩:=h.ex;intro ty;simp[Builtin.len_,run_underlying Tryz.underlying130,MapKept.run_getObj_map hb,goInt,Result.andThen]
theorem Wv.pw {g:Nat}(h:Wv w g es l):es.toList.Pairwise (fun x y=>x.key≠y.key):=by
 obtain⟨c,hb,F⟩:=h.ex;exact ((KDR es c).1 F.stamped).2.2
theorem Wv.nd {g:Nat}(h:Wv w g es l):(es.toList.map (·.born)).Nodup:=by
 obtain⟨c,hb,F⟩:=h.ex;exact ((KDR es c).1 F.stamped).2.1
end
structure Tg (S:Sy)(n:Int)(es:Array MapEntry)(l:List (BV×Bd))(seen:Array Nat)(dn:List Bd)(lx:List (BV×Bd))(E:List (List Int)):Prop where
 nn:0<=n
 full:GW S n (l.map (·.2))
 done:FZ S n dn (lx.map (·.2)) E
 sd:∀x∈es.toList,seen.contains x.born=true->∃b∈dn,x.key=Hs b
 ds:∀b∈dn,∃x∈es.toList,seen.contains x.born=true/\x.key=Hs b
theorem qP {b b':Bd}(h:Bl b b'):Hs b=Hs b':=by unfold Hs Up;rw[dz h]
theorem Tg.new {S:Sy}{n:Int}{es:Array MapEntry}{l:List (BV×Bd)}{E:List (List Int)}(hn:0<=n)(F:GW S n (l.map (·.2)))(D:FZ S n [] [] E):Tg S n es l #[] [] [] E:=
 ⟨hn,F,D,fun x hx h=>by simp at h,fun b hb=>by cases hb⟩
theorem Tg.one {S:Sy}{n:Int}{es:Array MapEntry}{l lx:List (BV×Bd)}{seen:Array Nat}{dn:List Bd}{E:List (List Int)}(h:Tg S n es l seen dn lx E){p:BV×Bd}(hp:p∈l):S.R p.2/\S.tm p.2=n:=h.full.of _ (KAv.2 ⟨p,hp,rfl⟩)
theorem Tg.AK {S:Sy}(ok:LS S){n:Int}{es:Array MapEntry}{l lx:List (BV×Bd)}{seen:Array Nat}{dn:List Bd}{E:List (List Int)}(h:Tg S n es l seen dn lx E){p:BV×Bd}(hp:p∈lx):S.R p.2:=by
 obtain⟨b,hb,hx⟩:=h.done.of _ (KAv.2 ⟨p,hp,rfl⟩);exact (ok.step (h.done.dns b hb).1 hx).1
theorem Tg.step {S:Sy}(ok:LS S){n:Int}{es:Array MapEntry}{l lx lq:List (BV×Bd)}{seen:Array Nat}{dn:List Bd}{E:List (List Int)}(h:Tg S n es l seen dn lx E)(pw:es.toList.Pairwise (fun x y=>x.key≠y.key))(nd:(es.toList.map (·.born)).Nodup){x:MapEntry}{p:BV×Bd}(hx:x∈es.toList)(hs:seen.contains x.born=false)(hp:p∈l)(hk:x.key=Hs p.2)(hq:lq.map (·.2)=S.nx p.2):
  Tg S n es l (seen.push x.born) (dn++[p.2]) (lx++lq) (if S.en p.2=true then E++[An p.2] else E):=by
 obtain⟨hR,ht⟩:=h.one hp
 have hno:∀b'∈dn,¬Bl b' p.2:=fun b' hb' he=>by
  obtain⟨y,hy,hys,hyk⟩:=h.ds b' hb';have e:y=x:=entry_eq_of_key pw hy hx (by rw[hyk,hk,qP he]);rw[e,hs] at hys;cases hys
 have cp:∀y:Nat,(seen.push x.born).contains y=true↔seen.contains y=true\/y=x.born:=fun y=>by
  rw[contains_push,KBw,KCp]
 refine⟨h.nn,h.full,?_,fun y hy hys=>?_,fun b hb=>?_⟩
 ·
  rw[KBB,hq];exact h.done.one ok hR ht hno
 ·
  rcases (cp _).1 hys with q|q
  ·
   obtain⟨b,hb,e⟩:=h.sd y hy q;exact⟨b,KB3 _ hb,e⟩
  ·
   have:y=x:=born_inj nd hy hx q;exact⟨p.2,by simp,by rw[this,hk]⟩
 ·
  rcases KA0.1 hb with q|q
  ·
   obtain⟨y,hy,hys,hyk⟩:=h.ds b q;exact⟨y,hy,(cp _).2 (.inl hys),hyk⟩
  ·
   rw[KBD] at q;subst q;exact⟨x,hx,(cp _).2 (.inr rfl),hk⟩
theorem Tg.end {ds:List (List Dd)}{S:Sy}(ok:LS S)(Z:Rp ds S){w:World}{g:Nat}{n:Int}{es:Array MapEntry}{l lx:List (BV×Bd)}{seen:Array Nat}{dn:List Bd}{E:List (List Int)}(h:Tg S n es l seen dn lx E)(hW:Wv w g es l)(h0:(leftOf es seen).size=0):GW S (n+1) (lx.map (·.2))/\FZ S (n+1) [] [] E:=by
 refine h.done.next ok h.nn h.full (fun b hb=>?_);obtain⟨p,hp,rfl⟩:=KAv.1 hb;obtain⟨x,hx,hk⟩:=hW.yE p hp;obtain⟨b',hb',e⟩:=h.sd x hx (all_seen es seen h0 x hx);refine⟨b',hb',Z.stand (h.one hp).1 (h.done.dns b' hb').1 (kM (by rw[<-hk,e]))⟩
def Yc (w:World):Nat:=w.heap.size
def aj (w:World):World:=w.alloc (.map #[] 0)
theorem p9 (t:TypeId)(w:World):(Instr.makeMap t none).run Tryz.prog w = .ok (.map (some (Yc w))) (aj w):=rfl
theorem AX (w:World):AC w (aj w):=(AC.refl w).alloc _
theorem DT (w:World):(aj w).heap.size=w.heap.size+1:=by unfold aj;rw[AD]
theorem Wv.mk' (w:World):Wv (aj w) (Yc w) #[] []:=Wv.new w
structure xk (ds:List (List Dd))(S:Sy):Prop where
 sz:∀ {b},S.R b->MS ds b
 en:∀ {b},S.R b->Jo ds b=S.en b
 sh:∀ {b},S.R b->S.en b=true->Lq ds b=An b
 sl:∀ {b},S.R b->S.en b=true->(An b).length<=15
 nl:∀ {b},S.R b->(S.nx b).length<=1000
 fe:∀L:List (List Int),L.Nodup->(∀z∈L,∃b,S.R b/\S.en b=true/\z=An b)->L.length<=78125
def Yi (g:Nat)(ds:List (List Dd))(S:Sy):Prop:=∀(w:World) (v:BV) (b:Bd),S.R b->Cw w v ds b->Calls Tryz.prog g #[v.agg] w fun e w'=>∃v',e = .returned v'/\nH w w' v' ds (S.nx b)/\AC w w'
theorem Mt.new {w w1 w2 w3 wx:World}{ds:List (List Dd)}{b:Bd}{bv:BV}{bn bx:Nat}{es:Array MapEntry}(K1:AC w w1)(hE:w1.heap[w.heap.size]? = some (.cells #[] 25 (0,0)))(s1:w1.heap.size=w.heap.size+1)(k2:AC w1 w2)(F:Dh w2 w1.heap.size w2.heap.size bv ds b)(k3:AC w2 w3)(kx:AC w3 wx)(hn:Wv wx bn es [(bv,b)])(hx:Wv wx bx #[] [])(hne:bn≠bx)(hbn:w3.heap.size<=bn)(hbx:w3.heap.size<=bx):
  Mt w wx ds (fun g=>w1.heap.size<=g/\g<w2.heap.size) (.slice (some ⟨w.heap.size,0,none⟩) 0 0) [] [] bn bx es [(bv,b)]:=by
 have z2:=k2.size;have z3:=k3.size;have zx:=kx.size;have kk:=k2.trans (k3.trans kx);refine⟨fun g hg=>by omega,⟨⟨fun o ho=>?_,fun o o' ho ho' hne=>?_⟩,rfl⟩,fun g hg hp=>?_,by simp,K1.trans kk,hn,hx,hne,⟨by omega,by omega⟩,⟨by omega,by omega⟩,fun p hp=>?_⟩
 ·
  cases o with
  |none=>exact⟨by simp[Lk],.inr ⟨w.heap.size,0,#[],rfl,KAM _,(KAW kk _ (by omega)).trans hE,KAM _,by decide,by simp,by simp[Lk]⟩⟩
  |some i=>exact absurd (show i<0 from ho) (by omega)
 ·
  cases o with
  |none=>
   cases o' with
   |none=>exact absurd rfl hne
   |some i=>exact absurd (show i<0 from ho') (by omega)
  |some i=>exact absurd (show i<0 from ho) (by omega)
 ·
  have:=KAI hg;simp only at this;omega
 ·
  rw[KBD] at hp;subst hp;exact F.held.on (BA.B7 (k3.trans kx))
end
section
abbrev Eo (hs:List Value)(i:Nat):Value:=hs.getD i AF
abbrev iT (E:List (List Int))(i j:Nat):Int:=Gd (E.getD i []) (E.getD j [])
theorem yU (E:List (List Int))(i j:Nat):ltOf (iT E) i j=Bz (E.getD i []) (E.getD j []):=PS _ _
theorem swoE (E:List (List Int)):SWO (ltOf (iT E)) where
 irrefl x:=by rw[yU];exact E4 _
 trans x y z h1 h2:=by rw[yU] at *;exact Fl _ _ _ h1 h2
 ntrans x y z h1 h2:=by
  rw[yU] at *
  cases h:Bz (E.getD x []) (E.getD z []) with
  |false=>rfl
  |true=>
   rcases Hc (E.getD y []) (E.getD z []) with e|e|e
   . rw[e] at h1;rw[h] at h1;cases h1
   . rw[e] at h2;cases h2
   . rw[Fl _ _ _ h e] at h1;cases h1
theorem OB {α:Type}[Inhabited α](enc:α->Value)(w:World)(g m:Nat)(d:Array α)(os:Array Obj):w.grownBy (sortWorld enc w g 0 m d os) (some g):=by
 unfold sortWorld;refine⟨rfl,rfl,rfl,?_,fun i hi hne=>?_⟩
 ·
  show w.heap.size<=((putRow enc (Sort.ahead w m) g 0 d).heap++os).size;rw[Array.size_append,size_putRow];exact Nat.le_add_right _ _
 ·
  show ((putRow enc (Sort.ahead w m) g 0 d).heap++os)[i]? = _;rw[Array.getElem?_append_left (by rw[size_putRow];exact hi)];show ((Sort.ahead w m).heap.modify g (onCells (putCells enc 0 d)))[i]? = _;rw[KDB,KAQ (fun e=>hne (by rw[e]))];rfl
theorem fJ {α:Type}[Inhabited α](enc:α->Value)(cur:Array Value)(d:Array α)(h:d.size<=cur.size):(putCells enc 0 d cur).toList.take d.size=d.toList.map enc:=by
 apply KC4;intro i;rw[KCK,KBN];by_cases hi:i<d.size
 ·
  rw[KAP hi];unfold putCells;rw[KCM,Array.getElem?_mapIdx,KBq (by omega),KCM,KBq hi];simp[hi]
 ·
  rw[KAQ hi,KCM,KC3 (by omega)];rfl
theorem eu {α:Type}[Inhabited α](enc:α->Value)(w:World)(g m:Nat)(d:Array α)(os:Array Obj)(cur:Array Value)(t:TypeId)(h:w.heap[g]? = some (.cells cur t (0,0))):(sortWorld enc w g 0 m d os).heap[g]? = some (.cells (putCells enc 0 d cur) t (0,0)):=by
 have hl:=(KAm.1 h).1;unfold sortWorld;show ((putRow enc (Sort.ahead w m) g 0 d).heap++os)[g]? = _;rw[Array.getElem?_append_left (by rw[size_putRow];exact hl)];show ((Sort.ahead w m).heap.modify g (onCells (putCells enc 0 d)))[g]? = _;rw[KDB,KAP rfl];show Option.map _ (w.heap[g]?)=_;rw[h];rfl
theorem Ch.parts {w:World}{m:Nat}{v:Value}{hs:List Value}{E:List (List Int)}(h:Ch 25 Bk w m v hs E)(hz:v≠.slice none 0 0):∃g cap cur,v = .slice (some ⟨g,0,none⟩) hs.length cap/\m<=g/\w.heap[g]? = some (.cells cur 25 (0,0))/\hs.length<=cap/\cap<=maxLen/\cur.size=cap*1/\cur.toList.take hs.length=hs/\hs.length<=cur.size:=by
 rcases (h.Ag.own none trivial).2 with ⟨q,_⟩|⟨g,cap,cur,q,hb,hh,hc,hmx,hsz,ht⟩
 . exact absurd q hz
 have ht:cur.toList.take (hs.length*1)=hs:=ht;rw[KCj] at ht;refine⟨g,cap,cur,q,hb,hh,hc,hmx,hsz,ht,?_⟩;have:=KBf List.length ht;rw[KAz,KCJ] at this;exact KAU (KBP this.symm) (Nat.min_le_right _ _)
section
variable {w W:World} {m g cap:Nat} {hs:List Value} {E:List (List Int)} (h:Ch 25 Bk w m (.slice (some ⟨g,0,none⟩) hs.length cap) hs E)
include h
theorem Ch.ne:∀i,i<hs.length->∀b,(hs.getD i AF).ownBlock=some b->b≠g:=fun i hi b hb e=>by
 rcases h.Ag.apart (some i) none hi trivial (by simp) with h1|h1
 . rw[show (Lk 25 Bk (.slice (some ⟨g,0,none⟩) hs.length cap) hs E (some i)).v=hs.getD i AF from rfl,hb] at h1;cases h1
 ·
  apply h1;rw[show (Lk 25 Bk (.slice (some ⟨g,0,none⟩) hs.length cap) hs E (some i)).v=hs.getD i AF from rfl,hb,e];rfl
theorem Ch.mo (hW:w.grownBy W (some g)):∀i,i<hs.length->(Bk (E.getD i []) (hs.getD i AF)).own W m:=fun i hi=>E5 (h.Ag.own (some i) hi) (fun b hb=>hW.block b (h.Ag.lt (i:=some i) hi b hb).2 (fun e=>h.ne i hi b hb (KAI e)))
theorem Ch.qL (hW:w.grownBy W (some g))(i:Nat):Rd W (hs.getD i AF) (E.getD i []):=by
 by_cases hi:i<hs.length
 . exact A8.rd (h.mo hW i hi)
 ·
  have:=h.len;rw[IT,KA9 (by omega),IT,KA9 (by omega)];exact⟨none,0,rfl,.inl rfl⟩
theorem Ch.pick (hW:w.grownBy W (some g)){cur:Array Value}(hb:m<=g)(hmx:cap<=maxLen)(hsz:cur.size=cap*1)(hrow:W.heap[g]? = some (.cells cur 25 (0,0)))(is:List Nat)(hc:is.length<=cap)(ht:cur.toList.take is.length=is.map (Eo hs))(hlt:∀i,i∈is->i<hs.length)(nd:is.Nodup):
  Ch 25 Bk W m (.slice (some ⟨g,0,none⟩) is.length cap) (is.map (Eo hs)) (is.map (fun i=>E.getD i [])):=by
 have hl:=h.len;have hg:(Value.slice (some ⟨g,0,none⟩) is.length cap).ownBlock=some g:=rfl;have uZ:∀i,i<is.length->is.getD i 0<hs.length:=fun i hi=>hlt _ (by rw[IT,KAH hi];exact KBI _)
 have Zo:∀i,i<is.length->(is.map (Eo hs)).getD i AF=hs.getD (is.getD i 0) AF:=fun i hi=>by
  rw[IT,KBN,KAH hi,IT (l:=is),KAH hi];rfl
 have getE:∀i,i<is.length->(is.map (fun i=>E.getD i [])).getD i []=E.getD (is.getD i 0) []:=fun i hi=>by
  rw[IT,KBN,KAH hi,IT (l:=is),KAH hi];rfl
 have lv:∀i,FI (is.map (Eo hs)).length (some i)->i<is.length:=fun i ho=>by
  have:i<(is.map (Eo hs)).length:=ho
  rwa [KAj] at this
 refine⟨⟨fun o ho=>?_,fun o o' ho ho' hne=>?_⟩,by rw[KAj,KAj]⟩
 ·
  cases o with
  |none=>
   refine⟨by show (is.map (Eo hs)).length=_;exact (KCj _).symm,.inr ⟨g,cap,cur,?_,hb,hrow,?_,hmx,hsz,?_⟩⟩
   ·
    show Value.slice (some ⟨g,0,none⟩) is.length cap = .slice _ (is.map (Eo hs)).length cap;rw[KAj]
   ·
    show (is.map (Eo hs)).length<=cap;rw[KAj];exact hc
   ·
    show cur.toList.take ((is.map (Eo hs)).length*1)=is.map (Eo hs);rw[KCj,KAj];exact ht
  |some i=>
   have hi:=lv i ho;show (Bk ((is.map (fun i=>E.getD i [])).getD i []) ((is.map (Eo hs)).getD i AF)).own _ m;rw[Zo i hi,getE i hi];exact h.mo hW _ (uZ i hi)
 ·
  cases o with
  |none=>
   cases o' with
   |none=>exact absurd rfl hne
   |some j=>
    have hj:=lv j ho';refine .inr (fun e=>?_);have e:(Value.slice (some ⟨g,0,none⟩) is.length cap).ownBlock=((is.map (Eo hs)).getD j AF).ownBlock:=e;rw[Zo j hj,hg] at e;exact h.ne _ (uZ j hj) g e.symm rfl
  |some i=>
   have hi:=lv i ho
   cases o' with
   |none=>
    show ((is.map (Eo hs)).getD i AF).ownBlock=none\/((is.map (Eo hs)).getD i AF).ownBlock≠(Value.slice (some ⟨g,0,none⟩) is.length cap).ownBlock;rw[Zo i hi,hg]
    cases hq:(hs.getD (is.getD i 0) AF).ownBlock with
    |none=>exact .inl rfl
    |some b=>exact .inr (fun e=>h.ne _ (uZ i hi) b hq (KAI e))
   |some j=>
    have hj:=lv j ho';show ((is.map (Eo hs)).getD i AF).ownBlock=none\/((is.map (Eo hs)).getD i AF).ownBlock≠((is.map (Eo hs)).getD j AF).ownBlock;rw[Zo i hi,Zo j hj]
    have hd:is.getD i 0≠is.getD j 0:=fun e=>by
     rw[IT,IT,KAH hi,KAH hj] at e;exact hne (by rw[(List.getElem_inj nd).1 e])
    exact h.Ag.apart (some _) (some _) (uZ i hi) (uZ j hj) (by simpa using hd)
theorem Ch.one:OneCell (Eo hs):=fun i=>by
 obtain⟨a,c,e,_⟩:=h.qL (KBW _ _) i;show (hs.getD i AF).oneCell'=true;rw[e];rfl
theorem Ch.holds {cur:Array Value}(hh:w.heap[g]? = some (.cells cur 25 (0,0)))(ht:cur.toList.take hs.length=hs):Holds (Eo hs) w g 0 (Array.range hs.length):=fun j hj=>by
 have _:=h.len;rw[Array.size_range] at hj;refine⟨?_,KA1 w g (0+j) _ _ hh⟩;rw[KAL w g (0+j) _ _ _ hh,KBC,getElem!_pos _ j (by rw[Array.size_range];exact hj),Array.getElem_range];have e1:(cur.toList.take hs.length)[j]? = hs[j]?:=by rw[ht]
 rw[KCK,KAP hj,KCM] at e1;rw[e1,KAH hj];show _=some (hs.getD j AF);rw[IT,KAH hj];rfl
end
theorem RQ (w:World)(m:Nat)(v:Value)(hs:List Value)(E:List (List Int))(h:Ch 25 Bk w m v hs E)(hz:v≠.slice none 0 0)(hn:E.length<=1099511627776)(hm:∀i,i<E.length->(E.getD i []).length<=1048576):
  Calls Tryz.prog 81 #[v,.func (Fn.func 82) #[] #[]] w fun e w'=>e = .returned (.tuple #[])/\∃hs' E',Ch 25 Bk w' m v hs' E'/\E'.Perm E/\(∀i j,i<j->j<E'.length->Bz (E'.getD j []) (E'.getD i [])=false)/\w.grownBy w' v.ownBlock:=by
 obtain⟨g,cap,cur,rfl,hb,hh,hc,hmx,hsz,ht,hcur⟩:=h.parts hz;have hl:=h.len
 have hm':∀i,(E.getD i []).length<=1048576:=fun i=>by
  by_cases hi:i<hs.length
  . exact hm i (by omega)
  . rw[IT,KA9 (by omega)];simp
 have yJ:(Array.range hs.length).size=hs.length:=Array.size_range;have hold:=h.holds hh ht
 have lays:CmpLays1 Tryz.prog 82 #[] (Eo hs) (iT E) g 0 (Array.range hs.length).size w:=fun mm os dk _ x y=>by
  have hW:=OB (Eo hs) w g mm dk os;refine (ZT _ _ _ (E.getD x []) (E.getD y []) (h.qL hW x) (h.qL hW y) (hm' x) (hm' y)).mono ?_;rintro e w' ⟨rfl,rfl⟩;exact⟨rfl,0,#[],by rw[grow_empty];rfl⟩
 have eg:∀args w,(callFunc 82 args).run Tryz.prog w = .ok (.enter 82 args) w:=enters_of Tryz.func82 (by kernel_rfl) rfl;have C:=Any.slices_SortFunc Tryz.srt (Eo hs) h.one (iT E) (swoE E) 82 #[] g 0 cap (Array.range hs.length) w eg lays hold (KAm.1 hh).1 (by rw[yJ];omega);rw[yJ] at C;refine Calls.mono C ?_;rintro e w' ⟨rfl,d',mm,os,hp,hs',rfl⟩;obtain⟨p1,-,p3⟩:=hp;rw[yJ] at p1;have hW:=OB (Eo hs) w g mm d' os;have hrow:=eu (Eo hs) w g mm d' os cur _ hh
 have hperm:d'.toList.Perm (List.range hs.length):=by
  have e1:(d'.extract 0 hs.length).toList=d'.toList:=by rw[<-p1,Array.extract_size]
  have e2:((Array.range hs.length).extract 0 hs.length).toList=List.range hs.length:=by
   have:(Array.range hs.length).extract 0 hs.length=Array.range hs.length:=by
    have q:=Array.extract_size (xs:=Array.range hs.length)
    rwa [yJ] at q
   rw[this,Array.toList_range]
  rw[e1,e2] at p3;exact p3
 have uY:d'.toList.length=hs.length:=by rw[KCJ,p1]
 have P:=h.pick hW hb hmx (cur:=putCells (Eo hs) 0 d' cur) (by unfold putCells;rw[Array.size_mapIdx];exact hsz) hrow d'.toList (by omega) (by rw[KCJ];exact fJ (Eo hs) cur d' (by omega)) (fun i hi=>KAd.1 (hperm.mem_iff.1 hi)) (hperm.nodup_iff.2 KCt);rw[uY] at P;refine⟨rfl,_,_,P,?_,fun i j hij hj=>?_,hW⟩
 ·
  have e1:(List.range hs.length).map (fun i=>E.getD i [])=E:=by
   apply List.ext_getElem (by simp[hl]);intro i h1 h2;rw[List.getElem_map,List.getElem_range,IT,KAH h2];rfl
  have:=hperm.map (fun i=>E.getD i [])
  rwa [e1] at this
 ·
  have hj':j<hs.length:=by rwa [KAj,uY] at hj
  have q:=hs' i j (KAb _) hij hj';rw[yU] at q
  have gd:∀k,k<hs.length->(d'.toList.map (fun i=>E.getD i [])).getD k []=E.getD (d'[k]!) []:=fun k hk=>by
   rw[IT,KBN,KAH (by omega),getElem!_pos _ k (by omega)];rfl
  rw[gd j hj',gd i (by omega)];exact q
end
theorem Si (w:World)(v:BV)(AA:List (List Dd))(b:Bd)(h:Cw w v AA b)(hd:AA.length<=1048576)(hx:AA.length<=b.AK.length)(hn:AA.length<=b.AJ.length):
  Calls Tryz.prog 107 #[v.agg] w fun e w'=>e = .returned (.bool (NA AA b))/\AC w w':=by
 obtain⟨aW,aP,aL,aN,aX,aS,aF,aR,cW,cP,cL,cN,cX,cS,cF,cR,rfl⟩:=h.shapes;have KW:AC w (w.alloc (.cells #[.slice aW AA.length cW,.slice aP b.AM.length cP,.slice aL b.AQ.length cL,.slice aN b.AJ.length cN,.slice aX b.AK.length cX,.slice aS b.sn.length cS,.slice aF b.fr.length cF,.slice aR b.rws.length cR] 103)):=(AC.refl w).alloc _;have c0:(w.alloc (.cells #[.slice aW AA.length cW,.slice aP b.AM.length cP,.slice aL b.AQ.length cL,.slice aN b.AJ.length cN,.slice aX b.AK.length cX,.slice aS b.sn.length cS,.slice aF b.fr.length cF,.slice aR b.rws.length cR] 103)).cell? ⟨w.heap.size,0,none⟩=some (.slice aW AA.length cW):=AO (AC.refl _) 0;have c3:(w.alloc (.cells #[.slice aW AA.length cW,.slice aP b.AM.length cP,.slice aL b.AQ.length cL,.slice aN b.AJ.length cN,.slice aX b.AK.length cX,.slice aS b.sn.length cS,.slice aF b.fr.length cF,.slice aR b.rws.length cR] 103)).cell? ⟨w.heap.size,3,none⟩=some (.slice aN b.AJ.length cN):=AO (AC.refl _) 3;have c4:(w.alloc (.cells #[.slice aW AA.length cW,.slice aP b.AM.length cP,.slice aL b.AQ.length cL,.slice aN b.AJ.length cN,.slice aX b.AK.length cX,.slice aS b.sn.length cS,.slice aF b.fr.length cF,.slice aR b.rws.length cR] 103)).cell? ⟨w.heap.size,4,none⟩=some (.slice aX b.AK.length cX):=AO (AC.refl _) 4;have h':=h.keep KW;go_enter Tryz.func107,Tryz.ntmps107
 go_wp2;generalize (w.alloc (.cells #[.slice aW AA.length cW,.slice aP b.AM.length cP,.slice aL b.AQ.length cL,.slice aN b.AJ.length cN,.slice aX b.AK.length cX,.slice aS b.sn.length cS,.slice aF b.fr.length cF,.slice aR b.rws.length cR] 103))=w1 at *;have HH:=AI h';clear h h';go_loopw [3,4,8] (fun _ _ i wr=>∃k:Nat,k<=AA.length/\i = .int .i64 k/\Hid (∀j,j<k->(decide (((AA.getD j []).length:Int)<=b.AK.getD j 0)&&(b.AJ.getD j []).isEmpty)=true)/\wr=w1) (fun _ _ i _=>AA.length-(intOf i).toNat)
 case atStart=>exact⟨0,KAb _,rfl,AI (fun j hj=>absurd hj (KB1 _)),rfl⟩
 case round=>
  obtain⟨k,hk,rfl,hno,rfl⟩:=hrel;by_cases hlt:k<AA.length
  ·
   have lX:k<b.AK.length:=by omega
   have lN:k<b.AJ.length:=by omega
   obtain⟨a',c',he',hX⟩:=HH.out.X;simp only[KAT,KA8] at he';obtain⟨rfl,rfl⟩:=he';rcases hX with h0|⟨bx,ox,rfl,hbx,hcx⟩
   . exfalso;rw[h0] at lX;simp at lX
   obtain⟨a',c',he',hW⟩:=HH.out.W;simp only[KAT,KA8] at he';obtain⟨rfl,rfl⟩:=he';rcases hW with h0|⟨bw,ow,rfl,hbw,hcw⟩
   . exfalso;rw[h0] at hlt;simp at hlt
   obtain⟨a',c',he',hN⟩:=HH.out.N;simp only[KAT,KA8] at he';obtain⟨rfl,rfl⟩:=he';rcases hN with h0|⟨bn,on,rfl,hbn,hcn⟩
   . exfalso;rw[h0] at lN;simp at lN
   have d1:=hcx k lX;obtain⟨vw,d2,r2⟩:=hcw k hlt;obtain⟨vn,d3,r3⟩:=hcn k lN;have HF:(decide (((AA.getD k []).length:Int)<=b.AK.getD k 0)&&(b.AJ.getD k []).isEmpty)=false->Hid (NA AA b=false):=fun e=>AI (FC hlt e)
   have HT:(decide (((AA.getD k []).length:Int)<=b.AK.getD k 0)&&(b.AJ.getD k []).isEmpty)=true->Hid (∀j,j<k+1->(decide (((AA.getD j []).length:Int)<=b.AK.getD j 0)&&(b.AJ.getD j []).isEmpty)=true):=fun e=>AI (fun j hj=>by
    by_cases e':j=k
    . rw[e'];exact e
    . exact hno.out j (by omega))
   obtain⟨aw,cw,rfl,-⟩:=r2;obtain⟨an,cn,rfl,-⟩:=r3;generalize b.AK.getD k 0=x at d1 HF HT;generalize (AA.getD k []).length=wl at d2 HF HT;generalize b.AJ.getD k []=ns at d3 HF HT;have j1:(0:Int)<=(k:Int):=KAK _;have j2:(k:Int)<(AA.length:Int):=by omega
   have j3:(k:Int)<(b.AK.length:Int):=by omega
   have j4:(k:Int)<(b.AJ.length:Int):=by omega
   clear hcx hcw hcn hno HH;by_cases t1:x<(wl:Int)
   ·
    have HE:=HF (by rw[KAi (by omega)];rfl);clear HF HT;go_wp2;go_ret;exact⟨by rw[HE.out];rfl,KW⟩
   have t1':decide (x<(wl:Int))=false:=KAi t1;by_cases t2:0<ns.length
   ·
    have HE:=HF (by
     have:ns.isEmpty=false:=by cases ns with|nil=>simp at t2|cons _ _=>rfl
     rw[this];simp)
    have t2':decide (0<ns.length)=true:=KAl t2;clear HF HT t1;go_wp2;go_ret;exact⟨by rw[HE.out];rfl,KW⟩
   ·
    have HE:=HT (by
     have:ns.isEmpty=true:=by cases ns with|nil=>rfl|cons _ _=>simp at t2
     rw[this,KAl (by omega)];rfl)
    have t2':decide (0<ns.length)=false:=KAi t2;clear HF HT t1 t2;go_wp2;go_roundw;case rel=>exact⟨k+1,by omega,by go_num,HE,trivial⟩
    case measure=>simp[intOf];omega
  ·
   obtain rfl:k=AA.length:=by omega
   have HE:Hid (NA AA b=true):=AI (Fe hno.out);go_wp2;go_ret;exact⟨by rw[HE.out];rfl,KW⟩
theorem UC (p0:Addr)(w:World):CallsD Tryz.prog 105 #[.pointer (some p0)] .returning w fun e u' w'=>e = .returned (.tuple #[])/\u' = .returning/\w'=w:=by
 refine KCb Tryz.func105 rfl fun c₀ cs hu=>?_
 apply wpS_seq;apply KC1;have hn:∀w:World,(binOp BinOp.neq 20 .nilIface .nilIface).run Tryz.prog w = .ok (.bool false) w:=fun _=>by kernel_rfl
 simp[wpOpsS,go_sem,recoverD,hu,Tryz.ntmps105,Exit.thenS,hn];refine KDP (t:=false) (by simp[Act.eval,Array.replicate]) ?_;simp only[KBO,KCU];refine KDG (wp_skip ?_);cases c₀;simp_all [bodyPostS,results,Tryz.results105]
theorem Wy (g:Nat)(w:World)(x:Value)(hg:w.heap[g]? = some (.cells #[x] 4 (0,0))):CallsD Tryz.prog 105 #[.pointer (some ⟨g,0,none⟩)] (.panicking [{ v:=X0,recovered:=false }]) w fun e u' w'=>e = .returned (.tuple #[])/\u' = .panicking [{ v:=X0,recovered:=true }]/\w'=w.setCell ⟨g,0,none⟩ (.bool false):=by
 have hc:w.cell? ⟨g,0,none⟩=some x:=by rw[KAL w g 0 _ _ _ hg];rfl
 have hf:w.frozen? ⟨g,0,none⟩=false:=KA1 w g 0 _ _ hg;have hv:∀w:World,(binOp BinOp.neq 20 X0 .nilIface).run Tryz.prog w = .ok (.bool true) w:=fun _=>by kernel_rfl
 refine KCb Tryz.func105 rfl fun c₀ cs hu=>?_
 apply wpS_seq;apply KC1;simp[wpOpsS,go_sem,recoverD,hu,Tryz.ntmps105,Exit.thenS,hv];refine KDP (t:=true) (by simp[Act.eval,Array.replicate]) ?_;simp only[KCT];refine KDG ?_;go_wp2;cases c₀;simp_all [bodyPostS,results,Tryz.results105]
theorem Oo (w:World)(v:BV)(AA:List (List Dd))(b:Bd)(h:Cw w v AA b)(hz:MS AA b):
  Calls Tryz.prog 78 #[v.agg] w fun e w'=>e = .returned (.bool (Jo AA b))/\AC w w':=by
 obtain⟨aW,aP,aL,aN,aX,aS,aF,aR,cW,cP,cL,cN,cX,cS,cF,cR,rfl⟩:=h.shapes;have C:=fun (W:World) (kW:AC w W)=>GL W _ AA b (h.keep kW) hz
 have HH:=AI h;have HZ:=AI hz;clear h hz;have hmf:∀(fn:Fn) (first cap:Array Value) (w:World),(Instr.makeFunc fn first cap).run Tryz.prog w = .ok (.func fn first cap) w:=fun _ _ _ _=>rfl
 obtain⟨w1,hw1⟩:∃W:World,W=((w.alloc (.cells #[.slice aW AA.length cW,.slice aP b.AM.length cP,.slice aL b.AQ.length cL,.slice aN b.AJ.length cN,.slice aX b.AK.length cX,.slice aS b.sn.length cS,.slice aF b.fr.length cF,.slice aR b.rws.length cR] 103)).alloc (.cells #[.bool false] 4)):=⟨_,rfl⟩;have K1:AC w w1:=by rw[hw1];exact ((AC.refl w).alloc _).alloc _
 have s1:w1.heap.size=w.heap.size+2:=by rw[hw1,AD,AD]
 have hR1:w1.heap[w.heap.size+1]? = some (.cells #[.bool false] 4 (0,0)):=by
  rw[hw1,<-AD w (.cells #[.slice aW AA.length cW,.slice aP b.AM.length cP,.slice aL b.AQ.length cL,.slice aN b.AJ.length cN,.slice aX b.AK.length cX,.slice aS b.sn.length cS,.slice aF b.fr.length cF,.slice aR b.rws.length cR] 103)];exact KAX _ _
 have hB1:w1.heap[w.heap.size]? = some (.cells #[.slice aW AA.length cW,.slice aP b.AM.length cP,.slice aL b.AQ.length cL,.slice aN b.AJ.length cN,.slice aX b.AK.length cX,.slice aS b.sn.length cS,.slice aF b.fr.length cF,.slice aR b.rws.length cR] 103 (0,0)):=by rw[hw1];exact (KAW ((AC.refl _).alloc _) _ (by rw[AD];omega)).trans (KAX _ _)
 go_enter_defers Tryz.func78,Tryz.ntmps78
 go_upto_region 2 with fail
 rw[<-hw1];clear hw1;go_wp2_with (first|refine KAq rfl 103 _ rfl w.heap.size rfl 103 _ (0,0) _ hB1 Tryz.underlying103 rfl AR ?_|fail)
 refine (C _ K1).mono ?_;rintro e w2 ⟨rfl,k2⟩;have K2:=K1.trans k2;have hR2:=(KAW k2 (w.heap.size+1) (by omega)).trans hR1;cases hb:Ap AA b
 ·
  rw[Ae rfl];have hS:=KAt w2 (w.heap.size+1) 0 _ _ (.bool false) hR2;have hc:(w2.setCell ⟨w.heap.size+1,0,none⟩ (.bool false)).cell? ⟨w.heap.size+1,0,none⟩=some (.bool false):=by rw[KAL _ _ 0 _ _ _ hS];rfl
  have KZ:=K2.grown (Ad w2 (w.heap.size+1) 0 (.bool false)) (fun k hk=>by have:=KAI hk;omega);go_wp2;refine KCr (f:=105) (args:=#[.pointer (some ⟨w.heap.size+1,0,none⟩)]) (by simp) (by simp[go_sem]) ?_;refine (Wy _ _ _ hR2).mono ?_;rintro e u' w9 ⟨rfl,rfl,rfl⟩;simp[Leaves,settle,results,Tryz.results78,go_sem,hc];exact⟨by unfold Jo;rw[hb];rfl,KZ⟩
 ·
  rw[Av rfl];have hB2:=(KAW k2 w.heap.size (by omega)).trans hB1;obtain⟨l1,l2⟩:=Tx hb;have CI:=Si w2 _ AA b (HH.out.keep K2) HZ.out.w1 (by omega) (by omega);clear l1 l2;go_wp2_with (first|refine KAq rfl 103 _ rfl w.heap.size rfl 103 _ (0,0) _ hB2 Tryz.underlying103 rfl AR ?_|fail)
  refine CI.mono ?_;rintro e w3 ⟨rfl,k3⟩;have K3:=K2.trans k3;have hR3:=(KAW k3 (w.heap.size+1) (by have:=k2.size;omega)).trans hR2;have HE:Hid (Jo AA b=NA AA b):=AI (by unfold Jo;rw[hb];rfl);clear hR2 hR1;generalize NA AA b=Z at *;have hc0:w3.cell? ⟨w.heap.size+1,0,none⟩=some (.bool false):=by rw[KAL w3 _ 0 _ _ _ hR3];rfl
  have hf:w3.frozen? ⟨w.heap.size+1,0,none⟩=false:=KA1 w3 _ 0 _ _ hR3;have hS:=KAt w3 (w.heap.size+1) 0 _ _ (.bool Z) hR3;have hc:(w3.setCell ⟨w.heap.size+1,0,none⟩ (.bool Z)).cell? ⟨w.heap.size+1,0,none⟩=some (.bool Z):=by rw[KAL _ _ 0 _ _ _ hS];rfl
  have KZ:=K3.grown (Ad w3 (w.heap.size+1) 0 (.bool Z)) (fun k hk=>by have:=KAI hk;omega);go_wp2;refine KCr (f:=105) (args:=#[.pointer (some ⟨w.heap.size+1,0,none⟩)]) (by simp) (by simp[go_sem]) ?_;refine (UC _ _).mono ?_;rintro e u' w9 ⟨rfl,rfl,rfl⟩;simp[Leaves,settle,results,Tryz.results78,go_sem,hc];exact⟨HE.out.symm,KZ⟩
end Go.Proofs.YtflehmepjhikcaaGreatDoor
