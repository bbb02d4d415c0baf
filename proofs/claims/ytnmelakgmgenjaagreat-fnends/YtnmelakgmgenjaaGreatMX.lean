/- Gathered texts. -/
import Derived.Test.YtnmelakgmgenjaaGreatMW
import Derived.Test.YtnmelakgmgenjaaGreatMN
import Derived.Deep.Cut
import Derived.Deep.QuietTactic
set_option maxRecDepth 100000
set_option maxHeartbeats 8000000
namespace Go.Proofs.YtnmelakgmgenjaaGreat
open Go.ChangeShapes Go.WideShapes Go.ChangeAt Go.RowKit
theorem Ix {AA:List (List Dd)}{b:Bd}{c:Nat}(_:AA.length<=3)(h:Bh AA b c=true)(hc:c<AA.length):Gv (Ad AA b) (c:Int)=true:=by
 unfold Gv Ad;rw[List.any_append,List.any_map];simp only[Bool.or_eq_true];left;rw[List.any_eq_true];exact⟨c,List.mem_filter.2 ⟨List.mem_range.2 hc,h⟩,by simp⟩
theorem Je {AA:List (List Dd)}{b:Bd}{c:Nat}(h:decide (0<(b.AG.getD c []).length)=true)(hc:c<AA.length):Gv (Ad AA b) (10+(c:Int))=true:=by
 unfold Gv Ad;rw[List.any_append];simp only[Bool.or_eq_true];right;rw[List.any_map,List.any_eq_true];refine⟨c,List.mem_filter.2 ⟨List.mem_range.2 hc,?_⟩,by simp⟩
 cases e:b.AG.getD c [] with
 |nil=>rw[e] at h;simp at h
 |cons x r=>rfl
theorem NY {AA:List (List Dd)}{b:Bd}{s:Int}(h0:∀c:Nat,c<AA.length->s=(c:Int)->Bh AA b c=false)(h1:∀c:Nat,c<AA.length->s=10+(c:Int)->decide (0<(b.AG.getD c []).length)=false):Gv (Ad AA b) s=false:=by
 cases e:Gv (Ad AA b) s with
 |false=>rfl
 |true=>
  exfalso;unfold Gv Ad at e;rw[List.any_append,List.any_map,List.any_map] at e;simp only[Bool.or_eq_true,List.any_eq_true,List.mem_filter,List.mem_range,Function.comp,beq_iff_eq] at e;rcases e with ⟨c,⟨hc,q⟩,e⟩|⟨c,⟨hc,q⟩,e⟩
  . rw[h0 c hc e.symm] at q;cases q
  ·
   have:=h1 c hc e.symm
   cases en:b.AG.getD c [] with
   |nil=>rw[en] at q;simp at q
   |cons x r=>rw[en] at this;simp at this
theorem Cf.wide {w:World}{m m' M M':Nat}{v:BV}{AA:List (List Dd)}{b:Bd}(h:Cf w m M v AA b)(hm:m'<=m)(hM:M<=M'):Cf w m' M' v AA b:=by
 obtain⟨Vw,Vn,Vr,h1,h2,h3⟩:=h.ex;have up:∀v n,dJ v n m->dJ v n m':=fun v n q b o l c e hn=>Nat.le_trans hm (q b o l c e hn)
 exact⟨h.rd,⟨Vw,Vn,Vr,h1,h2,fun x hx=>⟨Nat.le_trans hm (h3 x hx).1,Nat.lt_of_lt_of_le (h3 x hx).2 hM⟩⟩,up _ _ h.hd.1,up _ _ h.hd.2.1,up _ _ h.hd.2.2⟩
theorem BG.all {w:World}{m:Nat}{v:BV}{nv rv wv:List Value}{bs N:Nat}{AA:List (List Dd)}{b:Bd}(h:BG w m v nv rv bs N AA b)(lw:Dh w bs N v.W wv AA)(hm:m<=bs):Fy w m v nv rv wv AA b:=by
 have wl:∀o,Ek wv.length o->∀k,(LJ 62 S6 v.W wv AA o).v.ownBlock=some k->bs<=k/\k<N:=fun o ho k hk=>⟨(lw.ll.Ai.lt ho k hk).1,lw.lt o ho k hk⟩
 have cross:∀i,BZ nv rv i->i≠.bd->∀o,Ek wv.length o->(Ax 0 v nv rv b i).v.ownBlock=none\/(Ax 0 v nv rv b i).v.ownBlock≠(LJ 62 S6 v.W wv AA o).v.ownBlock:=fun i hi hb o ho=>by
  cases e:(Ax 0 v nv rv b i).v.ownBlock with
  |none=>exact .inl rfl
  |some k=>exact .inr (fun q=>by have:=h.out i hi hb k e;have:=wl o ho k q.symm;omega)
 have cross':∀o,Ek wv.length o->∀i,BZ nv rv i->i≠.bd->(LJ 62 S6 v.W wv AA o).v.ownBlock=none\/(LJ 62 S6 v.W wv AA o).v.ownBlock≠(Ax 0 v nv rv b i).v.ownBlock:=fun o ho i hi hb=>by
  cases e:(LJ 62 S6 v.W wv AA o).v.ownBlock with
  |none=>exact .inl rfl
  |some k=>exact .inr (fun q=>by have:=h.out i hi hb k q.symm;have:=wl o ho k e;omega)
 refine⟨⟨fun j hj=>?_,fun i j hi hj hij=>?_⟩,h.ln,h.lr,lw.ll.len⟩
 ·
  cases j with
  |b i=>exact h.Ai.own i hj
  |wk=>exact DS (lw.ll.Ai.own none trivial) hm
  |wd c=>exact DS (lw.ll.Ai.own (some c) hj) hm
 ·
  cases i with
  |b i=>
   cases j with
   |b j=>exact h.Ai.apart i j hi hj (fun e=>hij (by rw[e]))
   |wk=>exact cross i hi.1 hi.2 none trivial
   |wd c=>exact cross i hi.1 hi.2 (some c) hj
  |wk=>
   cases j with
   |b j=>exact cross' none trivial j hj.1 hj.2
   |wk=>exact absurd rfl hij
   |wd c=>exact lw.ll.Ai.apart none (some c) trivial hj (by simp)
  |wd c=>
   cases j with
   |b j=>exact cross' (some c) hi j hj.1 hj.2
   |wk=>exact lw.ll.Ai.apart (some c) none hi trivial (by simp)
   |wd d=>exact lw.ll.Ai.apart (some c) (some d) hi hj (fun e=>hij (by have:=Option.some.inj e;rw[this]))
theorem DT (w:World)(v:BV)(AA:List (List Dd))(b:Bd)(s:Int)(h:CV w v AA b)(hz:Gi AA b):
  Calls Tryz.prog 70 #[v.agg,.int .i64 s] w fun e w'=>∃bv':BV,e = .returned (.tuple #[bv'.agg,.bool (Hi AA b s)])/\Cf w' w.heap.size w'.heap.size bv' (GZ AA b) (B7 AA b s)/\AC w w':=by
 obtain⟨s0,hs0⟩:∃s0,s0=s:=⟨_,rfl⟩;have HS0:=Lib.hid hs0;clear hs0;have dm:=Lib.hid h;have CB:=fun (W:World) (kW:AC w W)=>Hb W v AA b (h.keep kW) hz
 obtain⟨aW,aP,aL,aN,aX,aS,aF,aR,cW,cP,cL,cN,cX,cS,cF,cR,rfl⟩:=h.shapes;clear h hz;obtain⟨w1,hw1⟩:∃W:World,W=(w.alloc (.cells #[.slice aW AA.length cW,.slice aP b.AM.length cP,.slice aL b.AO.length cL,.slice aN b.AG.length cN,.slice aX b.AL.length cX,.slice aS b.sn.length cS,.slice aF b.fr.length cF,.slice aR b.rws.length cR] 36)).alloc (.cells #[AE,AE,AE,AE,AE,AE,AE,AE] 36):=⟨_,rfl⟩;have K1:AC w w1:=by rw[hw1];exact ((AC.refl w).alloc _).alloc _
 have s1:w.heap.size+1<w1.heap.size:=by rw[hw1,AD,AD];omega
 have hB1:w1.heap[w.heap.size]? = some (.cells #[.slice aW AA.length cW,.slice aP b.AM.length cP,.slice aL b.AO.length cL,.slice aN b.AG.length cN,.slice aX b.AL.length cX,.slice aS b.sn.length cS,.slice aF b.fr.length cF,.slice aR b.rws.length cR] 36 (0,0)):=by rw[hw1];exact CX ((AC.refl _).alloc _)
 have hR1:w1.heap[w.heap.size+1]? = some (.cells #[AE,AE,AE,AE,AE,AE,AE,AE] 36 (0,0)):=by rw[hw1,<-AD w (.cells #[.slice aW AA.length cW,.slice aP b.AM.length cP,.slice aL b.AO.length cL,.slice aN b.AG.length cN,.slice aX b.AL.length cX,.slice aS b.sn.length cS,.slice aF b.fr.length cF,.slice aR b.rws.length cR] 36)];exact heap_alloc_new _ _
 go_enter Tryz.func70,Tryz.ntmps70
 go_upto_region 1 with fail
 rw[<-hw1];clear hw1;go_wp2_with (first|refine wpList_load_row rfl 36 _ rfl w.heap.size rfl 36 _ (0,0) _ hB1 Tryz.underlying36 rfl AK ?_|fail)
 refine (CB _ K1).mono ?_;rintro e w2 ⟨rfl,k2⟩;have K2:=K1.trans k2;have s2:=k2.size;have hB2:=(Below.block k2 w.heap.size (by omega)).trans hB1;have hR2:=(Below.block k2 (w.heap.size+1) (by omega)).trans hR1;clear CB hB1 hR1 k2;cases hb:AW AA b
 ·
  have HD:Hid (GZ AA b=[]):=Lib.hid (by unfold GZ;rw[hb];rfl);have HB:Hid (B7 AA b s=MV):=Lib.hid (by unfold B7;rw[hb];rfl);have HT:Hid (Hi AA b s=false):=Lib.hid (by unfold Hi;rw[hb];rfl);have HG:=Lib.hid (Af w2 (w.heap.size+1) #[AE,AE,AE,AE,AE,AE,AE,AE]);have HZ:=Lib.hid (setRow_heap w2 (w.heap.size+1) _ #[AE,AE,AE,AE,AE,AE,AE,AE] _ _ hR2);have HK:=Lib.hid (K2.grown HG.out (fun q hq=>by have:=Option.some.inj hq;omega));clear K2 hB2;go_wp2_with (first|refine wpList_store_row rfl 36 _ _ rfl (w.heap.size+1) _ rfl rfl 36 _ hR2 AK rfl (by simp[Value.oneCell']) ?_|fail)
  refine bodyPost_ret (As (by rfl) _ _ (w.heap.size+1) _ _ (0,0) _ (.bool false) rfl HZ.out rfl Tryz.underlying36 rfl AK) rfl ?_;exact⟨RY,by rw[HT.out],by rw[HD.out,HB.out];exact (PP _ _).free,HK.out⟩
 have vH:=Lib.hid (Di.of hb);have xC:Hid (AA.length<=3):=Lib.hid (Ay vH.out.work).1;have d3:=xC.out;go_wp2_with (first|refine wpList_load_row rfl 36 _ rfl w.heap.size rfl 36 _ (0,0) _ hB2 Tryz.underlying36 rfl AK ?_|fail)
 refine (MD w2 _ AA b (dm.out.keep K2) hb).mono ?_;rintro e w3 ⟨bv',nv,rv,wv,bs,N,rfl,OV,LW,l7,k3⟩;obtain⟨uW,uP,uL,uN,uX,uS,uF,uR,eW,eP,eL,eN,eX,eS,eF,eR,rfl⟩:=OV.rd0.shapes;have bG:=Lib.hid OV;have xJ:=Lib.hid LW;have s3:=k3.size;clear OV LW;obtain⟨w4,hw4⟩:∃W:World,W=w3.alloc (.cells #[.slice uW AA.length eW,.slice uP b.AM.length eP,.slice uL b.AO.length eL,.slice uN b.AG.length eN,.slice uX b.AL.length eX,.slice uS b.sn.length eS,.slice uF b.fr.length eF,.slice uR b.rws.length eR] 36):=⟨_,rfl⟩;have k4:AC w3 w4:=by rw[hw4];exact (AC.refl w3).alloc _
 have hM4:w4.heap[w3.heap.size]? = some (.cells #[.slice uW AA.length eW,.slice uP b.AM.length eP,.slice uL b.AO.length eL,.slice uN b.AG.length eN,.slice uX b.AL.length eX,.slice uS b.sn.length eS,.slice uF b.fr.length eF,.slice uR b.rws.length eR] 36 (0,0)):=by rw[hw4];exact heap_alloc_new _ _
 have y4:w3.heap.size<w4.heap.size:=by rw[hw4,AD];omega
 go_upto_region 4 with fail
 rw[<-hw4];clear hw4;go_wp2_with fail
 refine (Jt w4).mono ?_;rintro e w5 ⟨rfl,hw5⟩;have k5:AC w4 w5:=by rw[hw5];exact (AC.refl w4).alloc _
 have hT5:w5.heap[w4.heap.size]? = some (.cells Nl 122 (0,0)):=by rw[hw5];exact heap_alloc_new _ _
 have y5:w4.heap.size<w5.heap.size:=by rw[hw5,AD];omega
 have K35:=Lib.hid (k4.trans k5);have K25:=k3.trans (k4.trans k5);have K05:=Lib.hid (K2.trans K25);have XB5:=Lib.hid ((Below.block K25 w.heap.size (by omega)).trans hB2);have xO:=Lib.hid ((Below.block K25 (w.heap.size+1) (by omega)).trans hR2);have xK:=Lib.hid ((Below.block k5 w3.heap.size (by omega)).trans hM4);have XT5:=Lib.hid hT5;clear hw5 hB2 hR2 hM4 hT5 k3 k4 k5 K25 K2 K1;go_wp2;go_loopw [8,9,18] (fun _ _ i wr=>∃k:Nat,k<=2/\i = .int .i64 k/\AC w5 wr/\(1<=k->∀cc:Nat,cc<AA.length->(s0=(cc:Int))->Bh AA b cc=false)/\(2<=k->∀cc:Nat,cc<AA.length->(s0=10+(cc:Int))->decide (0<(b.AG.getD cc []).length)=false)) (fun _ _ i _=>2-(intOf i).toNat)
 case atStart=>exact⟨0,Nat.zero_le _,rfl,AC.refl _,fun q=>absurd q (by omega),fun q=>absurd q (by omega)⟩
 case round=>
  obtain⟨k,hk,rfl,kr,hn0,hn1⟩:=hrel;have sr:=kr.size;have hBr:=(Below.block kr w.heap.size (by omega)).trans XB5.out;have hTr:=(Below.block kr w4.heap.size (by omega)).trans XT5.out;by_cases hlt:k<2
  ·
   have k01:k=0\/k=1:=by omega
   rcases k01 with rfl|rfl
   ·
    clear hn0 hn1;obtain⟨q0,q1,q2⟩:=(JB hTr).1;obtain⟨wa,Ti⟩:∃W:World,W=(wr.alloc (.cells #[.int .i64 0,.nilFunc,.nilFunc] 122)).setRow wr.heap.size #[.int .i64 0,.func (.func 132) #[] #[],.func (.func 133) #[] #[]]:=⟨_,rfl⟩;have hA:(wr.alloc (.cells #[.int .i64 0,.nilFunc,.nilFunc] 122)).heap[wr.heap.size]? = some (.cells #[.int .i64 0,.nilFunc,.nilFunc] 122 (0,0)):=heap_alloc_new _ _;have g4:(wr.alloc (.cells #[.int .i64 0,.nilFunc,.nilFunc] 122)).grownBy wa (some wr.heap.size):=by rw[Ti];exact Af _ _ _
    have k4:AC wr wa:=((AC.refl wr).alloc _).grown g4 (fun q hq=>Nat.le_of_eq (Option.some.inj hq));have hQ4:wa.heap[wr.heap.size]? = some (.cells #[.int .i64 0,.func (.func 132) #[] #[],.func (.func 133) #[] #[]] 122 (0,0)):=by rw[Ti];exact setRow_heap _ _ _ _ _ _ hA
    have y4:wr.heap.size<wa.heap.size:=by have:=g4.size;rw[AD] at this;omega
    go_upto_region 7 with (first|refine wpList_store_row rfl 122 _ _ rfl wr.heap.size _ rfl rfl 122 _ hA I3 rfl (by simp[Value.oneCell']) ?_|fail)
    rw[<-Ti];clear Ti hA q0 q1 q2 g4;have kF:=kr.trans k4;have KA:=K05.out.trans kF;have hB4:=(Below.block k4 w.heap.size (by omega)).trans hBr;have z0:wa.cell? ⟨w.heap.size,0,none⟩=some (.slice aW AA.length cW):=by rw[cell_of_row wa _ 0 _ _ _ hB4];rfl
    have t0:wa.cell? ⟨wr.heap.size,0,none⟩=some (.int .i64 0):=by rw[cell_of_row wa _ 0 _ _ _ hQ4];rfl
    have t1:wa.cell? ⟨wr.heap.size,1,none⟩=some (.func (.func 132) #[] #[]):=by rw[cell_of_row wa _ 1 _ _ _ hQ4];rfl
    have hw1:IntKind.i64.wrap ((AA.length:Int))=(AA.length:Int):=by rw[IntKind.wrap_i64];omega
    have hw2:IntKind.i64.wrap ((AA.length:Int)-1)=(AA.length:Int)-1:=by rw[IntKind.wrap_i64];omega
    have s4:=k4.size;go_wp2_with fail
    refine (BH _ _ _ _).mono ?_;rintro e wa' ⟨rfl,ZB⟩;rw[ZB];clear ZB;by_cases hin:∃cc:Nat,cc<AA.length/\s=(cc:Int)
    ·
     obtain⟨cc,hcc,hs⟩:=hin;have hI:Cj s 0 ((AA.length:Int)-1)=true:=by unfold Cj;simp;omega
     rw[hI];subst hs;have hws:IntKind.i64.wrap ((cc:Int)-0)=(cc:Int):=by rw[IntKind.wrap_i64];omega
     have hws2:IntKind.i64.wrap (cc:Int)=(cc:Int):=by rw[IntKind.wrap_i64];omega
     have z1:wa.cell? ⟨w.heap.size,1,none⟩=some (.slice aP b.AM.length cP):=by rw[cell_of_row wa _ 1 _ _ _ hB4];rfl
     have z2:wa.cell? ⟨w.heap.size,2,none⟩=some (.slice aL b.AO.length cL):=by rw[cell_of_row wa _ 2 _ _ _ hB4];rfl
     have z3:wa.cell? ⟨w.heap.size,3,none⟩=some (.slice aN b.AG.length cN):=by rw[cell_of_row wa _ 3 _ _ _ hB4];rfl
     have z4:wa.cell? ⟨w.heap.size,4,none⟩=some (.slice aX b.AL.length cX):=by rw[cell_of_row wa _ 4 _ _ _ hB4];rfl
     have z5:wa.cell? ⟨w.heap.size,5,none⟩=some (.slice aS b.sn.length cS):=by rw[cell_of_row wa _ 5 _ _ _ hB4];rfl
     have z6:wa.cell? ⟨w.heap.size,6,none⟩=some (.slice aF b.fr.length cF):=by rw[cell_of_row wa _ 6 _ _ _ hB4];rfl
     have z7:wa.cell? ⟨w.heap.size,7,none⟩=some (.slice aR b.rws.length cR):=by rw[cell_of_row wa _ 7 _ _ _ hB4];rfl
     have CAN:=Lm wa _ AA b cc (dm.out.keep KA) hb hcc;clear hI;go_wp2_with fail
     refine CAN.mono ?_;rintro e wb ⟨rfl,kb⟩;have Ve:=kF.trans kb;have oC:=K35.out.trans Ve;have sb:=kb.size
     cases ht:Bh AA b cc with
     |false=>
      have HN:Hid (∀cc:Nat,cc<AA.length->(s0=(cc:Int))->Bh AA b cc=false):=Lib.hid (fun d hd e=>by
       have e2:(cc:Int)=(d:Int):=HS0.out.symm.trans e;obtain rfl:cc=d:=by omega
       exact ht)
      go_wp2;go_roundw;case rel=>exact⟨1,by omega,rfl,Ve,fun _=>HN.out,fun q=>absurd q (by omega)⟩
      case measure=>simp[intOf]
     |true=>
      have hQb:=(Below.block kb wr.heap.size y4).trans hQ4;have l6:=(Below.block Ve w3.heap.size (by omega)).trans xK.out;have hRb:=(Below.block Ve (w.heap.size+1) (by omega)).trans xO.out;have u0:wb.cell? ⟨wr.heap.size,0,none⟩=some (.int .i64 0):=by rw[cell_of_row wb _ 0 _ _ _ hQb];rfl
      have u2:wb.cell? ⟨wr.heap.size,2,none⟩=some (.func (.func 133) #[] #[]):=by rw[cell_of_row wb _ 2 _ _ _ hQb];rfl
      have s5b:=Ve.size;obtain⟨cu1,vM⟩:=Ua ht;have og:=aZ wb w2.heap.size ⟨.slice uW AA.length eW,.slice uP b.AM.length eP,.slice uL b.AO.length eL,.slice uN b.AG.length eN,.slice uX b.AL.length eX,.slice uS b.sn.length eS,.slice uF b.fr.length eF,.slice uR b.rws.length eR⟩ nv rv bs N AA b 20 cc (bG.out.keep oC) vH.out (by omega) (by omega) hcc (Fq hb hcc).1 cu1 (fun q3=>by rcases vM with q|q;omega;exact q);have HT:Hid (Hi AA b ((cc:Int))=true):=Lib.hid (by unfold Hi;rw[hb,Ix xC.out ht hcc];rfl);have HB:Hid (B7 AA b ((cc:Int))=Am AA (AB AA) b ((cc:Int))):=Lib.hid (by unfold B7 Dw;rw[if_pos hb,Ix xC.out ht hcc,if_pos rfl]);have HD:Hid (GZ AA b=AA):=Lib.hid (by unfold GZ;rw[if_pos hb]);go_wp2_with (first|refine wpList_load_row rfl 36 _ rfl w3.heap.size rfl 36 _ (0,0) _ l6 Tryz.underlying36 rfl AK ?_|fail)
      refine og.mono ?_;rintro e wd ⟨rfl,nv6,rv6,V6,T6⟩;have LW6:=Dh.turn (v:=⟨.slice uW AA.length eW,.slice uP b.AM.length eP,.slice uL b.AO.length eL,.slice uN b.AG.length eN,.slice uX b.AL.length eX,.slice uS b.sn.length eS,.slice uF b.fr.length eF,.slice uR b.rws.length eR⟩) (xJ.out.keep oC) (bG.out.keep oC) T6;have pU:=Lib.hid ((V6.all LW6 l7).free);have eU:=Lib.hid T6;clear V6 T6 LW6 og;have hM6:=(eU.out.block w3.heap.size (by omega) (fun q=>by have:=(bG.out.blk _ q).2.1;omega)).trans l6;have hR6:=(eU.out.block (w.heap.size+1) (by omega) (fun q=>by have:=(bG.out.blk _ q).1;omega)).trans hRb;have K6:AC w wd:=Below.trans (K05.out.trans Ve) (eU.out.low (show w.heap.size<=wb.heap.size by omega) (fun g hg=>by have:=(bG.out.blk g hg).1;omega));have s6:=eU.out.size;clear l6 hRb u0 u2 hQb;have HG:=Lib.hid (Af wd (w.heap.size+1) #[.slice uW AA.length eW,.slice uP b.AM.length eP,.slice uL b.AO.length eL,.slice uN b.AG.length eN,.slice uX b.AL.length eX,.slice uS b.sn.length eS,.slice uF b.fr.length eF,.slice uR b.rws.length eR]);have HZ:=Lib.hid (setRow_heap wd (w.heap.size+1) _ #[.slice uW AA.length eW,.slice uP b.AM.length eP,.slice uL b.AO.length eL,.slice uN b.AG.length eN,.slice uX b.AL.length eX,.slice uS b.sn.length eS,.slice uF b.fr.length eF,.slice uR b.rws.length eR] _ _ hR6);have HF:=Lib.hid (((pU.out).above (w':=wd.setRow (w.heap.size+1) #[.slice uW AA.length eW,.slice uP b.AM.length eP,.slice uL b.AO.length eL,.slice uN b.AG.length eN,.slice uX b.AL.length eX,.slice uS b.sn.length eS,.slice uF b.fr.length eF,.slice uR b.rws.length eR]) (fun q h1 h2=>HG.out.block q h2 (fun e=>by have:=Option.some.inj e;omega)) HG.out.size).wide (show w.heap.size<=_ by omega) HG.out.size);have HKK:=Lib.hid ((K6).grown HG.out (fun q hq=>by have:=Option.some.inj hq;omega));go_wp2_with (first|refine wpList_load_row rfl 36 _ rfl w3.heap.size rfl 36 _ (0,0) _ hM6 Tryz.underlying36 rfl AK ?_|refine wpList_store_row rfl 36 _ _ rfl (w.heap.size+1) _ rfl rfl 36 _ hR6 AK rfl (by simp[Value.oneCell']) ?_|fail)
      refine bodyPost_ret (As (by rfl) _ _ (w.heap.size+1) _ _ (0,0) _ (.bool true) rfl HZ.out rfl Tryz.underlying36 rfl AK) rfl ?_;exact⟨⟨.slice uW AA.length eW,.slice uP b.AM.length eP,.slice uL b.AO.length eL,.slice uN b.AG.length eN,.slice uX b.AL.length eX,.slice uS b.sn.length eS,.slice uF b.fr.length eF,.slice uR b.rws.length eR⟩,by rw[HT.out],by rw[HD.out,HB.out];exact HF.out,HKK.out⟩
    ·
     have hI:Cj s 0 ((AA.length:Int)-1)=false:=by
      unfold Cj;rw[decide_eq_false];rintro⟨h1,h2⟩;exact hin ⟨(s-0).toNat,by omega,by omega⟩
     rw[hI];have HN:Hid (∀cc:Nat,cc<AA.length->(s0=(cc:Int))->Bh AA b cc=false):=Lib.hid (fun d hd e=>(hin ⟨d,hd,HS0.out.symm.trans e⟩).elim);clear hI hin;go_wp2;go_roundw;case rel=>exact⟨1,by omega,rfl,kF,fun _=>HN.out,fun q=>absurd q (by omega)⟩
     case measure=>simp[intOf]
   ·
    clear hn1;obtain⟨q0,q1,q2⟩:=(JB hTr).2;obtain⟨wa,Ti⟩:∃W:World,W=(wr.alloc (.cells #[.int .i64 0,.nilFunc,.nilFunc] 122)).setRow wr.heap.size #[.int .i64 10,.func (.func 104) #[] #[],.func (.func 134) #[] #[]]:=⟨_,rfl⟩;have hA:(wr.alloc (.cells #[.int .i64 0,.nilFunc,.nilFunc] 122)).heap[wr.heap.size]? = some (.cells #[.int .i64 0,.nilFunc,.nilFunc] 122 (0,0)):=heap_alloc_new _ _;have g4:(wr.alloc (.cells #[.int .i64 0,.nilFunc,.nilFunc] 122)).grownBy wa (some wr.heap.size):=by rw[Ti];exact Af _ _ _
    have k4:AC wr wa:=((AC.refl wr).alloc _).grown g4 (fun q hq=>Nat.le_of_eq (Option.some.inj hq));have hQ4:wa.heap[wr.heap.size]? = some (.cells #[.int .i64 10,.func (.func 104) #[] #[],.func (.func 134) #[] #[]] 122 (0,0)):=by rw[Ti];exact setRow_heap _ _ _ _ _ _ hA
    have y4:wr.heap.size<wa.heap.size:=by have:=g4.size;rw[AD] at this;omega
    go_upto_region 7 with (first|refine wpList_store_row rfl 122 _ _ rfl wr.heap.size _ rfl rfl 122 _ hA I3 rfl (by simp[Value.oneCell']) ?_|fail)
    rw[<-Ti];clear Ti hA q0 q1 q2 g4;have kF:=kr.trans k4;have KA:=K05.out.trans kF;have hB4:=(Below.block k4 w.heap.size (by omega)).trans hBr;have z0:wa.cell? ⟨w.heap.size,0,none⟩=some (.slice aW AA.length cW):=by rw[cell_of_row wa _ 0 _ _ _ hB4];rfl
    have t0:wa.cell? ⟨wr.heap.size,0,none⟩=some (.int .i64 10):=by rw[cell_of_row wa _ 0 _ _ _ hQ4];rfl
    have t1:wa.cell? ⟨wr.heap.size,1,none⟩=some (.func (.func 104) #[] #[]):=by rw[cell_of_row wa _ 1 _ _ _ hQ4];rfl
    have hw1:IntKind.i64.wrap (10+(AA.length:Int))=10+(AA.length:Int):=by rw[IntKind.wrap_i64];omega
    have hw2:IntKind.i64.wrap (10+(AA.length:Int)-1)=10+(AA.length:Int)-1:=by rw[IntKind.wrap_i64];omega
    have s4:=k4.size;go_wp2_with fail
    refine (BH _ _ _ _).mono ?_;rintro e wa' ⟨rfl,ZB⟩;rw[ZB];clear ZB;by_cases hin:∃cc:Nat,cc<AA.length/\s=10+(cc:Int)
    ·
     obtain⟨cc,hcc,hs⟩:=hin;have hI:Cj s 10 (10+(AA.length:Int)-1)=true:=by unfold Cj;simp;omega
     rw[hI];subst hs;have hws:IntKind.i64.wrap (10+(cc:Int)-10)=(cc:Int):=by rw[IntKind.wrap_i64];omega
     have z1:wa.cell? ⟨w.heap.size,1,none⟩=some (.slice aP b.AM.length cP):=by rw[cell_of_row wa _ 1 _ _ _ hB4];rfl
     have z2:wa.cell? ⟨w.heap.size,2,none⟩=some (.slice aL b.AO.length cL):=by rw[cell_of_row wa _ 2 _ _ _ hB4];rfl
     have z3:wa.cell? ⟨w.heap.size,3,none⟩=some (.slice aN b.AG.length cN):=by rw[cell_of_row wa _ 3 _ _ _ hB4];rfl
     have z4:wa.cell? ⟨w.heap.size,4,none⟩=some (.slice aX b.AL.length cX):=by rw[cell_of_row wa _ 4 _ _ _ hB4];rfl
     have z5:wa.cell? ⟨w.heap.size,5,none⟩=some (.slice aS b.sn.length cS):=by rw[cell_of_row wa _ 5 _ _ _ hB4];rfl
     have z6:wa.cell? ⟨w.heap.size,6,none⟩=some (.slice aF b.fr.length cF):=by rw[cell_of_row wa _ 6 _ _ _ hB4];rfl
     have z7:wa.cell? ⟨w.heap.size,7,none⟩=some (.slice aR b.rws.length cR):=by rw[cell_of_row wa _ 7 _ _ _ hB4];rfl
     have CAN:=E4 wa _ AA b cc (dm.out.keep KA) (by rw[vH.out.AG];exact hcc);clear hI;go_wp2_with fail
     refine CAN.mono ?_;rintro e wb ⟨rfl,kb⟩;have Ve:=kF.trans kb;have oC:=K35.out.trans Ve;have sb:=kb.size
     cases ht:decide (0<(b.AG.getD cc []).length) with
     |false=>
      have HN:Hid (∀cc:Nat,cc<AA.length->(s0=10+(cc:Int))->decide (0<(b.AG.getD cc []).length)=false):=Lib.hid (fun d hd e=>by
       have e2:10+(cc:Int)=10+(d:Int):=HS0.out.symm.trans e;obtain rfl:cc=d:=by omega
       exact ht)
      go_wp2;go_roundw;case rel=>exact⟨2,by omega,rfl,Ve,fun _=>hn0 (by omega),fun _=>HN.out⟩
      case measure=>simp[intOf]
     |true=>
      have hQb:=(Below.block kb wr.heap.size y4).trans hQ4;have l6:=(Below.block Ve w3.heap.size (by omega)).trans xK.out;have hRb:=(Below.block Ve (w.heap.size+1) (by omega)).trans xO.out;have u0:wb.cell? ⟨wr.heap.size,0,none⟩=some (.int .i64 10):=by rw[cell_of_row wb _ 0 _ _ _ hQb];rfl
      have u2:wb.cell? ⟨wr.heap.size,2,none⟩=some (.func (.func 134) #[] #[]):=by rw[cell_of_row wb _ 2 _ _ _ hQb];rfl
      have s5b:=Ve.size
      obtain⟨xx,rr,rY⟩:∃xx rr,b.AG.getD cc []=xx::rr:=by
       cases e:b.AG.getD cc [] with
       |nil=>rw[e] at ht;simp at ht
       |cons xx rr=>exact⟨xx,rr,rfl⟩
      have hxx:=(((RB.any hb).nl cc).2 xx (by rw[rY];simp)).1;have og:=Vy wb w2.heap.size ⟨.slice uW AA.length eW,.slice uP b.AM.length eP,.slice uL b.AO.length eL,.slice uN b.AG.length eN,.slice uX b.AL.length eX,.slice uS b.sn.length eS,.slice uF b.fr.length eF,.slice uR b.rws.length eR⟩ nv rv wv bs N AA b 20 cc xx rr (bG.out.keep oC) (xJ.out.keep oC) l7 vH.out (by omega) (by omega) hcc rY hxx;have HT:Hid (Hi AA b (10+(cc:Int))=true):=Lib.hid (by unfold Hi;rw[hb,Je ht hcc];rfl);have HB:Hid (B7 AA b (10+(cc:Int))=BT b cc):=Lib.hid (by unfold B7 Dw;rw[if_pos hb,Je ht hcc,if_pos rfl,Tc]);have HD:Hid (GZ AA b=AA):=Lib.hid (by unfold GZ;rw[if_pos hb]);go_wp2_with (first|refine wpList_load_row rfl 36 _ rfl w3.heap.size rfl 36 _ (0,0) _ l6 Tryz.underlying36 rfl AK ?_|fail)
      refine og.mono ?_;rintro e wd ⟨rfl,pU,F6,T6⟩;replace pU:=Lib.hid pU;have eU:=Lib.hid T6;clear T6 og;have hM6:=(eU.out.block w3.heap.size (by omega) (fun q=>by have:=(bG.out.blk _ q).2.1;omega)).trans l6;have hR6:=(eU.out.block (w.heap.size+1) (by omega) (fun q=>by have:=(bG.out.blk _ q).1;omega)).trans hRb;have K6:AC w wd:=Below.trans (K05.out.trans Ve) (eU.out.low (show w.heap.size<=wb.heap.size by omega) (fun g hg=>by have:=(bG.out.blk g hg).1;omega));have s6:=eU.out.size;clear l6 hRb u0 u2 hQb;have HG:=Lib.hid (Af wd (w.heap.size+1) #[.slice uW AA.length eW,.slice uP b.AM.length eP,.slice uL b.AO.length eL,.slice uN b.AG.length eN,.slice uX b.AL.length eX,.slice uS b.sn.length eS,.slice uF b.fr.length eF,.slice uR b.rws.length eR]);have HZ:=Lib.hid (setRow_heap wd (w.heap.size+1) _ #[.slice uW AA.length eW,.slice uP b.AM.length eP,.slice uL b.AO.length eL,.slice uN b.AG.length eN,.slice uX b.AL.length eX,.slice uS b.sn.length eS,.slice uF b.fr.length eF,.slice uR b.rws.length eR] _ _ hR6);have HF:=Lib.hid (((pU.out).above (w':=wd.setRow (w.heap.size+1) #[.slice uW AA.length eW,.slice uP b.AM.length eP,.slice uL b.AO.length eL,.slice uN b.AG.length eN,.slice uX b.AL.length eX,.slice uS b.sn.length eS,.slice uF b.fr.length eF,.slice uR b.rws.length eR]) (fun q h1 h2=>HG.out.block q h2 (fun e=>by have:=Option.some.inj e;omega)) HG.out.size).wide (show w.heap.size<=_ by omega) HG.out.size);have HKK:=Lib.hid ((K6).grown HG.out (fun q hq=>by have:=Option.some.inj hq;omega));go_wp2_with (first|refine wpList_load_row rfl 36 _ rfl w3.heap.size rfl 36 _ (0,0) _ hM6 Tryz.underlying36 rfl AK ?_|refine wpList_store_row rfl 36 _ _ rfl (w.heap.size+1) _ rfl rfl 36 _ hR6 AK rfl (by simp[Value.oneCell']) ?_|fail)
      refine bodyPost_ret (As (by rfl) _ _ (w.heap.size+1) _ _ (0,0) _ (.bool true) rfl HZ.out rfl Tryz.underlying36 rfl AK) rfl ?_;exact⟨⟨.slice uW AA.length eW,.slice uP b.AM.length eP,.slice uL b.AO.length eL,.slice uN b.AG.length eN,.slice uX b.AL.length eX,.slice uS b.sn.length eS,.slice uF b.fr.length eF,.slice uR b.rws.length eR⟩,by rw[HT.out],by rw[HD.out,HB.out];exact HF.out,HKK.out⟩
    ·
     have hI:Cj s 10 (10+(AA.length:Int)-1)=false:=by
      unfold Cj;rw[decide_eq_false];rintro⟨h1,h2⟩;exact hin ⟨(s-10).toNat,by omega,by omega⟩
     rw[hI];have HN:Hid (∀cc:Nat,cc<AA.length->(s0=10+(cc:Int))->decide (0<(b.AG.getD cc []).length)=false):=Lib.hid (fun d hd e=>(hin ⟨d,hd,HS0.out.symm.trans e⟩).elim);clear hI hin;go_wp2;go_roundw;case rel=>exact⟨2,by omega,rfl,kF,fun _=>hn0 (by omega),fun _=>HN.out⟩
     case measure=>simp[intOf]
  ·
   obtain rfl:k=2:=by omega
   have hno:=NY (hn0 (by omega)) (hn1 (by omega));rw[HS0.out] at hno;have HT:Hid (Hi AA b s=false):=Lib.hid (by unfold Hi;rw[hno];simp);have HB:Hid (B7 AA b s=b):=Lib.hid (by unfold B7 Dw;rw[if_pos hb,hno];rfl);have HD:Hid (GZ AA b=AA):=Lib.hid (by unfold GZ;rw[if_pos hb]);have hMr:=(Below.block kr w3.heap.size (by omega)).trans xK.out;have hRr:=(Below.block kr (w.heap.size+1) (by omega)).trans xO.out;have FRr:=Lib.hid (((bG.out.keep (K35.out.trans kr)).all (xJ.out.keep (K35.out.trans kr)) l7).free);have Kr:=K05.out.trans kr;clear hno hn0 hn1 hBr hTr hlt hk;have HG:=Lib.hid (Af wr (w.heap.size+1) #[.slice uW AA.length eW,.slice uP b.AM.length eP,.slice uL b.AO.length eL,.slice uN b.AG.length eN,.slice uX b.AL.length eX,.slice uS b.sn.length eS,.slice uF b.fr.length eF,.slice uR b.rws.length eR]);have HZ:=Lib.hid (setRow_heap wr (w.heap.size+1) _ #[.slice uW AA.length eW,.slice uP b.AM.length eP,.slice uL b.AO.length eL,.slice uN b.AG.length eN,.slice uX b.AL.length eX,.slice uS b.sn.length eS,.slice uF b.fr.length eF,.slice uR b.rws.length eR] _ _ hRr);have HF:=Lib.hid (((FRr.out).above (w':=wr.setRow (w.heap.size+1) #[.slice uW AA.length eW,.slice uP b.AM.length eP,.slice uL b.AO.length eL,.slice uN b.AG.length eN,.slice uX b.AL.length eX,.slice uS b.sn.length eS,.slice uF b.fr.length eF,.slice uR b.rws.length eR]) (fun q h1 h2=>HG.out.block q h2 (fun e=>by have:=Option.some.inj e;omega)) HG.out.size).wide (show w.heap.size<=_ by omega) HG.out.size);have HKK:=Lib.hid ((Kr).grown HG.out (fun q hq=>by have:=Option.some.inj hq;omega));go_wp2_with (first|refine wpList_load_row rfl 36 _ rfl w3.heap.size rfl 36 _ (0,0) _ hMr Tryz.underlying36 rfl AK ?_|refine wpList_store_row rfl 36 _ _ rfl (w.heap.size+1) _ rfl rfl 36 _ hRr AK rfl (by simp[Value.oneCell']) ?_|fail)
   refine bodyPost_ret (As (by rfl) _ _ (w.heap.size+1) _ _ (0,0) _ (.bool false) rfl HZ.out rfl Tryz.underlying36 rfl AK) rfl ?_;exact⟨⟨.slice uW AA.length eW,.slice uP b.AM.length eP,.slice uL b.AO.length eL,.slice uN b.AG.length eN,.slice uX b.AL.length eX,.slice uS b.sn.length eS,.slice uF b.fr.length eF,.slice uR b.rws.length eR⟩,by rw[HT.out],by rw[HD.out,HB.out];exact HF.out,HKK.out⟩
theorem N3 (w:World)(v:BV)(AA:List (List Dd))(b:Bd)(c:Int)(h:CV w v AA b)(hz:Gi AA b)(hlo:(∀c,(b.AG.getD c []).length<=7)/\∀p,(b.rws.getD p []).length<=15):
  Calls Tryz.prog 71 #[v.agg,.int .i64 c] w fun e w'=>∃bv':BV,e = .returned (.tuple #[bv'.agg,.bool (AW AA b&&VM AA b c)])/\Cf w' w.heap.size w'.heap.size bv' (jc AA b) (Qh AA b c)/\AC w w':=by
 have dm:=Lib.hid h;have qJ:=Lib.hid hz;have vG:=Lib.hid hlo;have hx:=hz.w1;obtain⟨aW,aP,aL,aN,aX,aS,aF,aR,cW,cP,cL,cN,cX,cS,cF,cR,rfl⟩:=h.shapes;clear h hz hlo;obtain⟨w1,hw1⟩:∃W:World,W=(w.alloc (.cells #[.slice aW AA.length cW,.slice aP b.AM.length cP,.slice aL b.AO.length cL,.slice aN b.AG.length cN,.slice aX b.AL.length cX,.slice aS b.sn.length cS,.slice aF b.fr.length cF,.slice aR b.rws.length cR] 36)).alloc (.cells #[AE,AE,AE,AE,AE,AE,AE,AE] 36):=⟨_,rfl⟩;have K1:AC w w1:=by rw[hw1];exact ((AC.refl w).alloc _).alloc _
 have s1:w.heap.size+1<w1.heap.size:=by rw[hw1,AD,AD];omega
 have hB1:w1.heap[w.heap.size]? = some (.cells #[.slice aW AA.length cW,.slice aP b.AM.length cP,.slice aL b.AO.length cL,.slice aN b.AG.length cN,.slice aX b.AL.length cX,.slice aS b.sn.length cS,.slice aF b.fr.length cF,.slice aR b.rws.length cR] 36 (0,0)):=by rw[hw1];exact CX ((AC.refl _).alloc _)
 have hR1:w1.heap[w.heap.size+1]? = some (.cells #[AE,AE,AE,AE,AE,AE,AE,AE] 36 (0,0)):=by rw[hw1,<-AD w (.cells #[.slice aW AA.length cW,.slice aP b.AM.length cP,.slice aL b.AO.length cL,.slice aN b.AG.length cN,.slice aX b.AL.length cX,.slice aS b.sn.length cS,.slice aF b.fr.length cF,.slice aR b.rws.length cR] 36)];exact heap_alloc_new _ _
 have z0:w1.cell? ⟨w.heap.size,0,none⟩=some (.slice aW AA.length cW):=by rw[cell_of_row w1 _ 0 _ _ _ hB1];rfl
 have hw2:IntKind.i64.wrap ((AA.length:Int)-1)=(AA.length:Int)-1:=by rw[IntKind.wrap_i64];omega
 go_enter Tryz.func71,Tryz.ntmps71
 go_upto_region 1 with fail
 rw[<-hw1];clear hw1;go_wp2_with fail
 refine (BH _ _ _ _).mono ?_;rintro e wa ⟨rfl,Ti⟩;rw[Ti];clear Ti;by_cases hin:∃cc:Nat,cc<AA.length/\c=(cc:Int)
 ·
  obtain⟨cc,hcc,rfl⟩:=hin;have hI:Cj (cc:Int) 0 ((AA.length:Int)-1)=true:=by unfold Cj;simp;omega
  rw[hI];clear hI z0;go_upto_region 3 with fail
  go_cut [6,7] from 8 (fun s6 s7 wx=>∃(yW yP yL yN yX yS yF yR:Option Addr) (Lh Ld Lb Lc Li Lg La Lf Mb:Nat) (D1:List (List Dd)) (B1:Bd),s6 = .pointer (some ⟨Mb,0,none⟩)/\s7 = .bool (Hi AA b ((cc:Int)))/\D1=GZ AA b/\B1=B7 AA b ((cc:Int))/\AC w wx/\w1.heap.size<=Mb/\Mb<wx.heap.size/\wx.heap[Mb]? = some (.cells #[.slice yW D1.length Lh,.slice yP B1.AM.length Ld,.slice yL B1.AO.length Lb,.slice yN B1.AG.length Lc,.slice yX B1.AL.length Li,.slice yS B1.sn.length Lg,.slice yF B1.fr.length La,.slice yR B1.rws.length Lf] 36 (0,0))/\wx.heap[w.heap.size+1]? = some (.cells #[AE,AE,AE,AE,AE,AE,AE,AE] 36 (0,0))/\Cf wx w1.heap.size Mb ⟨.slice yW D1.length Lh,.slice yP B1.AM.length Ld,.slice yL B1.AO.length Lb,.slice yN B1.AG.length Lc,.slice yX B1.AL.length Li,.slice yS B1.sn.length Lg,.slice yF B1.fr.length La,.slice yR B1.rws.length Lf⟩ D1 B1)
  case first=>
   have CS:=DT w1 _ AA b ((cc:Int)) (dm.out.keep K1) qJ.out;go_wp2_with (first|refine wpList_load_row rfl 36 _ rfl w.heap.size rfl 36 _ (0,0) _ hB1 Tryz.underlying36 rfl AK ?_|fail)
   refine CS.mono ?_;rintro e w2 ⟨bv,rfl,F2,k2⟩;obtain⟨yW,yP,yL,yN,yX,yS,yF,yR,Lh,Ld,Lb,Lc,Li,Lg,La,Lf,rfl⟩:=F2.rd.shapes;obtain⟨w3,hw3⟩:∃W:World,W=w2.alloc (.cells #[.slice yW (GZ AA b).length Lh,.slice yP (B7 AA b ((cc:Int))).AM.length Ld,.slice yL (B7 AA b ((cc:Int))).AO.length Lb,.slice yN (B7 AA b ((cc:Int))).AG.length Lc,.slice yX (B7 AA b ((cc:Int))).AL.length Li,.slice yS (B7 AA b ((cc:Int))).sn.length Lg,.slice yF (B7 AA b ((cc:Int))).fr.length La,.slice yR (B7 AA b ((cc:Int))).rws.length Lf] 36):=⟨_,rfl⟩;have k3:AC w2 w3:=by rw[hw3];exact (AC.refl w2).alloc _
   have hM3:w3.heap[w2.heap.size]? = some (.cells #[.slice yW (GZ AA b).length Lh,.slice yP (B7 AA b ((cc:Int))).AM.length Ld,.slice yL (B7 AA b ((cc:Int))).AO.length Lb,.slice yN (B7 AA b ((cc:Int))).AG.length Lc,.slice yX (B7 AA b ((cc:Int))).AL.length Li,.slice yS (B7 AA b ((cc:Int))).sn.length Lg,.slice yF (B7 AA b ((cc:Int))).fr.length La,.slice yR (B7 AA b ((cc:Int))).rws.length Lf] 36 (0,0)):=by rw[hw3];exact heap_alloc_new _ _
   have s2:=k2.size;have s3:w2.heap.size<w3.heap.size:=by rw[hw3,AD];omega
   have XK:=Lib.hid ((K1.trans k2).trans k3);have XR:=Lib.hid ((Below.block (k2.trans k3) (w.heap.size+1) (by omega)).trans hR1);have XF:=Lib.hid (F2.keep k3);have XM:=Lib.hid hM3;clear F2 CS k2 hM3;go_wp2;rw[<-hw3];clear hw3;go_meet;case rel=>exact⟨_,_,_,_,_,_,_,_,_,_,_,_,_,_,_,_,_,_,_,rfl,rfl,rfl,rfl,XK.out,s2,s3,XM.out,XR.out,XF.out⟩
  case rest=>
   obtain⟨yW,yP,yL,yN,yX,yS,yF,yR,Lh,Ld,Lb,Lc,Li,Lg,La,Lf,Mb,D1,B1,rfl,rfl,hD1,hB1',K3,s2,s3,hM3,hR3,YC⟩:=hcut;have qH:=Lib.hid YC;have oH:=Lib.hid hD1;have bD:=Lib.hid hB1';clear YC hD1 hB1' hB1 hR1 K1
   cases hT:Hi AA b (cc:Int) with
   |false=>
    have gZ:(AW AA b&&VM AA b (cc:Int))=false:=by
     unfold Hi at hT
     cases hb:AW AA b with
     |false=>rfl
     |true=>
      rw[hb] at hT;have d3:AA.length<=3:=(Ay (Di.of hb).work).1
      cases hcan:Bh AA b cc with
      |true=>rw[Ix d3 hcan hcc] at hT;simp at hT
      |false=>unfold VM;simp[hcan]
    have HT:Hid ((AW AA b&&VM AA b (cc:Int))=false):=Lib.hid gZ;have HD:Hid (jc AA b=D1):=Lib.hid (by rw[oH.out];rfl)
    have HB:Hid (Qh AA b (cc:Int)=B1):=Lib.hid (by
     rw[bD.out];unfold Qh B7
     cases hb:AW AA b with
     |false=>rfl
     |true=>
      rw[if_pos rfl,if_pos rfl];rw[hb] at gZ;unfold Hi at hT;rw[hb] at hT;have q1:VM AA b (cc:Int)=false:=by simpa using gZ
      have q2:Gv (Ad AA b) (cc:Int)=false:=by simpa using hT
      unfold sw Dw;rw[q1,q2]
      simp only[Bool.false_eq_true,if_false])
    clear gZ hT;have HG:=Lib.hid (Af wc (w.heap.size+1) #[.slice yW D1.length Lh,.slice yP B1.AM.length Ld,.slice yL B1.AO.length Lb,.slice yN B1.AG.length Lc,.slice yX B1.AL.length Li,.slice yS B1.sn.length Lg,.slice yF B1.fr.length La,.slice yR B1.rws.length Lf]);have HZ:=Lib.hid (setRow_heap wc (w.heap.size+1) _ #[.slice yW D1.length Lh,.slice yP B1.AM.length Ld,.slice yL B1.AO.length Lb,.slice yN B1.AG.length Lc,.slice yX B1.AL.length Li,.slice yS B1.sn.length Lg,.slice yF B1.fr.length La,.slice yR B1.rws.length Lf] _ _ hR3);have HF:=Lib.hid (((qH.out).above (w':=wc.setRow (w.heap.size+1) #[.slice yW D1.length Lh,.slice yP B1.AM.length Ld,.slice yL B1.AO.length Lb,.slice yN B1.AG.length Lc,.slice yX B1.AL.length Li,.slice yS B1.sn.length Lg,.slice yF B1.fr.length La,.slice yR B1.rws.length Lf]) (fun q h1 h2=>HG.out.block q h2 (fun e=>by have:=Option.some.inj e;omega)) HG.out.size).wide (show w.heap.size<=_ by omega) (Nat.le_trans (by omega) HG.out.size));have HKK:=Lib.hid ((K3).grown HG.out (fun q hq=>by have:=Option.some.inj hq;omega));go_wp2_with (first|refine wpList_load_row rfl 36 _ rfl Mb rfl 36 _ (0,0) _ hM3 Tryz.underlying36 rfl AK ?_|refine wpList_store_row rfl 36 _ _ rfl (w.heap.size+1) _ rfl rfl 36 _ hR3 AK rfl (by simp[Value.oneCell']) ?_|fail)
    refine bodyPost_ret (As (by rfl) _ _ (w.heap.size+1) _ _ (0,0) _ (.bool false) rfl HZ.out rfl Tryz.underlying36 rfl AK) rfl ?_;exact⟨⟨.slice yW D1.length Lh,.slice yP B1.AM.length Ld,.slice yL B1.AO.length Lb,.slice yN B1.AG.length Lc,.slice yX B1.AL.length Li,.slice yS B1.sn.length Lg,.slice yF B1.fr.length La,.slice yR B1.rws.length Lf⟩,by rw[HT.out],by rw[HD.out,HB.out];exact HF.out,HKK.out⟩
   |true=>
    have hb:AW AA b=true:=by unfold Hi at hT;simp at hT;exact hT.1
    have d3:AA.length<=3:=(Ay (Di.of hb).work).1
    have hcan:Bh AA b cc=true:=by
     cases hcan:Bh AA b cc with
     |true=>rfl
     |false=>
      unfold Hi at hT
      rw[NY (fun d hd e=>by
       obtain rfl:d=cc:=by omega
       exact hcan) (fun d hd e=>by omega)] at hT
      simp at hT
    have hpo:=Ix d3 hcan hcc;have eD1:AA=D1:=by rw[oH.out];unfold GZ;rw[if_pos hb]
    subst eD1;have yY:B1=Am AA (AB AA) b (cc:Int):=by rw[bD.out];unfold B7 Dw;rw[if_pos hb,if_pos hpo]
    have hb1:AW AA B1=true:=by rw[yY];exact UM hb vG.out.1 vG.out.2 hcc hcan
    have HT:Hid ((AW AA b&&VM AA b (cc:Int))=true):=Lib.hid (by unfold VM;simp[hb,hcan];omega);have HD:Hid (jc AA b=AA):=Lib.hid (by unfold jc;rw[if_pos hb])
    have HQ:Hid (Qh AA b (cc:Int)=if (B1.AG.getD cc []).isEmpty=true then B1 else Am AA (AB AA) B1 (10+(cc:Int))):=Lib.hid (by
     unfold Qh sw;rw[if_pos hb,if_pos (by unfold VM;simp[hcan];omega)];unfold Bf;rw[yY]
     simp only[Int.toNat_natCast])
    have xD:=qH.out;have lnt:cc<B1.AG.length:=by rw[(Di.of hb1).AG];exact hcc
    have rd4:CV wc ⟨.slice yW AA.length Lh,.slice yP B1.AM.length Ld,.slice yL B1.AO.length Lb,.slice yN B1.AG.length Lc,.slice yX B1.AL.length Li,.slice yS B1.sn.length Lg,.slice yF B1.fr.length La,.slice yR B1.rws.length Lf⟩ AA B1:=xD.rd;have CH:=E4 wc _ AA B1 cc rd4 lnt;have XF5:=Lib.hid xD;have XRD:=Lib.hid rd4;have HB1:=Lib.hid hb1;clear hpo yY hb1 hT xD rd4 qH;have z0:wc.cell? ⟨Mb,0,none⟩=some (.slice yW AA.length Lh):=by rw[cell_of_row wc _ 0 _ _ _ hM3];rfl
    have z1:wc.cell? ⟨Mb,1,none⟩=some (.slice yP B1.AM.length Ld):=by rw[cell_of_row wc _ 1 _ _ _ hM3];rfl
    have z2:wc.cell? ⟨Mb,2,none⟩=some (.slice yL B1.AO.length Lb):=by rw[cell_of_row wc _ 2 _ _ _ hM3];rfl
    have z3:wc.cell? ⟨Mb,3,none⟩=some (.slice yN B1.AG.length Lc):=by rw[cell_of_row wc _ 3 _ _ _ hM3];rfl
    have z4:wc.cell? ⟨Mb,4,none⟩=some (.slice yX B1.AL.length Li):=by rw[cell_of_row wc _ 4 _ _ _ hM3];rfl
    have z5:wc.cell? ⟨Mb,5,none⟩=some (.slice yS B1.sn.length Lg):=by rw[cell_of_row wc _ 5 _ _ _ hM3];rfl
    have z6:wc.cell? ⟨Mb,6,none⟩=some (.slice yF B1.fr.length La):=by rw[cell_of_row wc _ 6 _ _ _ hM3];rfl
    have z7:wc.cell? ⟨Mb,7,none⟩=some (.slice yR B1.rws.length Lf):=by rw[cell_of_row wc _ 7 _ _ _ hM3];rfl
    go_wp2_with fail
    refine CH.mono ?_;rintro e w4 ⟨rfl,k4⟩;have s4:=k4.size;have hM4:=(Below.block k4 Mb s3).trans hM3;have hR4:=(Below.block k4 (w.heap.size+1) (by omega)).trans hR3;have K4:=K3.trans k4;clear z0 z1 z2 z3 z4 z5 z6 z7 CH hM3 hR3
    cases hN:decide (0<(B1.AG.getD cc []).length) with
    |false=>
     have HB:Hid (Qh AA b (cc:Int)=B1):=Lib.hid (by
      rw[HQ.out,if_pos]
      cases e:B1.AG.getD cc [] with
      |nil=>rfl
      |cons x r=>rw[e] at hN;simp at hN)
     have HD:Hid (jc AA b=AA):=HD;have FX:=XF5.out.keep k4;clear hN;have HG:=Lib.hid (Af w4 (w.heap.size+1) #[.slice yW AA.length Lh,.slice yP B1.AM.length Ld,.slice yL B1.AO.length Lb,.slice yN B1.AG.length Lc,.slice yX B1.AL.length Li,.slice yS B1.sn.length Lg,.slice yF B1.fr.length La,.slice yR B1.rws.length Lf]);have HZ:=Lib.hid (setRow_heap w4 (w.heap.size+1) _ #[.slice yW AA.length Lh,.slice yP B1.AM.length Ld,.slice yL B1.AO.length Lb,.slice yN B1.AG.length Lc,.slice yX B1.AL.length Li,.slice yS B1.sn.length Lg,.slice yF B1.fr.length La,.slice yR B1.rws.length Lf] _ _ hR4);have HF:=Lib.hid (((FX).above (w':=w4.setRow (w.heap.size+1) #[.slice yW AA.length Lh,.slice yP B1.AM.length Ld,.slice yL B1.AO.length Lb,.slice yN B1.AG.length Lc,.slice yX B1.AL.length Li,.slice yS B1.sn.length Lg,.slice yF B1.fr.length La,.slice yR B1.rws.length Lf]) (fun q h1 h2=>HG.out.block q h2 (fun e=>by have:=Option.some.inj e;omega)) HG.out.size).wide (show w.heap.size<=_ by omega) (Nat.le_trans (by omega) HG.out.size));have HKK:=Lib.hid ((K4).grown HG.out (fun q hq=>by have:=Option.some.inj hq;omega));go_wp2_with (first|refine wpList_load_row rfl 36 _ rfl Mb rfl 36 _ (0,0) _ hM4 Tryz.underlying36 rfl AK ?_|refine wpList_store_row rfl 36 _ _ rfl (w.heap.size+1) _ rfl rfl 36 _ hR4 AK rfl (by simp[Value.oneCell']) ?_|fail)
     refine bodyPost_ret (As (by rfl) _ _ (w.heap.size+1) _ _ (0,0) _ (.bool true) rfl HZ.out rfl Tryz.underlying36 rfl AK) rfl ?_;exact⟨⟨.slice yW AA.length Lh,.slice yP B1.AM.length Ld,.slice yL B1.AO.length Lb,.slice yN B1.AG.length Lc,.slice yX B1.AL.length Li,.slice yS B1.sn.length Lg,.slice yF B1.fr.length La,.slice yR B1.rws.length Lf⟩,by rw[HT.out],by rw[HD.out,HB.out];exact HF.out,HKK.out⟩
    |true=>
     have hw10:IntKind.i64.wrap (10+(cc:Int))=10+(cc:Int):=by rw[IntKind.wrap_i64];omega
     have HB:Hid (Qh AA b (cc:Int)=B7 AA B1 (10+(cc:Int))):=Lib.hid (by
      rw[HQ.out,if_neg]
      ·
       unfold B7 Dw;rw[if_pos HB1.out,Je hN hcc,if_pos rfl]
      ·
       intro q
       cases e:B1.AG.getD cc [] with
       |nil=>rw[e] at hN;simp at hN
       |cons x r=>rw[e] at q;simp at q)
     have HE:Hid (GZ AA B1=AA):=Lib.hid (by unfold GZ;rw[if_pos HB1.out]);have CS:=DT w4 _ AA B1 (10+(cc:Int)) (XRD.out.keep k4) ((Di.of HB1.out).sz (by omega));clear hN;go_wp2_with (first|refine wpList_load_row rfl 36 _ rfl Mb rfl 36 _ (0,0) _ hM4 Tryz.underlying36 rfl AK ?_|fail)
     refine CS.mono ?_;rintro e w5 ⟨bv5,rfl,F5,k5⟩;rw[HE.out] at F5;obtain⟨B2,hB2⟩:∃B2,B2=B7 AA B1 (10+(cc:Int)):=⟨_,rfl⟩;rw[<-hB2] at F5;replace HB:Hid (Qh AA b (cc:Int)=B2):=Lib.hid (by rw[HB.out,hB2]);obtain⟨zW,zP,zL,zN,zX,zS,zF,zR,jq,jk,jh,ji,jr,jo,jg,jm,rfl⟩:=F5.rd.shapes;have s5:=k5.size;have hR5:=(Below.block k5 (w.heap.size+1) (by omega)).trans hR4;have hM5:=(Below.block k5 Mb (by omega)).trans hM4;have G6:=Af w5 Mb #[.slice zW AA.length jq,.slice zP B2.AM.length jk,.slice zL B2.AO.length jh,.slice zN B2.AG.length ji,.slice zX B2.AL.length jr,.slice zS B2.sn.length jo,.slice zF B2.fr.length jg,.slice zR B2.rws.length jm];have hM6:=setRow_heap w5 Mb _ #[.slice zW AA.length jq,.slice zP B2.AM.length jk,.slice zL B2.AO.length jh,.slice zN B2.AG.length ji,.slice zX B2.AL.length jr,.slice zS B2.sn.length jo,.slice zF B2.fr.length jg,.slice zR B2.rws.length jm] _ _ hM5;have F6:=F5.above (w':=w5.setRow Mb #[.slice zW AA.length jq,.slice zP B2.AM.length jk,.slice zL B2.AO.length jh,.slice zN B2.AG.length ji,.slice zX B2.AL.length jr,.slice zS B2.sn.length jo,.slice zF B2.fr.length jg,.slice zR B2.rws.length jm]) (fun q h1 h2=>G6.block q h2 (fun e=>by have:=Option.some.inj e;omega)) G6.size;have K6:=(K4.trans k5).grown G6 (fun q hq=>by have:=Option.some.inj hq;omega);have hR6:=(G6.block (w.heap.size+1) (by omega) (fun e=>by have:=Option.some.inj e;omega)).trans hR5;have s6:=G6.size;obtain⟨w6,hw6⟩:∃W:World,W=w5.setRow Mb #[.slice zW AA.length jq,.slice zP B2.AM.length jk,.slice zL B2.AO.length jh,.slice zN B2.AG.length ji,.slice zX B2.AL.length jr,.slice zS B2.sn.length jo,.slice zF B2.fr.length jg,.slice zR B2.rws.length jm]:=⟨_,rfl⟩;rw[<-hw6] at hM6 F6 K6 hR6 s6;clear F5 hB2 CS G6 hM4 hR4 hR5;go_upto_region 6 with (first|refine wpList_store_row rfl 36 _ _ rfl Mb _ rfl rfl 36 _ hM5 AK rfl (by simp[Value.oneCell']) ?_|fail)
     rw[<-hw6];clear hw6 hM5;have HG:=Lib.hid (Af w6 (w.heap.size+1) #[.slice zW AA.length jq,.slice zP B2.AM.length jk,.slice zL B2.AO.length jh,.slice zN B2.AG.length ji,.slice zX B2.AL.length jr,.slice zS B2.sn.length jo,.slice zF B2.fr.length jg,.slice zR B2.rws.length jm]);have HZ:=Lib.hid (setRow_heap w6 (w.heap.size+1) _ #[.slice zW AA.length jq,.slice zP B2.AM.length jk,.slice zL B2.AO.length jh,.slice zN B2.AG.length ji,.slice zX B2.AL.length jr,.slice zS B2.sn.length jo,.slice zF B2.fr.length jg,.slice zR B2.rws.length jm] _ _ hR6);have HF:=Lib.hid (((F6).above (w':=w6.setRow (w.heap.size+1) #[.slice zW AA.length jq,.slice zP B2.AM.length jk,.slice zL B2.AO.length jh,.slice zN B2.AG.length ji,.slice zX B2.AL.length jr,.slice zS B2.sn.length jo,.slice zF B2.fr.length jg,.slice zR B2.rws.length jm]) (fun q h1 h2=>HG.out.block q h2 (fun e=>by have:=Option.some.inj e;omega)) HG.out.size).wide (show w.heap.size<=_ by omega) (Nat.le_trans (by omega) HG.out.size));have HKK:=Lib.hid ((K6).grown HG.out (fun q hq=>by have:=Option.some.inj hq;omega));go_wp2_with (first|refine wpList_load_row rfl 36 _ rfl Mb rfl 36 _ (0,0) _ hM6 Tryz.underlying36 rfl AK ?_|refine wpList_store_row rfl 36 _ _ rfl (w.heap.size+1) _ rfl rfl 36 _ hR6 AK rfl (by simp[Value.oneCell']) ?_|fail)
     refine bodyPost_ret (As (by rfl) _ _ (w.heap.size+1) _ _ (0,0) _ (.bool true) rfl HZ.out rfl Tryz.underlying36 rfl AK) rfl ?_;exact⟨⟨.slice zW AA.length jq,.slice zP B2.AM.length jk,.slice zL B2.AO.length jh,.slice zN B2.AG.length ji,.slice zX B2.AL.length jr,.slice zS B2.sn.length jo,.slice zF B2.fr.length jg,.slice zR B2.rws.length jm⟩,by rw[HT.out],by rw[HD.out,HB.out];exact HF.out,HKK.out⟩
 ·
  have hI:Cj c 0 ((AA.length:Int)-1)=false:=by
   unfold Cj;rw[decide_eq_false];rintro⟨h1,h2⟩;exact hin ⟨c.toNat,by omega,by omega⟩
  rw[hI];clear hI z0
  have hq0:VM AA b c=false:=by
   unfold VM;by_cases h1:0<=c
   . rw[decide_eq_false (show ¬c<(AA.length:Int) from fun h2=>hin ⟨c.toNat,by omega,by omega⟩)];simp
   . rw[decide_eq_false h1];rfl
  have hno:Gv (Ad AA b) (-1)=false:=NY (fun d hd e=>by omega) (fun d hd e=>by omega);go_upto_region 3 with fail
  go_cut [6,7] from 8 (fun s6 s7 wx=>∃(yW yP yL yN yX yS yF yR:Option Addr) (Lh Ld Lb Lc Li Lg La Lf Mb:Nat) (D1:List (List Dd)) (B1:Bd),s6 = .pointer (some ⟨Mb,0,none⟩)/\s7 = .bool (Hi AA b (-1))/\D1=GZ AA b/\B1=B7 AA b (-1)/\AC w wx/\w1.heap.size<=Mb/\Mb<wx.heap.size/\wx.heap[Mb]? = some (.cells #[.slice yW D1.length Lh,.slice yP B1.AM.length Ld,.slice yL B1.AO.length Lb,.slice yN B1.AG.length Lc,.slice yX B1.AL.length Li,.slice yS B1.sn.length Lg,.slice yF B1.fr.length La,.slice yR B1.rws.length Lf] 36 (0,0))/\wx.heap[w.heap.size+1]? = some (.cells #[AE,AE,AE,AE,AE,AE,AE,AE] 36 (0,0))/\Cf wx w1.heap.size Mb ⟨.slice yW D1.length Lh,.slice yP B1.AM.length Ld,.slice yL B1.AO.length Lb,.slice yN B1.AG.length Lc,.slice yX B1.AL.length Li,.slice yS B1.sn.length Lg,.slice yF B1.fr.length La,.slice yR B1.rws.length Lf⟩ D1 B1)
  case first=>
   have CS:=DT w1 _ AA b (-1) (dm.out.keep K1) qJ.out;go_wp2_with (first|refine wpList_load_row rfl 36 _ rfl w.heap.size rfl 36 _ (0,0) _ hB1 Tryz.underlying36 rfl AK ?_|fail)
   refine CS.mono ?_;rintro e w2 ⟨bv,rfl,F2,k2⟩;obtain⟨yW,yP,yL,yN,yX,yS,yF,yR,Lh,Ld,Lb,Lc,Li,Lg,La,Lf,rfl⟩:=F2.rd.shapes;obtain⟨w3,hw3⟩:∃W:World,W=w2.alloc (.cells #[.slice yW (GZ AA b).length Lh,.slice yP (B7 AA b (-1)).AM.length Ld,.slice yL (B7 AA b (-1)).AO.length Lb,.slice yN (B7 AA b (-1)).AG.length Lc,.slice yX (B7 AA b (-1)).AL.length Li,.slice yS (B7 AA b (-1)).sn.length Lg,.slice yF (B7 AA b (-1)).fr.length La,.slice yR (B7 AA b (-1)).rws.length Lf] 36):=⟨_,rfl⟩;have k3:AC w2 w3:=by rw[hw3];exact (AC.refl w2).alloc _
   have hM3:w3.heap[w2.heap.size]? = some (.cells #[.slice yW (GZ AA b).length Lh,.slice yP (B7 AA b (-1)).AM.length Ld,.slice yL (B7 AA b (-1)).AO.length Lb,.slice yN (B7 AA b (-1)).AG.length Lc,.slice yX (B7 AA b (-1)).AL.length Li,.slice yS (B7 AA b (-1)).sn.length Lg,.slice yF (B7 AA b (-1)).fr.length La,.slice yR (B7 AA b (-1)).rws.length Lf] 36 (0,0)):=by rw[hw3];exact heap_alloc_new _ _
   have s2:=k2.size;have s3:w2.heap.size<w3.heap.size:=by rw[hw3,AD];omega
   have XK:=Lib.hid ((K1.trans k2).trans k3);have XR:=Lib.hid ((Below.block (k2.trans k3) (w.heap.size+1) (by omega)).trans hR1);have XF:=Lib.hid (F2.keep k3);have XM:=Lib.hid hM3;clear F2 CS k2 hM3;go_wp2;rw[<-hw3];clear hw3;go_meet;case rel=>exact⟨_,_,_,_,_,_,_,_,_,_,_,_,_,_,_,_,_,_,_,rfl,rfl,rfl,rfl,XK.out,s2,s3,XM.out,XR.out,XF.out⟩
  case rest=>
   obtain⟨yW,yP,yL,yN,yX,yS,yF,yR,Lh,Ld,Lb,Lc,Li,Lg,La,Lf,Mb,D1,B1,rfl,rfl,hD1,hB1',K3,s2,s3,hM3,hR3,YC⟩:=hcut;have qH:=Lib.hid YC;have oH:=Lib.hid hD1;have bD:=Lib.hid hB1';clear YC hD1 hB1' hB1 hR1 K1;have HS:Hid (Hi AA b (-1)=false):=Lib.hid (by unfold Hi;rw[hno];simp);rw[HS.out];have HT:Hid ((AW AA b&&VM AA b c)=false):=Lib.hid (by rw[hq0];simp);have HD:Hid (jc AA b=D1):=Lib.hid (by rw[oH.out];rfl)
   have HB:Hid (Qh AA b c=B1):=Lib.hid (by
    rw[bD.out];unfold Qh B7 sw Dw;rw[hq0,hno]
    simp only[Bool.false_eq_true,if_false])
   clear hq0 hno hin;have HG:=Lib.hid (Af wc (w.heap.size+1) #[.slice yW D1.length Lh,.slice yP B1.AM.length Ld,.slice yL B1.AO.length Lb,.slice yN B1.AG.length Lc,.slice yX B1.AL.length Li,.slice yS B1.sn.length Lg,.slice yF B1.fr.length La,.slice yR B1.rws.length Lf]);have HZ:=Lib.hid (setRow_heap wc (w.heap.size+1) _ #[.slice yW D1.length Lh,.slice yP B1.AM.length Ld,.slice yL B1.AO.length Lb,.slice yN B1.AG.length Lc,.slice yX B1.AL.length Li,.slice yS B1.sn.length Lg,.slice yF B1.fr.length La,.slice yR B1.rws.length Lf] _ _ hR3);have HF:=Lib.hid (((qH.out).above (w':=wc.setRow (w.heap.size+1) #[.slice yW D1.length Lh,.slice yP B1.AM.length Ld,.slice yL B1.AO.length Lb,.slice yN B1.AG.length Lc,.slice yX B1.AL.length Li,.slice yS B1.sn.length Lg,.slice yF B1.fr.length La,.slice yR B1.rws.length Lf]) (fun q h1 h2=>HG.out.block q h2 (fun e=>by have:=Option.some.inj e;omega)) HG.out.size).wide (show w.heap.size<=_ by omega) (Nat.le_trans (by omega) HG.out.size));have HKK:=Lib.hid ((K3).grown HG.out (fun q hq=>by have:=Option.some.inj hq;omega));go_wp2_with (first|refine wpList_load_row rfl 36 _ rfl Mb rfl 36 _ (0,0) _ hM3 Tryz.underlying36 rfl AK ?_|refine wpList_store_row rfl 36 _ _ rfl (w.heap.size+1) _ rfl rfl 36 _ hR3 AK rfl (by simp[Value.oneCell']) ?_|fail)
   refine bodyPost_ret (As (by rfl) _ _ (w.heap.size+1) _ _ (0,0) _ (.bool false) rfl HZ.out rfl Tryz.underlying36 rfl AK) rfl ?_;exact⟨⟨.slice yW D1.length Lh,.slice yP B1.AM.length Ld,.slice yL B1.AO.length Lb,.slice yN B1.AG.length Lc,.slice yX B1.AL.length Li,.slice yS B1.sn.length Lg,.slice yF B1.fr.length La,.slice yR B1.rws.length Lf⟩,by rw[HT.out],by rw[HD.out,HB.out];exact HF.out,HKK.out⟩
theorem Tryz.Uw:(Tryz.prog.info? 36).map (fun i=>(i.zero,i.size,i.bytes))=some (some (.agg #[AE,AE,AE,AE,AE,AE,AE,AE]),8,192):=by kernel_rfl
theorem Cf.held {w:World}{m:Nat}{v:BV}{AA:List (List Dd)}{b:Bd}(h:Cf w m w.heap.size v AA b):C4 w (fun g=>m<=g/\g<w.heap.size) v AA b:=fun _ k=>(h.above (fun q h1 h2=>k.blk q h2 ⟨h1,h2⟩) k.size).rd
def JQ (ds:List (List Dd))(b:Bd):List Bd:=(B8 ds b).map (fun s=>B7 ds b s)
theorem Vj {ds:List (List Dd)}{b:Bd}{i:Nat}(h:i<(B8 ds b).length):(JQ ds b).take (i+1)=(JQ ds b).take i++[B7 ds b ((B8 ds b).getD i 0)]:=by
 have hl:i<(JQ ds b).length:=by unfold JQ;rw[List.length_map];exact h
 rw[List.take_succ_eq_append_getElem hl]
 have e:(JQ ds b)[i]=B7 ds b ((B8 ds b).getD i 0):=by
  have q:(JQ ds b)[i]? = some (B7 ds b ((B8 ds b).getD i 0)):=by
   unfold JQ;rw[List.getElem?_map,List.getD_eq_getElem?_getD,List.getElem?_eq_getElem h];rfl
  rw[List.getElem?_eq_getElem hl] at q;exact Option.some.inj q
 rw[e]
def Jr (ds:List (List Dd))(b:Bd)(n:Nat):List Bd:=((List.range n).filter (Bh ds b)).map (fun c=>Bf ds (AB ds) b c)
theorem YF {ds:List (List Dd)}{b:Bd}{i:Nat}(h:Bh ds b i=true):Jr ds b (i+1)=Jr ds b i++[Bf ds (AB ds) b i]:=by
 unfold Jr;rw[List.range_succ,List.filter_append,List.map_append];simp[h]
theorem Vh {ds:List (List Dd)}{b:Bd}{i:Nat}(h:Bh ds b i=false):Jr ds b (i+1)=Jr ds b i:=by
 unfold Jr;rw[List.range_succ,List.filter_append,List.map_append];simp[h]
theorem YG (ds:List (List Dd))(b:Bd)(n:Nat):(Jr ds b n).length<=n:=by
 unfold Jr;rw[List.length_map];have:=List.length_filter_le (Bh ds b) (List.range n)
 rwa [List.length_range] at this
def bT (w w':World)(v:Value)(ds:List (List Dd))(l:List Bd):Prop:=∃vs P,FJ w' P w.heap.size v vs ds l/\∀g,P g->w.heap.size<=g/\g<w'.heap.size
structure AS (w:World)(z1:Nat)(wr:World)(bx:Array Value)(vp:Value)(ps:List Int)(v:Value)(ds:List (List Dd))(l:List Bd):Prop where
 st:∃vs P,FJ wr P w.heap.size v vs ds l/\∀g,P g->z1<=g/\g<wr.heap.size
 box:wr.heap[w.heap.size]? = some (.cells bx 36 (0,0))
 row:UT wr z1 vp ps
 ne:∀g,v.ownBlock=some g->g≠w.heap.size/\vp.ownBlock≠some g
 K:AC w wr
 sz:z1<=wr.heap.size
 one:w.heap.size<z1
theorem AS.aft {w wr:World}{z1:Nat}{bx:Array Value}{vp v:Value}{ps:List Int}{ds:List (List Dd)}{l:List Bd}(h:AS w z1 wr bx vp ps v ds l):bT w wr v ds l:=by
 obtain⟨vs,P,h1,h2⟩:=h.st;exact⟨vs,P,h1,fun g hg=>⟨Nat.le_trans (Nat.le_of_lt h.one) (h2 g hg).1,(h2 g hg).2⟩⟩
theorem AS.keep {w wr wq:World}{z1:Nat}{bx:Array Value}{vp v:Value}{ps:List Int}{ds:List (List Dd)}{l:List Bd}(h:AS w z1 wr bx vp ps v ds l)(k:AC wr wq):AS w z1 wq bx vp ps v ds l:=by
 obtain⟨vs,P,h1,h2⟩:=h.st;exact⟨⟨vs,P,h1.kept k.grownBy (by simp),fun g hg=>⟨(h2 g hg).1,Nat.lt_of_lt_of_le (h2 g hg).2 k.size⟩⟩,(Below.block k _ (Nat.lt_of_lt_of_le h.one h.sz)).trans h.box,h.row.keep k,h.ne,h.K.trans k,Nat.le_trans h.sz k.size,h.one⟩
theorem AS.own {w wr:World}{z1:Nat}{bx:Array Value}{vp v:Value}{ps:List Int}{ds:List (List Dd)}{l:List Bd}(h:AS w z1 wr bx vp ps v ds l):∃vs:List BV,wr.ownsRow w.heap.size 36 8 v l.length (vs.flatMap cB)/\∀(w8 wq w':World) (v':Value) (b:Bd) (bv:BV),AC wr w8->AC w8 wq->C4 w8 (fun g=>wr.heap.size<=g/\g<w8.heap.size) bv ds b->w'.ownsRow w.heap.size 36 8 v' (l.length+1) (vs.flatMap cB++cB bv)->wq.grownBy w' v.ownBlock->(v'.ownBlock=v.ownBlock\/v'.ownBlock=some wq.heap.size)->AS w z1 w' bx vp ps v' ds (l++[b]):=by
 obtain⟨vs,P,h1,h2⟩:=h.st;refine⟨vs,h1.row,fun w8 wq w' v' b bv k8 kq hB ho hg hn=>?_⟩;have hlt:=h1.lt;have k:=k8.trans kq
 have q1:FJ wq (fun g=>P g\/(wr.heap.size<=g/\g<w8.heap.size)) w.heap.size v vs ds l:=(h1.kept k.grownBy (by simp)).mono (fun _ => .inl) (fun g hv hp=>by
  rcases hp with hp|hp
  . exact h1.np g hv hp
  . have:=(hlt g hv).2;omega)
 have hB2:C4 wq (fun g=>P g\/(wr.heap.size<=g/\g<w8.heap.size)) bv ds b:=(hB.on (Au.Bq kq)).mono (fun _ => .inr);have zq:=kq.size;have z8:=k8.size
 have nP:∀g,v'.ownBlock=some g->¬(P g\/(wr.heap.size<=g/\g<w8.heap.size)):=fun g hv hp=>by
  rcases hn with e|e
  . rw[e] at hv;exact q1.np g hv hp
  ·
   rw[e] at hv;have:=Option.some.inj hv;rcases hp with hp|hp
   . have:=(h2 g hp).2;omega
   . omega
 have q2:=q1.push hB2 ho hg nP
 have hne:∀x:Option Nat,(∀g,v.ownBlock=some g->x≠some g)->(x=none\/x≠v.ownBlock):=fun x hx=>by
  cases x with
  |none=>exact .inl rfl
  |some y=>exact .inr (fun e=>hx y e.symm rfl)
 refine⟨⟨_,_,q2,fun g hp=>?_⟩,?_,(h.row.keep k).kept hg (hne _ (fun g hv=>(h.ne g hv).2)),fun g hv=>?_,(h.K.trans k).grown hg (fun g hv=>(hlt g hv).1),Nat.le_trans h.sz (Nat.le_trans k.size hg.size),h.one⟩
 ·
  have:=hg.size;have:=h.sz;rcases hp with hp|hp
  . have:=h2 g hp;omega
  . omega
 ·
  have zz:=Nat.lt_of_lt_of_le h.one (Nat.le_trans h.sz k.size);exact (hg.block _ zz (fun e=>(h.ne _ e.symm).1 rfl)).trans ((Below.block k _ (Nat.lt_of_lt_of_le h.one h.sz)).trans h.box)
 ·
  rcases hn with e|e
  . rw[e] at hv;exact h.ne g hv
  ·
   rw[e] at hv;have e2:=Option.some.inj hv;have:=h.one;have:=h.sz;refine⟨by omega,fun hvp=>?_⟩;have:=(h.row.lt g hvp).2;omega
theorem AS.new {w w1 w2:World}{bx:Array Value}{vp:Value}{ps:List Int}{ds:List (List Dd)}(K1:AC w w1)(s1:w1.heap.size=w.heap.size+2)(hB:w1.heap[w.heap.size]? = some (.cells bx 36 (0,0)))(hM:w1.heap[w.heap.size+1]? = some (.cells #[] 36 (0,0)))(k2:AC w1 w2)(hr:UT w2 w1.heap.size vp ps):AS w w1.heap.size w2 bx vp ps (.slice (some ⟨w.heap.size+1,0,none⟩) 0 0) ds []:=by
 refine⟨⟨[],fun _=>False,⟨⟨by simp,.inr ⟨w.heap.size+1,0,#[],rfl,by omega,(Below.block k2 _ (by omega)).trans hM,Nat.le_refl _,by decide,by simp,by simp⟩⟩,fun _ _ h=>h,fun i hi=>by simp at hi⟩,fun _ h=>h.elim⟩,(Below.block k2 _ (by omega)).trans hB,hr,fun g hv=>?_,K1.trans k2,k2.size,by omega⟩;have:=Option.some.inj hv;simp only at this;subst this;refine⟨by omega,fun hvp=>?_⟩;have:=(hr.lt _ hvp).1;omega
theorem Hl (w:World)(v:BV)(ds:List (List Dd))(b:Bd)(h:CV w v ds b)(hz:Gi ds b)(hp:(B8 ds b).length<=1000)(hb:∀s∈B8 ds b,AW ds b=true):
  Calls Tryz.prog 31 #[v.agg] w fun e w'=>∃v',e = .returned v'/\bT w w' v' ds (JQ ds b)/\AC w w':=by
 obtain⟨j0,hj,hy0,hy1,hy2⟩:=info_parts Tryz.Uw;obtain⟨aW,aP,aL,aN,aX,aS,aF,aR,cW,cP,cL,cN,cX,cS,cF,cR,rfl⟩:=h.shapes;obtain⟨w1,hw1⟩:∃W:World,W=(w.alloc (.cells #[.slice aW ds.length cW,.slice aP b.AM.length cP,.slice aL b.AO.length cL,.slice aN b.AG.length cN,.slice aX b.AL.length cX,.slice aS b.sn.length cS,.slice aF b.fr.length cF,.slice aR b.rws.length cR] 36)).alloc (.cells #[] 36):=⟨_,rfl⟩;have K1:AC w w1:=by rw[hw1];exact ((AC.refl w).alloc _).alloc _
 have s1:w1.heap.size=w.heap.size+2:=by rw[hw1,AD,AD]
 have hB1:w1.heap[w.heap.size]? = some (.cells #[.slice aW ds.length cW,.slice aP b.AM.length cP,.slice aL b.AO.length cL,.slice aN b.AG.length cN,.slice aX b.AL.length cX,.slice aS b.sn.length cS,.slice aF b.fr.length cF,.slice aR b.rws.length cR] 36 (0,0)):=by rw[hw1];exact CX ((AC.refl _).alloc _)
 have hM1:w1.heap[w.heap.size+1]? = some (.cells #[] 36 (0,0)):=by
  have q:=heap_alloc_new (w.alloc (.cells #[.slice aW ds.length cW,.slice aP b.AM.length cP,.slice aL b.AO.length cL,.slice aN b.AG.length cN,.slice aX b.AL.length cX,.slice aS b.sn.length cS,.slice aF b.fr.length cF,.slice aR b.rws.length cR] 36)) (.cells #[] 36);rw[AD] at q;rw[hw1];exact q
 have XB:=Lib.hid h;have XZ:=Lib.hid hz;have xG:=Lib.hid hb;clear h hb;go_enter Tryz.func31,Tryz.ntmps31
 go_upto_region 2 with fail
 rw[<-hw1];clear hw1;have CP:=LF w1 ⟨.slice aW ds.length cW,.slice aP b.AM.length cP,.slice aL b.AO.length cL,.slice aN b.AG.length cN,.slice aX b.AL.length cX,.slice aS b.sn.length cS,.slice aF b.fr.length cF,.slice aR b.rws.length cR⟩ ds b (XB.out.keep K1) hz;go_wp2_with (first|refine wpList_load_row rfl 36 _ rfl w.heap.size rfl 36 _ (0,0) _ hB1 Tryz.underlying36 rfl AK ?_|fail)
 refine CP.mono ?_;rintro e w2 ⟨vp,rfl,OP,k2⟩;have K2:=K1.trans k2;have s2:=k2.size;have A2:=AS.new (ds:=ds) K1 s1 hB1 hM1 k2 OP;obtain⟨ap,cp,rfl,-⟩:=id OP.rd;obtain⟨z1,hz1⟩:∃z1,z1=w1.heap.size:=⟨_,rfl⟩;rw[<-hz1] at A2;clear CP OP k2 K1 hB1 hM1 hz1 s1;go_wp2;go_loopw [3,5,6,7,12] (fun s3 _ _ _ s12 wr=>∃(i:Nat) (v3:Value),v3=s3/\i<=(B8 ds b).length/\s12 = .int .i64 i/\AS w z1 wr #[.slice aW ds.length cW,.slice aP b.AM.length cP,.slice aL b.AO.length cL,.slice aN b.AG.length cN,.slice aX b.AL.length cX,.slice aS b.sn.length cS,.slice aF b.fr.length cF,.slice aR b.rws.length cR] (.slice ap (B8 ds b).length cp) (B8 ds b) v3 ds ((JQ ds b).take i)) (fun _ _ _ _ s12 _=>(B8 ds b).length-(intOf s12).toNat)
 case atStart=>exact⟨0,_,rfl,Nat.zero_le _,rfl,A2⟩
 case round=>
  obtain⟨i,v3,rfl,hi,rfl,A⟩:=hrel;clear A2;by_cases hlt:i<(B8 ds b).length
  ·
   obtain⟨a',c',e',hpq⟩:=A.row.rd;simp only[Value.slice.injEq,true_and] at e';obtain⟨rfl,rfl⟩:=e';rcases hpq with h0|⟨bp,op,rfl,hbp,hcp⟩
   . exfalso;rw[h0] at hlt;simp at hlt
   have d1:=hcp i hlt;clear hcp;have hmem:(B8 ds b).getD i 0∈B8 ds b:=by rw[List.getD_eq_getElem?_getD,List.getElem?_eq_getElem hlt];exact List.getElem_mem hlt
   have hbr:=xG.out _ hmem;have hsn:=Vj hlt;have hll:((JQ ds b).take i).length<=1000:=by rw[List.length_take];omega
   generalize (JQ ds b).take i=LT at A hsn hll;have XN:=Lib.hid hsn;obtain⟨x,hx⟩:∃x,x=(B8 ds b).getD i 0:=⟨_,rfl⟩;rw[<-hx] at d1 XN;clear hsn;have j1:(0:Int)<=(i:Int):=Int.natCast_nonneg _;have j2:(i:Int)<((B8 ds b).length:Int):=by omega
   have lg:=A.box;have CS:=DT wr ⟨.slice aW ds.length cW,.slice aP b.AM.length cP,.slice aL b.AO.length cL,.slice aN b.AG.length cN,.slice aX b.AL.length cX,.slice aS b.sn.length cS,.slice aF b.fr.length cF,.slice aR b.rws.length cR⟩ ds b x (XB.out.keep A.K) XZ.out;rw[show GZ ds b=ds by unfold GZ;rw[if_pos hbr]] at CS;have XA:=Lib.hid A;clear hmem hx A hbr;go_wp2_with (first|refine wpList_load_row rfl 36 _ rfl w.heap.size rfl 36 _ (0,0) _ lg Tryz.underlying36 rfl AK ?_|fail)
   refine CS.mono ?_;rintro e w8 ⟨bv8,rfl,F8,k8⟩;have kL:=Lib.hid F8.held;obtain⟨xW,xP,xL,xN,xX,xS,xF,xR,yW,yP,yL,yN,yX,yS,yF,yR,rfl⟩:=F8.rd.shapes;obtain⟨B1,hB1⟩:∃B1,B1=B7 ds b x:=⟨_,rfl⟩;have bD:=Lib.hid hB1;rw[<-hB1] at kL ⊢;clear CS F8 hB1 lg;obtain⟨w9,hw9⟩:∃W:World,W=w8.alloc (.cells #[.slice xW ds.length yW,.slice xP B1.AM.length yP,.slice xL B1.AO.length yL,.slice xN B1.AG.length yN,.slice xX B1.AL.length yX,.slice xS B1.sn.length yS,.slice xF B1.fr.length yF,.slice xR B1.rws.length yR] 36):=⟨_,rfl⟩;have k9:AC w8 w9:=by rw[hw9];exact (AC.refl w8).alloc _
   have d9:w9.heap[w8.heap.size]? = some (.cells #[.slice xW ds.length yW,.slice xP B1.AM.length yP,.slice xL B1.AO.length yL,.slice xN B1.AG.length yN,.slice xX B1.AL.length yX,.slice xS B1.sn.length yS,.slice xF B1.fr.length yF,.slice xR B1.rws.length yR] 36 (0,0)):=by rw[hw9];exact heap_alloc_new _ _
   obtain⟨w11,hw11⟩:∃W:World,W=w9.alloc (.cells #[.slice xW ds.length yW,.slice xP B1.AM.length yP,.slice xL B1.AO.length yL,.slice xN B1.AG.length yN,.slice xX B1.AL.length yX,.slice xS B1.sn.length yS,.slice xF B1.fr.length yF,.slice xR B1.rws.length yR] 36):=⟨_,rfl⟩;have k11:AC w9 w11:=by rw[hw11];exact (AC.refl w9).alloc _
   have hN:=heap_alloc_new w9 (.cells #[.slice xW ds.length yW,.slice xP B1.AM.length yP,.slice xL B1.AO.length yL,.slice xN B1.AG.length yN,.slice xX B1.AL.length yX,.slice xS B1.sn.length yS,.slice xF B1.fr.length yF,.slice xR B1.rws.length yR] 36);rw[<-hw11] at hN;obtain⟨vs,hrow,hpush⟩:=XA.out.own;have hrow11:=hrow.kept ((k8.trans (k9.trans k11)).grownBy) (by cases v3.ownBlock<;>simp);have hbs:w.heap.size<=w11.heap.size:=Nat.le_trans XA.out.K.size (k8.trans (k9.trans k11)).size;have hlen:(LT).length<=1000:=hll;have XP:=Lib.hid hpush;clear hpush hrow;go_upto_region 6 with fail
   rw[<-hw9];clear hw9;go_wp2_with (first|refine wpList_load_row rfl 36 _ rfl (w8.heap.size) rfl 36 _ (0,0) _ d9 Tryz.underlying36 rfl AK ?_|(at_builtin;rw[<-hw11];refine wpList_append_own_at _ rfl _ _ 87 rfl w.heap.size 36 j0 (.agg #[AE,AE,AE,AE,AE,AE,AE,AE]) 8 192 Tryz.underlying87 hj hy0 hy1 hy2 rfl (by decide) _ _ _ rfl hrow11 ⟨w9.heap.size,0,none⟩ 1 1 [.slice xW ds.length yW,.slice xP B1.AM.length yP,.slice xL B1.AO.length yL,.slice xN B1.AG.length yN,.slice xX B1.AL.length yX,.slice xS B1.sn.length yS,.slice xF B1.fr.length yF,.slice xR B1.rws.length yR] rfl rfl (World.news_of_block (cs:=#[.slice xW ds.length yW,.slice xP B1.AM.length yP,.slice xL B1.AO.length yL,.slice xN B1.AG.length yN,.slice xX B1.AL.length yX,.slice xS B1.sn.length yS,.slice xF B1.fr.length yF,.slice xR B1.rws.length yR]) (t:=36) (fr:=(0,0)) hN) (by simp[Value.oneCell']) ?e3 ?e4 ?e5 ?_)|fail)
   case e3=>unfold maxLen;omega
   case e4=>omega
   case e5=>exact hbs
   intro v12 w12 hown12 hgrow12 _ hblk12;rw[<-hw11] at hgrow12;have hs11:w11.heap.size=w9.heap.size+1:=by rw[hw11,AD]
   have RM:=Lib.hid (XP.out w8 w11 w12 v12 B1 ⟨.slice xW ds.length yW,.slice xP B1.AM.length yP,.slice xL B1.AO.length yL,.slice xN B1.AG.length yN,.slice xX B1.AL.length yX,.slice xS B1.sn.length yS,.slice xF B1.fr.length yF,.slice xR B1.rws.length yR⟩ k8 (k9.trans k11) kL.out hown12 hgrow12 (by rw[hs11];exact hblk12));rw[bD.out] at RM;clear bD XP kL hown12 hgrow12 hblk12 hrow11 hN d9 k9 k11 hw11 XA k8;go_wp2;go_roundw;case rel=>exact⟨i+1,_,rfl,by omega,by go_num,by rw[XN.out];exact RM.out⟩
   case measure=>simp[intOf];omega
  ·
   obtain rfl:i=(B8 ds b).length:=by omega
   rw[List.take_of_length_le (by unfold JQ;rw[List.length_map];exact Nat.le_refl _)] at A;have XA:=Lib.hid A;clear A;go_wp2;go_ret;exact⟨_,rfl,XA.out.aft,XA.out.K⟩
theorem Hk (w:World)(v:BV)(ds:List (List Dd))(b:Bd)(h:CV w v ds b)(hz:Gi ds b)(hp:ds.length<=1000)(hb:0<ds.length->AW ds b=true)(hlo:(∀c,(b.AG.getD c []).length<=7)/\∀p,(b.rws.getD p []).length<=15):
  Calls Tryz.prog 32 #[v.agg] w fun e w'=>∃v',e = .returned v'/\bT w w' v' ds (Jr ds b ds.length)/\AC w w':=by
 obtain⟨j0,hj,hy0,hy1,hy2⟩:=info_parts Tryz.Uw;obtain⟨aW,aP,aL,aN,aX,aS,aF,aR,cW,cP,cL,cN,cX,cS,cF,cR,rfl⟩:=h.shapes;obtain⟨w1,hw1⟩:∃W:World,W=(w.alloc (.cells #[.slice aW ds.length cW,.slice aP b.AM.length cP,.slice aL b.AO.length cL,.slice aN b.AG.length cN,.slice aX b.AL.length cX,.slice aS b.sn.length cS,.slice aF b.fr.length cF,.slice aR b.rws.length cR] 36)).alloc (.cells #[] 36):=⟨_,rfl⟩;have K1:AC w w1:=by rw[hw1];exact ((AC.refl w).alloc _).alloc _
 have s1:w1.heap.size=w.heap.size+2:=by rw[hw1,AD,AD]
 have hB1:w1.heap[w.heap.size]? = some (.cells #[.slice aW ds.length cW,.slice aP b.AM.length cP,.slice aL b.AO.length cL,.slice aN b.AG.length cN,.slice aX b.AL.length cX,.slice aS b.sn.length cS,.slice aF b.fr.length cF,.slice aR b.rws.length cR] 36 (0,0)):=by rw[hw1];exact CX ((AC.refl _).alloc _)
 have hM1:w1.heap[w.heap.size+1]? = some (.cells #[] 36 (0,0)):=by
  have q:=heap_alloc_new (w.alloc (.cells #[.slice aW ds.length cW,.slice aP b.AM.length cP,.slice aL b.AO.length cL,.slice aN b.AG.length cN,.slice aX b.AL.length cX,.slice aS b.sn.length cS,.slice aF b.fr.length cF,.slice aR b.rws.length cR] 36)) (.cells #[] 36);rw[AD] at q;rw[hw1];exact q
 have XB:=Lib.hid h;have XZ:=Lib.hid hz;have xG:=Lib.hid hb;clear h hb;go_enter Tryz.func32,Tryz.ntmps32
 go_upto_region 2 with fail
 rw[<-hw1];clear hw1;have A2:=AS.new (ds:=ds) (vp:=AE) (ps:=[]) K1 s1 hB1 hM1 (AC.refl _) (.inl ⟨rfl,rfl⟩);have c0:w1.cell? ⟨w.heap.size,0,none⟩=some (.slice aW ds.length cW):=by rw[cell_of_row _ _ 0 _ _ _ hB1];rfl
 obtain⟨z1,hz1⟩:∃z1,z1=w1.heap.size:=⟨_,rfl⟩;rw[<-hz1] at A2;have vG:=Lib.hid hlo;clear K1 hB1 hM1 hz1 s1 hlo;go_wp2;clear c0;go_loopw [3,4,5,6,11] (fun s3 _ _ _ s11 wr=>∃(i:Nat) (v3:Value),v3=s3/\i<=ds.length/\s11 = .int .i64 i/\AS w z1 wr #[.slice aW ds.length cW,.slice aP b.AM.length cP,.slice aL b.AO.length cL,.slice aN b.AG.length cN,.slice aX b.AL.length cX,.slice aS b.sn.length cS,.slice aF b.fr.length cF,.slice aR b.rws.length cR] AE [] v3 ds (Jr ds b i)) (fun _ _ _ _ s11 _=>ds.length-(intOf s11).toNat)
 case atStart=>exact⟨0,_,rfl,Nat.zero_le _,rfl,A2⟩
 case round=>
  obtain⟨i,v3,rfl,hi,rfl,A⟩:=hrel;clear A2;by_cases hlt:i<ds.length
  ·
   have hbr:=xG.out (by omega);have j1:(0:Int)<=(i:Int):=Int.natCast_nonneg _;have j2:(i:Int)<(ds.length:Int):=by omega
   have lg:=A.box;have CS:=N3 wr ⟨.slice aW ds.length cW,.slice aP b.AM.length cP,.slice aL b.AO.length cL,.slice aN b.AG.length cN,.slice aX b.AL.length cX,.slice aS b.sn.length cS,.slice aF b.fr.length cF,.slice aR b.rws.length cR⟩ ds b (i:Int) (XB.out.keep A.K) XZ.out vG.out;have gZ:VM ds b (i:Int)=Bh ds b i:=by unfold VM;rw[decide_eq_true j1,decide_eq_true j2,Int.toNat_natCast];rfl
   rw[gZ,hbr,Bool.true_and,show jc ds b=ds by unfold jc;rw[if_pos hbr]] at CS;have XA:=Lib.hid A;have hll:(Jr ds b i).length<=1000:=by have:=YG ds b i;omega
   cases hcan:Bh ds b i with
   |true=>
    rw[show Qh ds b (i:Int)=Bf ds (AB ds) b i by unfold Qh sw;rw[if_pos hbr,gZ,hcan,if_pos rfl,Int.toNat_natCast],hcan] at CS;have hsn:=YF hcan;generalize Jr ds b i=LT at XA A hsn hll;have XN:=Lib.hid hsn;clear hsn A gZ hbr hcan;go_wp2_with (first|refine wpList_load_row rfl 36 _ rfl w.heap.size rfl 36 _ (0,0) _ lg Tryz.underlying36 rfl AK ?_|fail)
    refine CS.mono ?_;rintro e w8 ⟨bv8,rfl,F8,k8⟩;have kL:=Lib.hid F8.held;obtain⟨xW,xP,xL,xN,xX,xS,xF,xR,yW,yP,yL,yN,yX,yS,yF,yR,rfl⟩:=F8.rd.shapes;obtain⟨B1,hB1⟩:∃B1,B1=Bf ds (AB ds) b i:=⟨_,rfl⟩;have bD:=Lib.hid hB1;rw[<-hB1] at kL ⊢;clear CS F8 hB1 lg;obtain⟨w9,hw9⟩:∃W:World,W=w8.alloc (.cells #[.slice xW ds.length yW,.slice xP B1.AM.length yP,.slice xL B1.AO.length yL,.slice xN B1.AG.length yN,.slice xX B1.AL.length yX,.slice xS B1.sn.length yS,.slice xF B1.fr.length yF,.slice xR B1.rws.length yR] 36):=⟨_,rfl⟩;have k9:AC w8 w9:=by rw[hw9];exact (AC.refl w8).alloc _
    have d9:w9.heap[w8.heap.size]? = some (.cells #[.slice xW ds.length yW,.slice xP B1.AM.length yP,.slice xL B1.AO.length yL,.slice xN B1.AG.length yN,.slice xX B1.AL.length yX,.slice xS B1.sn.length yS,.slice xF B1.fr.length yF,.slice xR B1.rws.length yR] 36 (0,0)):=by rw[hw9];exact heap_alloc_new _ _
    obtain⟨w11,hw11⟩:∃W:World,W=w9.alloc (.cells #[.slice xW ds.length yW,.slice xP B1.AM.length yP,.slice xL B1.AO.length yL,.slice xN B1.AG.length yN,.slice xX B1.AL.length yX,.slice xS B1.sn.length yS,.slice xF B1.fr.length yF,.slice xR B1.rws.length yR] 36):=⟨_,rfl⟩;have k11:AC w9 w11:=by rw[hw11];exact (AC.refl w9).alloc _
    have hN:=heap_alloc_new w9 (.cells #[.slice xW ds.length yW,.slice xP B1.AM.length yP,.slice xL B1.AO.length yL,.slice xN B1.AG.length yN,.slice xX B1.AL.length yX,.slice xS B1.sn.length yS,.slice xF B1.fr.length yF,.slice xR B1.rws.length yR] 36);rw[<-hw11] at hN;obtain⟨vs,hrow,hpush⟩:=XA.out.own;have hrow11:=hrow.kept ((k8.trans (k9.trans k11)).grownBy) (by cases v3.ownBlock<;>simp);have hbs:w.heap.size<=w11.heap.size:=Nat.le_trans XA.out.K.size (k8.trans (k9.trans k11)).size;have hlen:(LT).length<=1000:=hll;have XP:=Lib.hid hpush;clear hpush hrow;go_upto_region 7 with fail
    rw[<-hw9];clear hw9;go_wp2_with (first|refine wpList_load_row rfl 36 _ rfl (w8.heap.size) rfl 36 _ (0,0) _ d9 Tryz.underlying36 rfl AK ?_|(at_builtin;rw[<-hw11];refine wpList_append_own_at _ rfl _ _ 87 rfl w.heap.size 36 j0 (.agg #[AE,AE,AE,AE,AE,AE,AE,AE]) 8 192 Tryz.underlying87 hj hy0 hy1 hy2 rfl (by decide) _ _ _ rfl hrow11 ⟨w9.heap.size,0,none⟩ 1 1 [.slice xW ds.length yW,.slice xP B1.AM.length yP,.slice xL B1.AO.length yL,.slice xN B1.AG.length yN,.slice xX B1.AL.length yX,.slice xS B1.sn.length yS,.slice xF B1.fr.length yF,.slice xR B1.rws.length yR] rfl rfl (World.news_of_block (cs:=#[.slice xW ds.length yW,.slice xP B1.AM.length yP,.slice xL B1.AO.length yL,.slice xN B1.AG.length yN,.slice xX B1.AL.length yX,.slice xS B1.sn.length yS,.slice xF B1.fr.length yF,.slice xR B1.rws.length yR]) (t:=36) (fr:=(0,0)) hN) (by simp[Value.oneCell']) ?e3 ?e4 ?e5 ?_)|fail)
    case e3=>unfold maxLen;omega
    case e4=>omega
    case e5=>exact hbs
    intro v12 w12 hown12 hgrow12 _ hblk12;rw[<-hw11] at hgrow12;have hs11:w11.heap.size=w9.heap.size+1:=by rw[hw11,AD]
    have RM:=Lib.hid (XP.out w8 w11 w12 v12 B1 ⟨.slice xW ds.length yW,.slice xP B1.AM.length yP,.slice xL B1.AO.length yL,.slice xN B1.AG.length yN,.slice xX B1.AL.length yX,.slice xS B1.sn.length yS,.slice xF B1.fr.length yF,.slice xR B1.rws.length yR⟩ k8 (k9.trans k11) kL.out hown12 hgrow12 (by rw[hs11];exact hblk12));rw[bD.out] at RM;clear bD XP kL hown12 hgrow12 hblk12 hrow11 hN d9 k9 k11 hw11 XA k8;go_wp2;go_roundw;case rel=>exact⟨i+1,_,rfl,by omega,by go_num,by rw[XN.out];exact RM.out⟩
    case measure=>simp[intOf];omega
   |false=>
    rw[hcan] at CS;have XN:=Lib.hid (Vh hcan);clear A gZ hbr hcan;go_wp2_with (first|refine wpList_load_row rfl 36 _ rfl w.heap.size rfl 36 _ (0,0) _ lg Tryz.underlying36 rfl AK ?_|fail)
    refine CS.mono ?_;rintro e w8 ⟨bv8,rfl,F8,k8⟩;obtain⟨xW,xP,xL,xN,xX,xS,xF,xR,yW,yP,yL,yN,yX,yS,yF,yR,rfl⟩:=F8.rd.shapes;have RM:=Lib.hid (XA.out.keep k8);clear F8 CS lg k8;go_upto_region 6 with fail
    obtain⟨w9,hw9⟩:∃W:World,W=w8.alloc (.cells #[.slice xW ds.length yW,.slice xP (Qh ds b (i:Int)).AM.length yP,.slice xL (Qh ds b (i:Int)).AO.length yL,.slice xN (Qh ds b (i:Int)).AG.length yN,.slice xX (Qh ds b (i:Int)).AL.length yX,.slice xS (Qh ds b (i:Int)).sn.length yS,.slice xF (Qh ds b (i:Int)).fr.length yF,.slice xR (Qh ds b (i:Int)).rws.length yR] 36):=⟨_,rfl⟩;have xB:=Lib.hid (show AS w z1 w9 _ _ _ _ _ _ from RM.out.keep (by rw[hw9];exact (AC.refl w8).alloc _));rw[<-hw9];clear hw9 RM;go_wp2;go_roundw;case rel=>exact⟨i+1,_,rfl,by omega,by go_num,by rw[XN.out];exact xB.out⟩
    case measure=>simp[intOf];omega
  ·
   obtain rfl:i=ds.length:=by omega
   have XA:=Lib.hid A;clear A;go_wp2;go_ret;exact⟨_,rfl,XA.out.aft,XA.out.K⟩
end Go.Proofs.YtnmelakgmgenjaaGreat
