/- Gathered texts. -/
import Derived.Test.YtnmelakgmgenjaaGreatMU
import Derived.Test.YtnmelakgmgenjaaGreatMN
import Derived.Deep.Cut
import Derived.Deep.QuietTactic
set_option maxRecDepth 100000
set_option maxHeartbeats 8000000
namespace Go.Proofs.YtnmelakgmgenjaaGreat
open Go.ChangeShapes Go.WideShapes Go.ChangeAt Go.RowKit
theorem Iv {AA:List (List Dd)}{b:Bd}{c:Nat}(_:AA.length<=3)(h:BU AA b c=true)(hc:c<AA.length):Hf (Ah AA b) (c:Int)=true:=by
 unfold Hf Ah;rw[List.any_append,List.any_map];simp only[Bool.or_eq_true];left;rw[List.any_eq_true];exact⟨c,List.mem_filter.2 ⟨List.mem_range.2 hc,h⟩,by simp⟩
theorem Jh {AA:List (List Dd)}{b:Bd}{c:Nat}(h:decide (0<(b.AG.getD c []).length)=true)(hc:c<AA.length):Hf (Ah AA b) (10+(c:Int))=true:=by
 unfold Hf Ah;rw[List.any_append];simp only[Bool.or_eq_true];right;rw[List.any_map,List.any_eq_true];refine⟨c,List.mem_filter.2 ⟨List.mem_range.2 hc,?_⟩,by simp⟩
 cases e:b.AG.getD c [] with
 |nil=>rw[e] at h;simp at h
 |cons x r=>rfl
theorem OC {AA:List (List Dd)}{b:Bd}{s:Int}(h0:∀c:Nat,c<AA.length->s=(c:Int)->BU AA b c=false)(h1:∀c:Nat,c<AA.length->s=10+(c:Int)->decide (0<(b.AG.getD c []).length)=false):Hf (Ah AA b) s=false:=by
 cases e:Hf (Ah AA b) s with
 |false=>rfl
 |true=>
  exfalso;unfold Hf Ah at e;rw[List.any_append,List.any_map,List.any_map] at e;simp only[Bool.or_eq_true,List.any_eq_true,List.mem_filter,List.mem_range,Function.comp,beq_iff_eq] at e;rcases e with ⟨c,⟨hc,q⟩,e⟩|⟨c,⟨hc,q⟩,e⟩
  . rw[h0 c hc e.symm] at q;cases q
  ·
   have:=h1 c hc e.symm
   cases en:b.AG.getD c [] with
   |nil=>rw[en] at q;simp at q
   |cons x r=>rw[en] at this;simp at this
theorem CX.wide {w:World}{m m' M M':Nat}{v:BV}{AA:List (List Dd)}{b:Bd}(h:CX w m M v AA b)(hm:m'<=m)(hM:M<=M'):CX w m' M' v AA b:=by
 obtain⟨Vw,Vn,Vr,h1,h2,h3⟩:=h.ex;have up:∀v n,iU v n m->iU v n m':=fun v n q b o l c e hn=>Nat.le_trans hm (q b o l c e hn)
 exact⟨h.rd,⟨Vw,Vn,Vr,h1,h2,fun x hx=>⟨Nat.le_trans hm (h3 x hx).1,Nat.lt_of_lt_of_le (h3 x hx).2 hM⟩⟩,up _ _ h.hd.1,up _ _ h.hd.2.1,up _ _ h.hd.2.2⟩
theorem A7.all {w:World}{m:Nat}{v:BV}{nv rv wv:List Value}{bs N:Nat}{AA:List (List Dd)}{b:Bd}(h:A7 w m v nv rv bs N AA b)(lw:Dk w bs N v.W wv AA)(hm:m<=bs):Ei w m v nv rv wv AA b:=by
 have wl:∀o,ED wv.length o->∀k,(LI 62 Tv v.W wv AA o).v.ownBlock=some k->bs<=k/\k<N:=fun o ho k hk=>⟨(lw.ll.Ag.lt ho k hk).1,lw.lt o ho k hk⟩
 have cross:∀i,Bf nv rv i->i≠.bd->∀o,ED wv.length o->(Av 0 v nv rv b i).v.ownBlock=none\/(Av 0 v nv rv b i).v.ownBlock≠(LI 62 Tv v.W wv AA o).v.ownBlock:=fun i hi hb o ho=>by
  cases e:(Av 0 v nv rv b i).v.ownBlock with
  |none=>exact .inl rfl
  |some k=>exact .inr (fun q=>by have:=h.out i hi hb k e;have:=wl o ho k q.symm;omega)
 have cross':∀o,ED wv.length o->∀i,Bf nv rv i->i≠.bd->(LI 62 Tv v.W wv AA o).v.ownBlock=none\/(LI 62 Tv v.W wv AA o).v.ownBlock≠(Av 0 v nv rv b i).v.ownBlock:=fun o ho i hi hb=>by
  cases e:(LI 62 Tv v.W wv AA o).v.ownBlock with
  |none=>exact .inl rfl
  |some k=>exact .inr (fun q=>by have:=h.out i hi hb k q.symm;have:=wl o ho k e;omega)
 refine⟨⟨fun j hj=>?_,fun i j hi hj hij=>?_⟩,h.ln,h.lr,lw.ll.len⟩
 ·
  cases j with
  |b i=>exact h.Ag.own i hj
  |wk=>exact DR (lw.ll.Ag.own none trivial) hm
  |wd c=>exact DR (lw.ll.Ag.own (some c) hj) hm
 ·
  cases i with
  |b i=>
   cases j with
   |b j=>exact h.Ag.apart i j hi hj (fun e=>hij (by rw[e]))
   |wk=>exact cross i hi.1 hi.2 none trivial
   |wd c=>exact cross i hi.1 hi.2 (some c) hj
  |wk=>
   cases j with
   |b j=>exact cross' none trivial j hj.1 hj.2
   |wk=>exact absurd rfl hij
   |wd c=>exact lw.ll.Ag.apart none (some c) trivial hj (by simp)
  |wd c=>
   cases j with
   |b j=>exact cross' (some c) hi j hj.1 hj.2
   |wk=>exact lw.ll.Ag.apart (some c) none hi trivial (by simp)
   |wd d=>exact lw.ll.Ag.apart (some c) (some d) hi hj (fun e=>hij (by have:=Option.some.inj e;rw[this]))
theorem DS (w:World)(v:BV)(AA:List (List Dd))(b:Bd)(s:Int)(h:Cf w v AA b)(hz:JQ AA b):
  Calls Tryz.prog 70 #[v.agg,.int .i64 s] w fun e w'=>∃bv':BV,e = .returned (.tuple #[bv'.agg,.bool (Hd AA b s)])/\CX w' w.heap.size w'.heap.size bv' (GM AA b) (B6 AA b s)/\AC w w':=by
 obtain⟨s0,hs0⟩:∃s0,s0=s:=⟨_,rfl⟩;have HS0:=Lib.hid hs0;clear hs0;have ig:=Lib.hid h;have CB:=fun (W:World) (kW:AC w W)=>Gy W v AA b (h.keep kW) hz
 obtain⟨aW,aP,aL,aN,aX,aS,aF,aR,cW,cP,cL,cN,cX,cS,cF,cR,rfl⟩:=h.shapes;clear h hz;obtain⟨w1,hw1⟩:∃W:World,W=(w.alloc (.cells #[.slice aW AA.length cW,.slice aP b.AM.length cP,.slice aL b.AQ.length cL,.slice aN b.AG.length cN,.slice aX b.AK.length cX,.slice aS b.sn.length cS,.slice aF b.fr.length cF,.slice aR b.rws.length cR] 36)).alloc (.cells #[AE,AE,AE,AE,AE,AE,AE,AE] 36):=⟨_,rfl⟩;have K1:AC w w1:=by rw[hw1];exact ((AC.refl w).alloc _).alloc _
 have s1:w.heap.size+1<w1.heap.size:=by rw[hw1,AD,AD];omega
 have hB1:w1.heap[w.heap.size]? = some (.cells #[.slice aW AA.length cW,.slice aP b.AM.length cP,.slice aL b.AQ.length cL,.slice aN b.AG.length cN,.slice aX b.AK.length cX,.slice aS b.sn.length cS,.slice aF b.fr.length cF,.slice aR b.rws.length cR] 36 (0,0)):=by rw[hw1];exact Ci ((AC.refl _).alloc _)
 have hR1:w1.heap[w.heap.size+1]? = some (.cells #[AE,AE,AE,AE,AE,AE,AE,AE] 36 (0,0)):=by rw[hw1,<-AD w (.cells #[.slice aW AA.length cW,.slice aP b.AM.length cP,.slice aL b.AQ.length cL,.slice aN b.AG.length cN,.slice aX b.AK.length cX,.slice aS b.sn.length cS,.slice aF b.fr.length cF,.slice aR b.rws.length cR] 36)];exact heap_alloc_new _ _
 go_enter Tryz.func70,Tryz.ntmps70
 go_upto_region 1 with fail
 rw[<-hw1];clear hw1;go_wp2_with (first|refine wpList_load_row rfl 36 _ rfl w.heap.size rfl 36 _ (0,0) _ hB1 Tryz.underlying36 rfl AL ?_|fail)
 refine (CB _ K1).mono ?_;rintro e w2 ⟨rfl,k2⟩;have K2:=K1.trans k2;have s2:=k2.size;have hB2:=(Below.block k2 w.heap.size (by omega)).trans hB1;have hR2:=(Below.block k2 (w.heap.size+1) (by omega)).trans hR1;clear CB hB1 hR1 k2;cases hb:Ac AA b
 ·
  have HD:Hid (GM AA b=[]):=Lib.hid (by unfold GM;rw[hb];rfl);have HB:Hid (B6 AA b s=Mt):=Lib.hid (by unfold B6;rw[hb];rfl);have HT:Hid (Hd AA b s=false):=Lib.hid (by unfold Hd;rw[hb];rfl);have HG:=Lib.hid (An w2 (w.heap.size+1) #[AE,AE,AE,AE,AE,AE,AE,AE]);have HZ:=Lib.hid (setRow_heap w2 (w.heap.size+1) _ #[AE,AE,AE,AE,AE,AE,AE,AE] _ _ hR2);have HK:=Lib.hid (K2.grown HG.out (fun q hq=>by have:=Option.some.inj hq;omega));clear K2 hB2;go_wp2_with (first|refine wpList_store_row rfl 36 _ _ rfl (w.heap.size+1) _ rfl rfl 36 _ hR2 AL rfl (by simp[Value.oneCell']) ?_|fail)
  refine bodyPost_ret (BN (by rfl) _ _ (w.heap.size+1) _ _ (0,0) _ (.bool false) rfl HZ.out rfl Tryz.underlying36 rfl AL) rfl ?_;exact⟨Rz,by rw[HT.out],by rw[HD.out,HB.out];exact (P0 _ _).free,HK.out⟩
 have yU:=Lib.hid (Dc.of hb);have zZ:Hid (AA.length<=3):=Lib.hid (Ay yU.out.work).1;have d3:=zZ.out;go_wp2_with (first|refine wpList_load_row rfl 36 _ rfl w.heap.size rfl 36 _ (0,0) _ hB2 Tryz.underlying36 rfl AL ?_|fail)
 refine (MX w2 _ AA b (ig.out.keep K2) hb).mono ?_;rintro e w3 ⟨bv',nv,rv,wv,bs,N,rfl,OV,LW,qI,k3⟩;obtain⟨uW,uP,uL,uN,uX,uS,uF,uR,eW,eP,eL,eN,eX,eS,eF,eR,rfl⟩:=OV.rd0.shapes;have gZ:=Lib.hid OV;have zi:=Lib.hid LW;have s3:=k3.size;clear OV LW;obtain⟨w4,hw4⟩:∃W:World,W=w3.alloc (.cells #[.slice uW AA.length eW,.slice uP b.AM.length eP,.slice uL b.AQ.length eL,.slice uN b.AG.length eN,.slice uX b.AK.length eX,.slice uS b.sn.length eS,.slice uF b.fr.length eF,.slice uR b.rws.length eR] 36):=⟨_,rfl⟩;have k4:AC w3 w4:=by rw[hw4];exact (AC.refl w3).alloc _
 have hM4:w4.heap[w3.heap.size]? = some (.cells #[.slice uW AA.length eW,.slice uP b.AM.length eP,.slice uL b.AQ.length eL,.slice uN b.AG.length eN,.slice uX b.AK.length eX,.slice uS b.sn.length eS,.slice uF b.fr.length eF,.slice uR b.rws.length eR] 36 (0,0)):=by rw[hw4];exact heap_alloc_new _ _
 have y4:w3.heap.size<w4.heap.size:=by rw[hw4,AD];omega
 go_upto_region 4 with fail
 rw[<-hw4];clear hw4;go_wp2_with fail
 refine (J2 w4).mono ?_;rintro e w5 ⟨rfl,hw5⟩;have k5:AC w4 w5:=by rw[hw5];exact (AC.refl w4).alloc _
 have hT5:w5.heap[w4.heap.size]? = some (.cells Oc 122 (0,0)):=by rw[hw5];exact heap_alloc_new _ _
 have y5:w4.heap.size<w5.heap.size:=by rw[hw5,AD];omega
 have K35:=Lib.hid (k4.trans k5);have K25:=k3.trans (k4.trans k5);have K05:=Lib.hid (K2.trans K25);have XB5:=Lib.hid ((Below.block K25 w.heap.size (by omega)).trans hB2);have zn:=Lib.hid ((Below.block K25 (w.heap.size+1) (by omega)).trans hR2);have zl:=Lib.hid ((Below.block k5 w3.heap.size (by omega)).trans hM4);have XT5:=Lib.hid hT5;clear hw5 hB2 hR2 hM4 hT5 k3 k4 k5 K25 K2 K1;go_wp2;go_loopw [8,9,18] (fun _ _ i wr=>∃k:Nat,k<=2/\i = .int .i64 k/\AC w5 wr/\(1<=k->∀cc:Nat,cc<AA.length->(s0=(cc:Int))->BU AA b cc=false)/\(2<=k->∀cc:Nat,cc<AA.length->(s0=10+(cc:Int))->decide (0<(b.AG.getD cc []).length)=false)) (fun _ _ i _=>2-(intOf i).toNat)
 case atStart=>exact⟨0,Nat.zero_le _,rfl,AC.refl _,fun q=>absurd q (by omega),fun q=>absurd q (by omega)⟩
 case round=>
  obtain⟨k,hk,rfl,kr,hn0,hn1⟩:=hrel;have sr:=kr.size;have hBr:=(Below.block kr w.heap.size (by omega)).trans XB5.out;have hTr:=(Below.block kr w4.heap.size (by omega)).trans XT5.out;by_cases hlt:k<2
  ·
   have k01:k=0\/k=1:=by omega
   rcases k01 with rfl|rfl
   ·
    clear hn0 hn1;obtain⟨q0,q1,q2⟩:=(JA hTr).1;obtain⟨wa,Ud⟩:∃W:World,W=(wr.alloc (.cells #[.int .i64 0,.nilFunc,.nilFunc] 122)).setRow wr.heap.size #[.int .i64 0,.func (.func 132) #[] #[],.func (.func 133) #[] #[]]:=⟨_,rfl⟩;have hA:(wr.alloc (.cells #[.int .i64 0,.nilFunc,.nilFunc] 122)).heap[wr.heap.size]? = some (.cells #[.int .i64 0,.nilFunc,.nilFunc] 122 (0,0)):=heap_alloc_new _ _;have g4:(wr.alloc (.cells #[.int .i64 0,.nilFunc,.nilFunc] 122)).grownBy wa (some wr.heap.size):=by rw[Ud];exact An _ _ _
    have k4:AC wr wa:=((AC.refl wr).alloc _).grown g4 (fun q hq=>Nat.le_of_eq (Option.some.inj hq));have hQ4:wa.heap[wr.heap.size]? = some (.cells #[.int .i64 0,.func (.func 132) #[] #[],.func (.func 133) #[] #[]] 122 (0,0)):=by rw[Ud];exact setRow_heap _ _ _ _ _ _ hA
    have y4:wr.heap.size<wa.heap.size:=by have:=g4.size;rw[AD] at this;omega
    go_upto_region 7 with (first|refine wpList_store_row rfl 122 _ _ rfl wr.heap.size _ rfl rfl 122 _ hA Iz rfl (by simp[Value.oneCell']) ?_|fail)
    rw[<-Ud];clear Ud hA q0 q1 q2 g4;have oh:=kr.trans k4;have KA:=K05.out.trans oh;have hB4:=(Below.block k4 w.heap.size (by omega)).trans hBr;have z0:wa.cell? ⟨w.heap.size,0,none⟩=some (.slice aW AA.length cW):=by rw[cell_of_row wa _ 0 _ _ _ hB4];rfl
    have t0:wa.cell? ⟨wr.heap.size,0,none⟩=some (.int .i64 0):=by rw[cell_of_row wa _ 0 _ _ _ hQ4];rfl
    have t1:wa.cell? ⟨wr.heap.size,1,none⟩=some (.func (.func 132) #[] #[]):=by rw[cell_of_row wa _ 1 _ _ _ hQ4];rfl
    have hw1:IntKind.i64.wrap ((AA.length:Int))=(AA.length:Int):=by rw[IntKind.wrap_i64];omega
    have hw2:IntKind.i64.wrap ((AA.length:Int)-1)=(AA.length:Int)-1:=by rw[IntKind.wrap_i64];omega
    have s4:=k4.size;go_wp2_with fail
    refine (BB _ _ _ _).mono ?_;rintro e wa' ⟨rfl,aC⟩;rw[aC];clear aC;by_cases hin:∃cc:Nat,cc<AA.length/\s=(cc:Int)
    ·
     obtain⟨cc,hcc,hs⟩:=hin;have hI:Cx s 0 ((AA.length:Int)-1)=true:=by unfold Cx;simp;omega
     rw[hI];subst hs;have hws:IntKind.i64.wrap ((cc:Int)-0)=(cc:Int):=by rw[IntKind.wrap_i64];omega
     have hws2:IntKind.i64.wrap (cc:Int)=(cc:Int):=by rw[IntKind.wrap_i64];omega
     have z1:wa.cell? ⟨w.heap.size,1,none⟩=some (.slice aP b.AM.length cP):=by rw[cell_of_row wa _ 1 _ _ _ hB4];rfl
     have z2:wa.cell? ⟨w.heap.size,2,none⟩=some (.slice aL b.AQ.length cL):=by rw[cell_of_row wa _ 2 _ _ _ hB4];rfl
     have z3:wa.cell? ⟨w.heap.size,3,none⟩=some (.slice aN b.AG.length cN):=by rw[cell_of_row wa _ 3 _ _ _ hB4];rfl
     have z4:wa.cell? ⟨w.heap.size,4,none⟩=some (.slice aX b.AK.length cX):=by rw[cell_of_row wa _ 4 _ _ _ hB4];rfl
     have z5:wa.cell? ⟨w.heap.size,5,none⟩=some (.slice aS b.sn.length cS):=by rw[cell_of_row wa _ 5 _ _ _ hB4];rfl
     have z6:wa.cell? ⟨w.heap.size,6,none⟩=some (.slice aF b.fr.length cF):=by rw[cell_of_row wa _ 6 _ _ _ hB4];rfl
     have z7:wa.cell? ⟨w.heap.size,7,none⟩=some (.slice aR b.rws.length cR):=by rw[cell_of_row wa _ 7 _ _ _ hB4];rfl
     have CAN:=MB wa _ AA b cc (ig.out.keep KA) hb hcc;clear hI;go_wp2_with fail
     refine CAN.mono ?_;rintro e wb ⟨rfl,kb⟩;have Wh:=oh.trans kb;have rT:=K35.out.trans Wh;have sb:=kb.size
     cases ht:BU AA b cc with
     |false=>
      have HN:Hid (∀cc:Nat,cc<AA.length->(s0=(cc:Int))->BU AA b cc=false):=Lib.hid (fun d hd e=>by
       have e2:(cc:Int)=(d:Int):=HS0.out.symm.trans e;obtain rfl:cc=d:=by omega
       exact ht)
      go_wp2;go_roundw;case rel=>exact⟨1,by omega,rfl,Wh,fun _=>HN.out,fun q=>absurd q (by omega)⟩
      case measure=>simp[intOf]
     |true=>
      have hQb:=(Below.block kb wr.heap.size y4).trans hQ4;have qG:=(Below.block Wh w3.heap.size (by omega)).trans zl.out;have hRb:=(Below.block Wh (w.heap.size+1) (by omega)).trans zn.out;have u0:wb.cell? ⟨wr.heap.size,0,none⟩=some (.int .i64 0):=by rw[cell_of_row wb _ 0 _ _ _ hQb];rfl
      have u2:wb.cell? ⟨wr.heap.size,2,none⟩=some (.func (.func 133) #[] #[]):=by rw[cell_of_row wb _ 2 _ _ _ hQb];rfl
      have s5b:=Wh.size;obtain⟨cu1,cu2⟩:=VT ht;have sI:=gN wb w2.heap.size ⟨.slice uW AA.length eW,.slice uP b.AM.length eP,.slice uL b.AQ.length eL,.slice uN b.AG.length eN,.slice uX b.AK.length eX,.slice uS b.sn.length eS,.slice uF b.fr.length eF,.slice uR b.rws.length eR⟩ nv rv bs N AA b 20 cc (gZ.out.keep rT) yU.out (by omega) (by omega) hcc (Fd hb hcc).1 cu1 (fun q3=>by rcases cu2 with q|q;omega;exact q);have HT:Hid (Hd AA b ((cc:Int))=true):=Lib.hid (by unfold Hd;rw[hb,Iv zZ.out ht hcc];rfl);have HB:Hid (B6 AA b ((cc:Int))=Al AA (AB AA) b ((cc:Int))):=Lib.hid (by unfold B6 LB;rw[if_pos hb,Iv zZ.out ht hcc,if_pos rfl]);have HD:Hid (GM AA b=AA):=Lib.hid (by unfold GM;rw[if_pos hb]);go_wp2_with (first|refine wpList_load_row rfl 36 _ rfl w3.heap.size rfl 36 _ (0,0) _ qG Tryz.underlying36 rfl AL ?_|fail)
      refine sI.mono ?_;rintro e wd ⟨rfl,nv6,rv6,V6,T6⟩;have LW6:=Dk.turn (v:=⟨.slice uW AA.length eW,.slice uP b.AM.length eP,.slice uL b.AQ.length eL,.slice uN b.AG.length eN,.slice uX b.AK.length eX,.slice uS b.sn.length eS,.slice uF b.fr.length eF,.slice uR b.rws.length eR⟩) (zi.out.keep rT) (gZ.out.keep rT) T6;have tL:=Lib.hid ((V6.all LW6 qI).free);have jA:=Lib.hid T6;clear V6 T6 LW6 sI;have hM6:=(jA.out.block w3.heap.size (by omega) (fun q=>by have:=(gZ.out.blk _ q).2.1;omega)).trans qG;have hR6:=(jA.out.block (w.heap.size+1) (by omega) (fun q=>by have:=(gZ.out.blk _ q).1;omega)).trans hRb;have K6:AC w wd:=Below.trans (K05.out.trans Wh) (jA.out.low (show w.heap.size<=wb.heap.size by omega) (fun g hg=>by have:=(gZ.out.blk g hg).1;omega));have s6:=jA.out.size;clear qG hRb u0 u2 hQb;have HG:=Lib.hid (An wd (w.heap.size+1) #[.slice uW AA.length eW,.slice uP b.AM.length eP,.slice uL b.AQ.length eL,.slice uN b.AG.length eN,.slice uX b.AK.length eX,.slice uS b.sn.length eS,.slice uF b.fr.length eF,.slice uR b.rws.length eR]);have HZ:=Lib.hid (setRow_heap wd (w.heap.size+1) _ #[.slice uW AA.length eW,.slice uP b.AM.length eP,.slice uL b.AQ.length eL,.slice uN b.AG.length eN,.slice uX b.AK.length eX,.slice uS b.sn.length eS,.slice uF b.fr.length eF,.slice uR b.rws.length eR] _ _ hR6);have HF:=Lib.hid (((tL.out).above (w':=wd.setRow (w.heap.size+1) #[.slice uW AA.length eW,.slice uP b.AM.length eP,.slice uL b.AQ.length eL,.slice uN b.AG.length eN,.slice uX b.AK.length eX,.slice uS b.sn.length eS,.slice uF b.fr.length eF,.slice uR b.rws.length eR]) (fun q h1 h2=>HG.out.block q h2 (fun e=>by have:=Option.some.inj e;omega)) HG.out.size).wide (show w.heap.size<=_ by omega) HG.out.size);have HKK:=Lib.hid ((K6).grown HG.out (fun q hq=>by have:=Option.some.inj hq;omega));go_wp2_with (first|refine wpList_load_row rfl 36 _ rfl w3.heap.size rfl 36 _ (0,0) _ hM6 Tryz.underlying36 rfl AL ?_|refine wpList_store_row rfl 36 _ _ rfl (w.heap.size+1) _ rfl rfl 36 _ hR6 AL rfl (by simp[Value.oneCell']) ?_|fail)
      refine bodyPost_ret (BN (by rfl) _ _ (w.heap.size+1) _ _ (0,0) _ (.bool true) rfl HZ.out rfl Tryz.underlying36 rfl AL) rfl ?_;exact⟨⟨.slice uW AA.length eW,.slice uP b.AM.length eP,.slice uL b.AQ.length eL,.slice uN b.AG.length eN,.slice uX b.AK.length eX,.slice uS b.sn.length eS,.slice uF b.fr.length eF,.slice uR b.rws.length eR⟩,by rw[HT.out],by rw[HD.out,HB.out];exact HF.out,HKK.out⟩
    ·
     have hI:Cx s 0 ((AA.length:Int)-1)=false:=by
      unfold Cx;rw[decide_eq_false];rintro⟨h1,h2⟩;exact hin ⟨(s-0).toNat,by omega,by omega⟩
     rw[hI];have HN:Hid (∀cc:Nat,cc<AA.length->(s0=(cc:Int))->BU AA b cc=false):=Lib.hid (fun d hd e=>(hin ⟨d,hd,HS0.out.symm.trans e⟩).elim);clear hI hin;go_wp2;go_roundw;case rel=>exact⟨1,by omega,rfl,oh,fun _=>HN.out,fun q=>absurd q (by omega)⟩
     case measure=>simp[intOf]
   ·
    clear hn1;obtain⟨q0,q1,q2⟩:=(JA hTr).2;obtain⟨wa,Ud⟩:∃W:World,W=(wr.alloc (.cells #[.int .i64 0,.nilFunc,.nilFunc] 122)).setRow wr.heap.size #[.int .i64 10,.func (.func 104) #[] #[],.func (.func 134) #[] #[]]:=⟨_,rfl⟩;have hA:(wr.alloc (.cells #[.int .i64 0,.nilFunc,.nilFunc] 122)).heap[wr.heap.size]? = some (.cells #[.int .i64 0,.nilFunc,.nilFunc] 122 (0,0)):=heap_alloc_new _ _;have g4:(wr.alloc (.cells #[.int .i64 0,.nilFunc,.nilFunc] 122)).grownBy wa (some wr.heap.size):=by rw[Ud];exact An _ _ _
    have k4:AC wr wa:=((AC.refl wr).alloc _).grown g4 (fun q hq=>Nat.le_of_eq (Option.some.inj hq));have hQ4:wa.heap[wr.heap.size]? = some (.cells #[.int .i64 10,.func (.func 104) #[] #[],.func (.func 134) #[] #[]] 122 (0,0)):=by rw[Ud];exact setRow_heap _ _ _ _ _ _ hA
    have y4:wr.heap.size<wa.heap.size:=by have:=g4.size;rw[AD] at this;omega
    go_upto_region 7 with (first|refine wpList_store_row rfl 122 _ _ rfl wr.heap.size _ rfl rfl 122 _ hA Iz rfl (by simp[Value.oneCell']) ?_|fail)
    rw[<-Ud];clear Ud hA q0 q1 q2 g4;have oh:=kr.trans k4;have KA:=K05.out.trans oh;have hB4:=(Below.block k4 w.heap.size (by omega)).trans hBr;have z0:wa.cell? ⟨w.heap.size,0,none⟩=some (.slice aW AA.length cW):=by rw[cell_of_row wa _ 0 _ _ _ hB4];rfl
    have t0:wa.cell? ⟨wr.heap.size,0,none⟩=some (.int .i64 10):=by rw[cell_of_row wa _ 0 _ _ _ hQ4];rfl
    have t1:wa.cell? ⟨wr.heap.size,1,none⟩=some (.func (.func 104) #[] #[]):=by rw[cell_of_row wa _ 1 _ _ _ hQ4];rfl
    have hw1:IntKind.i64.wrap (10+(AA.length:Int))=10+(AA.length:Int):=by rw[IntKind.wrap_i64];omega
    have hw2:IntKind.i64.wrap (10+(AA.length:Int)-1)=10+(AA.length:Int)-1:=by rw[IntKind.wrap_i64];omega
    have s4:=k4.size;go_wp2_with fail
    refine (BB _ _ _ _).mono ?_;rintro e wa' ⟨rfl,aC⟩;rw[aC];clear aC;by_cases hin:∃cc:Nat,cc<AA.length/\s=10+(cc:Int)
    ·
     obtain⟨cc,hcc,hs⟩:=hin;have hI:Cx s 10 (10+(AA.length:Int)-1)=true:=by unfold Cx;simp;omega
     rw[hI];subst hs;have hws:IntKind.i64.wrap (10+(cc:Int)-10)=(cc:Int):=by rw[IntKind.wrap_i64];omega
     have z1:wa.cell? ⟨w.heap.size,1,none⟩=some (.slice aP b.AM.length cP):=by rw[cell_of_row wa _ 1 _ _ _ hB4];rfl
     have z2:wa.cell? ⟨w.heap.size,2,none⟩=some (.slice aL b.AQ.length cL):=by rw[cell_of_row wa _ 2 _ _ _ hB4];rfl
     have z3:wa.cell? ⟨w.heap.size,3,none⟩=some (.slice aN b.AG.length cN):=by rw[cell_of_row wa _ 3 _ _ _ hB4];rfl
     have z4:wa.cell? ⟨w.heap.size,4,none⟩=some (.slice aX b.AK.length cX):=by rw[cell_of_row wa _ 4 _ _ _ hB4];rfl
     have z5:wa.cell? ⟨w.heap.size,5,none⟩=some (.slice aS b.sn.length cS):=by rw[cell_of_row wa _ 5 _ _ _ hB4];rfl
     have z6:wa.cell? ⟨w.heap.size,6,none⟩=some (.slice aF b.fr.length cF):=by rw[cell_of_row wa _ 6 _ _ _ hB4];rfl
     have z7:wa.cell? ⟨w.heap.size,7,none⟩=some (.slice aR b.rws.length cR):=by rw[cell_of_row wa _ 7 _ _ _ hB4];rfl
     have CAN:=El wa _ AA b cc (ig.out.keep KA) (by rw[yU.out.AG];exact hcc);clear hI;go_wp2_with fail
     refine CAN.mono ?_;rintro e wb ⟨rfl,kb⟩;have Wh:=oh.trans kb;have rT:=K35.out.trans Wh;have sb:=kb.size
     cases ht:decide (0<(b.AG.getD cc []).length) with
     |false=>
      have HN:Hid (∀cc:Nat,cc<AA.length->(s0=10+(cc:Int))->decide (0<(b.AG.getD cc []).length)=false):=Lib.hid (fun d hd e=>by
       have e2:10+(cc:Int)=10+(d:Int):=HS0.out.symm.trans e;obtain rfl:cc=d:=by omega
       exact ht)
      go_wp2;go_roundw;case rel=>exact⟨2,by omega,rfl,Wh,fun _=>hn0 (by omega),fun _=>HN.out⟩
      case measure=>simp[intOf]
     |true=>
      have hQb:=(Below.block kb wr.heap.size y4).trans hQ4;have qG:=(Below.block Wh w3.heap.size (by omega)).trans zl.out;have hRb:=(Below.block Wh (w.heap.size+1) (by omega)).trans zn.out;have u0:wb.cell? ⟨wr.heap.size,0,none⟩=some (.int .i64 10):=by rw[cell_of_row wb _ 0 _ _ _ hQb];rfl
      have u2:wb.cell? ⟨wr.heap.size,2,none⟩=some (.func (.func 134) #[] #[]):=by rw[cell_of_row wb _ 2 _ _ _ hQb];rfl
      have s5b:=Wh.size
      obtain⟨xx,rr,wH⟩:∃xx rr,b.AG.getD cc []=xx::rr:=by
       cases e:b.AG.getD cc [] with
       |nil=>rw[e] at ht;simp at ht
       |cons xx rr=>exact⟨xx,rr,rfl⟩
      have hxx:=(((RB.any hb).nl cc).2 xx (by rw[wH];simp)).1;have sI:=W6 wb w2.heap.size ⟨.slice uW AA.length eW,.slice uP b.AM.length eP,.slice uL b.AQ.length eL,.slice uN b.AG.length eN,.slice uX b.AK.length eX,.slice uS b.sn.length eS,.slice uF b.fr.length eF,.slice uR b.rws.length eR⟩ nv rv wv bs N AA b 20 cc xx rr (gZ.out.keep rT) (zi.out.keep rT) qI yU.out (by omega) (by omega) hcc wH hxx;have HT:Hid (Hd AA b (10+(cc:Int))=true):=Lib.hid (by unfold Hd;rw[hb,Jh ht hcc];rfl);have HB:Hid (B6 AA b (10+(cc:Int))=BA b cc):=Lib.hid (by unfold B6 LB;rw[if_pos hb,Jh ht hcc,if_pos rfl,NP]);have HD:Hid (GM AA b=AA):=Lib.hid (by unfold GM;rw[if_pos hb]);go_wp2_with (first|refine wpList_load_row rfl 36 _ rfl w3.heap.size rfl 36 _ (0,0) _ qG Tryz.underlying36 rfl AL ?_|fail)
      refine sI.mono ?_;rintro e wd ⟨rfl,tL,F6,T6⟩;replace tL:=Lib.hid tL;have jA:=Lib.hid T6;clear T6 sI;have hM6:=(jA.out.block w3.heap.size (by omega) (fun q=>by have:=(gZ.out.blk _ q).2.1;omega)).trans qG;have hR6:=(jA.out.block (w.heap.size+1) (by omega) (fun q=>by have:=(gZ.out.blk _ q).1;omega)).trans hRb;have K6:AC w wd:=Below.trans (K05.out.trans Wh) (jA.out.low (show w.heap.size<=wb.heap.size by omega) (fun g hg=>by have:=(gZ.out.blk g hg).1;omega));have s6:=jA.out.size;clear qG hRb u0 u2 hQb;have HG:=Lib.hid (An wd (w.heap.size+1) #[.slice uW AA.length eW,.slice uP b.AM.length eP,.slice uL b.AQ.length eL,.slice uN b.AG.length eN,.slice uX b.AK.length eX,.slice uS b.sn.length eS,.slice uF b.fr.length eF,.slice uR b.rws.length eR]);have HZ:=Lib.hid (setRow_heap wd (w.heap.size+1) _ #[.slice uW AA.length eW,.slice uP b.AM.length eP,.slice uL b.AQ.length eL,.slice uN b.AG.length eN,.slice uX b.AK.length eX,.slice uS b.sn.length eS,.slice uF b.fr.length eF,.slice uR b.rws.length eR] _ _ hR6);have HF:=Lib.hid (((tL.out).above (w':=wd.setRow (w.heap.size+1) #[.slice uW AA.length eW,.slice uP b.AM.length eP,.slice uL b.AQ.length eL,.slice uN b.AG.length eN,.slice uX b.AK.length eX,.slice uS b.sn.length eS,.slice uF b.fr.length eF,.slice uR b.rws.length eR]) (fun q h1 h2=>HG.out.block q h2 (fun e=>by have:=Option.some.inj e;omega)) HG.out.size).wide (show w.heap.size<=_ by omega) HG.out.size);have HKK:=Lib.hid ((K6).grown HG.out (fun q hq=>by have:=Option.some.inj hq;omega));go_wp2_with (first|refine wpList_load_row rfl 36 _ rfl w3.heap.size rfl 36 _ (0,0) _ hM6 Tryz.underlying36 rfl AL ?_|refine wpList_store_row rfl 36 _ _ rfl (w.heap.size+1) _ rfl rfl 36 _ hR6 AL rfl (by simp[Value.oneCell']) ?_|fail)
      refine bodyPost_ret (BN (by rfl) _ _ (w.heap.size+1) _ _ (0,0) _ (.bool true) rfl HZ.out rfl Tryz.underlying36 rfl AL) rfl ?_;exact⟨⟨.slice uW AA.length eW,.slice uP b.AM.length eP,.slice uL b.AQ.length eL,.slice uN b.AG.length eN,.slice uX b.AK.length eX,.slice uS b.sn.length eS,.slice uF b.fr.length eF,.slice uR b.rws.length eR⟩,by rw[HT.out],by rw[HD.out,HB.out];exact HF.out,HKK.out⟩
    ·
     have hI:Cx s 10 (10+(AA.length:Int)-1)=false:=by
      unfold Cx;rw[decide_eq_false];rintro⟨h1,h2⟩;exact hin ⟨(s-10).toNat,by omega,by omega⟩
     rw[hI];have HN:Hid (∀cc:Nat,cc<AA.length->(s0=10+(cc:Int))->decide (0<(b.AG.getD cc []).length)=false):=Lib.hid (fun d hd e=>(hin ⟨d,hd,HS0.out.symm.trans e⟩).elim);clear hI hin;go_wp2;go_roundw;case rel=>exact⟨2,by omega,rfl,oh,fun _=>hn0 (by omega),fun _=>HN.out⟩
     case measure=>simp[intOf]
  ·
   obtain rfl:k=2:=by omega
   have hno:=OC (hn0 (by omega)) (hn1 (by omega));rw[HS0.out] at hno;have HT:Hid (Hd AA b s=false):=Lib.hid (by unfold Hd;rw[hno];simp);have HB:Hid (B6 AA b s=b):=Lib.hid (by unfold B6 LB;rw[if_pos hb,hno];rfl);have HD:Hid (GM AA b=AA):=Lib.hid (by unfold GM;rw[if_pos hb]);have hMr:=(Below.block kr w3.heap.size (by omega)).trans zl.out;have hRr:=(Below.block kr (w.heap.size+1) (by omega)).trans zn.out;have FRr:=Lib.hid (((gZ.out.keep (K35.out.trans kr)).all (zi.out.keep (K35.out.trans kr)) qI).free);have Kr:=K05.out.trans kr;clear hno hn0 hn1 hBr hTr hlt hk;have HG:=Lib.hid (An wr (w.heap.size+1) #[.slice uW AA.length eW,.slice uP b.AM.length eP,.slice uL b.AQ.length eL,.slice uN b.AG.length eN,.slice uX b.AK.length eX,.slice uS b.sn.length eS,.slice uF b.fr.length eF,.slice uR b.rws.length eR]);have HZ:=Lib.hid (setRow_heap wr (w.heap.size+1) _ #[.slice uW AA.length eW,.slice uP b.AM.length eP,.slice uL b.AQ.length eL,.slice uN b.AG.length eN,.slice uX b.AK.length eX,.slice uS b.sn.length eS,.slice uF b.fr.length eF,.slice uR b.rws.length eR] _ _ hRr);have HF:=Lib.hid (((FRr.out).above (w':=wr.setRow (w.heap.size+1) #[.slice uW AA.length eW,.slice uP b.AM.length eP,.slice uL b.AQ.length eL,.slice uN b.AG.length eN,.slice uX b.AK.length eX,.slice uS b.sn.length eS,.slice uF b.fr.length eF,.slice uR b.rws.length eR]) (fun q h1 h2=>HG.out.block q h2 (fun e=>by have:=Option.some.inj e;omega)) HG.out.size).wide (show w.heap.size<=_ by omega) HG.out.size);have HKK:=Lib.hid ((Kr).grown HG.out (fun q hq=>by have:=Option.some.inj hq;omega));go_wp2_with (first|refine wpList_load_row rfl 36 _ rfl w3.heap.size rfl 36 _ (0,0) _ hMr Tryz.underlying36 rfl AL ?_|refine wpList_store_row rfl 36 _ _ rfl (w.heap.size+1) _ rfl rfl 36 _ hRr AL rfl (by simp[Value.oneCell']) ?_|fail)
   refine bodyPost_ret (BN (by rfl) _ _ (w.heap.size+1) _ _ (0,0) _ (.bool false) rfl HZ.out rfl Tryz.underlying36 rfl AL) rfl ?_;exact⟨⟨.slice uW AA.length eW,.slice uP b.AM.length eP,.slice uL b.AQ.length eL,.slice uN b.AG.length eN,.slice uX b.AK.length eX,.slice uS b.sn.length eS,.slice uF b.fr.length eF,.slice uR b.rws.length eR⟩,by rw[HT.out],by rw[HD.out,HB.out];exact HF.out,HKK.out⟩
theorem Oz (w:World)(v:BV)(AA:List (List Dd))(b:Bd)(c:Int)(h:Cf w v AA b)(hz:JQ AA b)(hlo:(∀c,(b.AG.getD c []).length<=7)/\∀p,(b.rws.getD p []).length<=15):
  Calls Tryz.prog 71 #[v.agg,.int .i64 c] w fun e w'=>∃bv':BV,e = .returned (.tuple #[bv'.agg,.bool (Ac AA b&&WM AA b c)])/\CX w' w.heap.size w'.heap.size bv' (nU AA b) (RA AA b c)/\AC w w':=by
 have ig:=Lib.hid h;have uI:=Lib.hid hz;have yT:=Lib.hid hlo;have hx:=hz.w1;obtain⟨aW,aP,aL,aN,aX,aS,aF,aR,cW,cP,cL,cN,cX,cS,cF,cR,rfl⟩:=h.shapes;clear h hz hlo;obtain⟨w1,hw1⟩:∃W:World,W=(w.alloc (.cells #[.slice aW AA.length cW,.slice aP b.AM.length cP,.slice aL b.AQ.length cL,.slice aN b.AG.length cN,.slice aX b.AK.length cX,.slice aS b.sn.length cS,.slice aF b.fr.length cF,.slice aR b.rws.length cR] 36)).alloc (.cells #[AE,AE,AE,AE,AE,AE,AE,AE] 36):=⟨_,rfl⟩;have K1:AC w w1:=by rw[hw1];exact ((AC.refl w).alloc _).alloc _
 have s1:w.heap.size+1<w1.heap.size:=by rw[hw1,AD,AD];omega
 have hB1:w1.heap[w.heap.size]? = some (.cells #[.slice aW AA.length cW,.slice aP b.AM.length cP,.slice aL b.AQ.length cL,.slice aN b.AG.length cN,.slice aX b.AK.length cX,.slice aS b.sn.length cS,.slice aF b.fr.length cF,.slice aR b.rws.length cR] 36 (0,0)):=by rw[hw1];exact Ci ((AC.refl _).alloc _)
 have hR1:w1.heap[w.heap.size+1]? = some (.cells #[AE,AE,AE,AE,AE,AE,AE,AE] 36 (0,0)):=by rw[hw1,<-AD w (.cells #[.slice aW AA.length cW,.slice aP b.AM.length cP,.slice aL b.AQ.length cL,.slice aN b.AG.length cN,.slice aX b.AK.length cX,.slice aS b.sn.length cS,.slice aF b.fr.length cF,.slice aR b.rws.length cR] 36)];exact heap_alloc_new _ _
 have z0:w1.cell? ⟨w.heap.size,0,none⟩=some (.slice aW AA.length cW):=by rw[cell_of_row w1 _ 0 _ _ _ hB1];rfl
 have hw2:IntKind.i64.wrap ((AA.length:Int)-1)=(AA.length:Int)-1:=by rw[IntKind.wrap_i64];omega
 go_enter Tryz.func71,Tryz.ntmps71
 go_upto_region 1 with fail
 rw[<-hw1];clear hw1;go_wp2_with fail
 refine (BB _ _ _ _).mono ?_;rintro e wa ⟨rfl,Ud⟩;rw[Ud];clear Ud;by_cases hin:∃cc:Nat,cc<AA.length/\c=(cc:Int)
 ·
  obtain⟨cc,hcc,rfl⟩:=hin;have hI:Cx (cc:Int) 0 ((AA.length:Int)-1)=true:=by unfold Cx;simp;omega
  rw[hI];clear hI z0;go_upto_region 3 with fail
  go_cut [6,7] from 8 (fun s6 s7 wx=>∃(yW yP yL yN yX yS yF yR:Option Addr) (L7 Ly Lw Lx L8 L6 Lv Lz Mb:Nat) (D1:List (List Dd)) (B1:Bd),s6 = .pointer (some ⟨Mb,0,none⟩)/\s7 = .bool (Hd AA b ((cc:Int)))/\D1=GM AA b/\B1=B6 AA b ((cc:Int))/\AC w wx/\w1.heap.size<=Mb/\Mb<wx.heap.size/\wx.heap[Mb]? = some (.cells #[.slice yW D1.length L7,.slice yP B1.AM.length Ly,.slice yL B1.AQ.length Lw,.slice yN B1.AG.length Lx,.slice yX B1.AK.length L8,.slice yS B1.sn.length L6,.slice yF B1.fr.length Lv,.slice yR B1.rws.length Lz] 36 (0,0))/\wx.heap[w.heap.size+1]? = some (.cells #[AE,AE,AE,AE,AE,AE,AE,AE] 36 (0,0))/\CX wx w1.heap.size Mb ⟨.slice yW D1.length L7,.slice yP B1.AM.length Ly,.slice yL B1.AQ.length Lw,.slice yN B1.AG.length Lx,.slice yX B1.AK.length L8,.slice yS B1.sn.length L6,.slice yF B1.fr.length Lv,.slice yR B1.rws.length Lz⟩ D1 B1)
  case first=>
   have CS:=DS w1 _ AA b ((cc:Int)) (ig.out.keep K1) uI.out;go_wp2_with (first|refine wpList_load_row rfl 36 _ rfl w.heap.size rfl 36 _ (0,0) _ hB1 Tryz.underlying36 rfl AL ?_|fail)
   refine CS.mono ?_;rintro e w2 ⟨bv,rfl,F2,k2⟩;obtain⟨yW,yP,yL,yN,yX,yS,yF,yR,L7,Ly,Lw,Lx,L8,L6,Lv,Lz,rfl⟩:=F2.rd.shapes;obtain⟨w3,hw3⟩:∃W:World,W=w2.alloc (.cells #[.slice yW (GM AA b).length L7,.slice yP (B6 AA b ((cc:Int))).AM.length Ly,.slice yL (B6 AA b ((cc:Int))).AQ.length Lw,.slice yN (B6 AA b ((cc:Int))).AG.length Lx,.slice yX (B6 AA b ((cc:Int))).AK.length L8,.slice yS (B6 AA b ((cc:Int))).sn.length L6,.slice yF (B6 AA b ((cc:Int))).fr.length Lv,.slice yR (B6 AA b ((cc:Int))).rws.length Lz] 36):=⟨_,rfl⟩;have k3:AC w2 w3:=by rw[hw3];exact (AC.refl w2).alloc _
   have hM3:w3.heap[w2.heap.size]? = some (.cells #[.slice yW (GM AA b).length L7,.slice yP (B6 AA b ((cc:Int))).AM.length Ly,.slice yL (B6 AA b ((cc:Int))).AQ.length Lw,.slice yN (B6 AA b ((cc:Int))).AG.length Lx,.slice yX (B6 AA b ((cc:Int))).AK.length L8,.slice yS (B6 AA b ((cc:Int))).sn.length L6,.slice yF (B6 AA b ((cc:Int))).fr.length Lv,.slice yR (B6 AA b ((cc:Int))).rws.length Lz] 36 (0,0)):=by rw[hw3];exact heap_alloc_new _ _
   have s2:=k2.size;have s3:w2.heap.size<w3.heap.size:=by rw[hw3,AD];omega
   have XK:=Lib.hid ((K1.trans k2).trans k3);have XR:=Lib.hid ((Below.block (k2.trans k3) (w.heap.size+1) (by omega)).trans hR1);have XF:=Lib.hid (F2.keep k3);have XM:=Lib.hid hM3;clear F2 CS k2 hM3;go_wp2;rw[<-hw3];clear hw3;go_meet;case rel=>exact⟨_,_,_,_,_,_,_,_,_,_,_,_,_,_,_,_,_,_,_,rfl,rfl,rfl,rfl,XK.out,s2,s3,XM.out,XR.out,XF.out⟩
  case rest=>
   obtain⟨yW,yP,yL,yN,yX,yS,yF,yR,L7,Ly,Lw,Lx,L8,L6,Lv,Lz,Mb,D1,B1,rfl,rfl,hD1,hB1',K3,s2,s3,hM3,hR3,ZA⟩:=hcut;have uH:=Lib.hid ZA;have rV:=Lib.hid hD1;have gX:=Lib.hid hB1';clear ZA hD1 hB1' hB1 hR1 K1
   cases hT:Hd AA b (cc:Int) with
   |false=>
    have jk:(Ac AA b&&WM AA b (cc:Int))=false:=by
     unfold Hd at hT
     cases hb:Ac AA b with
     |false=>rfl
     |true=>
      rw[hb] at hT;have d3:AA.length<=3:=(Ay (Dc.of hb).work).1
      cases hcan:BU AA b cc with
      |true=>rw[Iv d3 hcan hcc] at hT;simp at hT
      |false=>unfold WM;simp[hcan]
    have HT:Hid ((Ac AA b&&WM AA b (cc:Int))=false):=Lib.hid jk;have HD:Hid (nU AA b=D1):=Lib.hid (by rw[rV.out];rfl)
    have HB:Hid (RA AA b (cc:Int)=B1):=Lib.hid (by
     rw[gX.out];unfold RA B6
     cases hb:Ac AA b with
     |false=>rfl
     |true=>
      rw[if_pos rfl,if_pos rfl];rw[hb] at jk;unfold Hd at hT;rw[hb] at hT;have q1:WM AA b (cc:Int)=false:=by simpa using jk
      have q2:Hf (Ah AA b) (cc:Int)=false:=by simpa using hT
      unfold wm LB;rw[q1,q2]
      simp only[Bool.false_eq_true,if_false])
    clear jk hT;have HG:=Lib.hid (An wc (w.heap.size+1) #[.slice yW D1.length L7,.slice yP B1.AM.length Ly,.slice yL B1.AQ.length Lw,.slice yN B1.AG.length Lx,.slice yX B1.AK.length L8,.slice yS B1.sn.length L6,.slice yF B1.fr.length Lv,.slice yR B1.rws.length Lz]);have HZ:=Lib.hid (setRow_heap wc (w.heap.size+1) _ #[.slice yW D1.length L7,.slice yP B1.AM.length Ly,.slice yL B1.AQ.length Lw,.slice yN B1.AG.length Lx,.slice yX B1.AK.length L8,.slice yS B1.sn.length L6,.slice yF B1.fr.length Lv,.slice yR B1.rws.length Lz] _ _ hR3);have HF:=Lib.hid (((uH.out).above (w':=wc.setRow (w.heap.size+1) #[.slice yW D1.length L7,.slice yP B1.AM.length Ly,.slice yL B1.AQ.length Lw,.slice yN B1.AG.length Lx,.slice yX B1.AK.length L8,.slice yS B1.sn.length L6,.slice yF B1.fr.length Lv,.slice yR B1.rws.length Lz]) (fun q h1 h2=>HG.out.block q h2 (fun e=>by have:=Option.some.inj e;omega)) HG.out.size).wide (show w.heap.size<=_ by omega) (Nat.le_trans (by omega) HG.out.size));have HKK:=Lib.hid ((K3).grown HG.out (fun q hq=>by have:=Option.some.inj hq;omega));go_wp2_with (first|refine wpList_load_row rfl 36 _ rfl Mb rfl 36 _ (0,0) _ hM3 Tryz.underlying36 rfl AL ?_|refine wpList_store_row rfl 36 _ _ rfl (w.heap.size+1) _ rfl rfl 36 _ hR3 AL rfl (by simp[Value.oneCell']) ?_|fail)
    refine bodyPost_ret (BN (by rfl) _ _ (w.heap.size+1) _ _ (0,0) _ (.bool false) rfl HZ.out rfl Tryz.underlying36 rfl AL) rfl ?_;exact⟨⟨.slice yW D1.length L7,.slice yP B1.AM.length Ly,.slice yL B1.AQ.length Lw,.slice yN B1.AG.length Lx,.slice yX B1.AK.length L8,.slice yS B1.sn.length L6,.slice yF B1.fr.length Lv,.slice yR B1.rws.length Lz⟩,by rw[HT.out],by rw[HD.out,HB.out];exact HF.out,HKK.out⟩
   |true=>
    have hb:Ac AA b=true:=by unfold Hd at hT;simp at hT;exact hT.1
    have d3:AA.length<=3:=(Ay (Dc.of hb).work).1
    have hcan:BU AA b cc=true:=by
     cases hcan:BU AA b cc with
     |true=>rfl
     |false=>
      unfold Hd at hT
      rw[OC (fun d hd e=>by
       obtain rfl:d=cc:=by omega
       exact hcan) (fun d hd e=>by omega)] at hT
      simp at hT
    have hpo:=Iv d3 hcan hcc;have eD1:AA=D1:=by rw[rV.out];unfold GM;rw[if_pos hb]
    subst eD1;have eB1:B1=Al AA (AB AA) b (cc:Int):=by rw[gX.out];unfold B6 LB;rw[if_pos hb,if_pos hpo]
    have hb1:Ac AA B1=true:=by rw[eB1];exact VE hb yT.out.1 yT.out.2 hcc hcan
    have HT:Hid ((Ac AA b&&WM AA b (cc:Int))=true):=Lib.hid (by unfold WM;simp[hb,hcan];omega);have HD:Hid (nU AA b=AA):=Lib.hid (by unfold nU;rw[if_pos hb])
    have HQ:Hid (RA AA b (cc:Int)=if (B1.AG.getD cc []).isEmpty=true then B1 else Al AA (AB AA) B1 (10+(cc:Int))):=Lib.hid (by
     unfold RA wm;rw[if_pos hb,if_pos (by unfold WM;simp[hcan];omega)];unfold BE;rw[eB1]
     simp only[Int.toNat_natCast])
    have za:=uH.out;have lnt:cc<B1.AG.length:=by rw[(Dc.of hb1).AG];exact hcc
    have rd4:Cf wc ⟨.slice yW AA.length L7,.slice yP B1.AM.length Ly,.slice yL B1.AQ.length Lw,.slice yN B1.AG.length Lx,.slice yX B1.AK.length L8,.slice yS B1.sn.length L6,.slice yF B1.fr.length Lv,.slice yR B1.rws.length Lz⟩ AA B1:=za.rd;have CH:=El wc _ AA B1 cc rd4 lnt;have XF5:=Lib.hid za;have XRD:=Lib.hid rd4;have HB1:=Lib.hid hb1;clear hpo eB1 hb1 hT za rd4 uH;have z0:wc.cell? ⟨Mb,0,none⟩=some (.slice yW AA.length L7):=by rw[cell_of_row wc _ 0 _ _ _ hM3];rfl
    have z1:wc.cell? ⟨Mb,1,none⟩=some (.slice yP B1.AM.length Ly):=by rw[cell_of_row wc _ 1 _ _ _ hM3];rfl
    have z2:wc.cell? ⟨Mb,2,none⟩=some (.slice yL B1.AQ.length Lw):=by rw[cell_of_row wc _ 2 _ _ _ hM3];rfl
    have z3:wc.cell? ⟨Mb,3,none⟩=some (.slice yN B1.AG.length Lx):=by rw[cell_of_row wc _ 3 _ _ _ hM3];rfl
    have z4:wc.cell? ⟨Mb,4,none⟩=some (.slice yX B1.AK.length L8):=by rw[cell_of_row wc _ 4 _ _ _ hM3];rfl
    have z5:wc.cell? ⟨Mb,5,none⟩=some (.slice yS B1.sn.length L6):=by rw[cell_of_row wc _ 5 _ _ _ hM3];rfl
    have z6:wc.cell? ⟨Mb,6,none⟩=some (.slice yF B1.fr.length Lv):=by rw[cell_of_row wc _ 6 _ _ _ hM3];rfl
    have z7:wc.cell? ⟨Mb,7,none⟩=some (.slice yR B1.rws.length Lz):=by rw[cell_of_row wc _ 7 _ _ _ hM3];rfl
    go_wp2_with fail
    refine CH.mono ?_;rintro e w4 ⟨rfl,k4⟩;have s4:=k4.size;have hM4:=(Below.block k4 Mb s3).trans hM3;have hR4:=(Below.block k4 (w.heap.size+1) (by omega)).trans hR3;have K4:=K3.trans k4;clear z0 z1 z2 z3 z4 z5 z6 z7 CH hM3 hR3
    cases hN:decide (0<(B1.AG.getD cc []).length) with
    |false=>
     have HB:Hid (RA AA b (cc:Int)=B1):=Lib.hid (by
      rw[HQ.out,if_pos]
      cases e:B1.AG.getD cc [] with
      |nil=>rfl
      |cons x r=>rw[e] at hN;simp at hN)
     have HD:Hid (nU AA b=AA):=HD;have FX:=XF5.out.keep k4;clear hN;have HG:=Lib.hid (An w4 (w.heap.size+1) #[.slice yW AA.length L7,.slice yP B1.AM.length Ly,.slice yL B1.AQ.length Lw,.slice yN B1.AG.length Lx,.slice yX B1.AK.length L8,.slice yS B1.sn.length L6,.slice yF B1.fr.length Lv,.slice yR B1.rws.length Lz]);have HZ:=Lib.hid (setRow_heap w4 (w.heap.size+1) _ #[.slice yW AA.length L7,.slice yP B1.AM.length Ly,.slice yL B1.AQ.length Lw,.slice yN B1.AG.length Lx,.slice yX B1.AK.length L8,.slice yS B1.sn.length L6,.slice yF B1.fr.length Lv,.slice yR B1.rws.length Lz] _ _ hR4);have HF:=Lib.hid (((FX).above (w':=w4.setRow (w.heap.size+1) #[.slice yW AA.length L7,.slice yP B1.AM.length Ly,.slice yL B1.AQ.length Lw,.slice yN B1.AG.length Lx,.slice yX B1.AK.length L8,.slice yS B1.sn.length L6,.slice yF B1.fr.length Lv,.slice yR B1.rws.length Lz]) (fun q h1 h2=>HG.out.block q h2 (fun e=>by have:=Option.some.inj e;omega)) HG.out.size).wide (show w.heap.size<=_ by omega) (Nat.le_trans (by omega) HG.out.size));have HKK:=Lib.hid ((K4).grown HG.out (fun q hq=>by have:=Option.some.inj hq;omega));go_wp2_with (first|refine wpList_load_row rfl 36 _ rfl Mb rfl 36 _ (0,0) _ hM4 Tryz.underlying36 rfl AL ?_|refine wpList_store_row rfl 36 _ _ rfl (w.heap.size+1) _ rfl rfl 36 _ hR4 AL rfl (by simp[Value.oneCell']) ?_|fail)
     refine bodyPost_ret (BN (by rfl) _ _ (w.heap.size+1) _ _ (0,0) _ (.bool true) rfl HZ.out rfl Tryz.underlying36 rfl AL) rfl ?_;exact⟨⟨.slice yW AA.length L7,.slice yP B1.AM.length Ly,.slice yL B1.AQ.length Lw,.slice yN B1.AG.length Lx,.slice yX B1.AK.length L8,.slice yS B1.sn.length L6,.slice yF B1.fr.length Lv,.slice yR B1.rws.length Lz⟩,by rw[HT.out],by rw[HD.out,HB.out];exact HF.out,HKK.out⟩
    |true=>
     have hw10:IntKind.i64.wrap (10+(cc:Int))=10+(cc:Int):=by rw[IntKind.wrap_i64];omega
     have HB:Hid (RA AA b (cc:Int)=B6 AA B1 (10+(cc:Int))):=Lib.hid (by
      rw[HQ.out,if_neg]
      ·
       unfold B6 LB;rw[if_pos HB1.out,Jh hN hcc,if_pos rfl]
      ·
       intro q
       cases e:B1.AG.getD cc [] with
       |nil=>rw[e] at hN;simp at hN
       |cons x r=>rw[e] at q;simp at q)
     have HE:Hid (GM AA B1=AA):=Lib.hid (by unfold GM;rw[if_pos HB1.out]);have CS:=DS w4 _ AA B1 (10+(cc:Int)) (XRD.out.keep k4) ((Dc.of HB1.out).sz (by omega));clear hN;go_wp2_with (first|refine wpList_load_row rfl 36 _ rfl Mb rfl 36 _ (0,0) _ hM4 Tryz.underlying36 rfl AL ?_|fail)
     refine CS.mono ?_;rintro e w5 ⟨bv5,rfl,F5,k5⟩;rw[HE.out] at F5;obtain⟨B2,hB2⟩:∃B2,B2=B6 AA B1 (10+(cc:Int)):=⟨_,rfl⟩;rw[<-hB2] at F5;replace HB:Hid (RA AA b (cc:Int)=B2):=Lib.hid (by rw[HB.out,hB2]);obtain⟨zW,zP,zL,zN,zX,zS,zF,zR,oO,oJ,oH,oI,oQ,oM,oG,oK,rfl⟩:=F5.rd.shapes;have s5:=k5.size;have hR5:=(Below.block k5 (w.heap.size+1) (by omega)).trans hR4;have hM5:=(Below.block k5 Mb (by omega)).trans hM4;have G6:=An w5 Mb #[.slice zW AA.length oO,.slice zP B2.AM.length oJ,.slice zL B2.AQ.length oH,.slice zN B2.AG.length oI,.slice zX B2.AK.length oQ,.slice zS B2.sn.length oM,.slice zF B2.fr.length oG,.slice zR B2.rws.length oK];have hM6:=setRow_heap w5 Mb _ #[.slice zW AA.length oO,.slice zP B2.AM.length oJ,.slice zL B2.AQ.length oH,.slice zN B2.AG.length oI,.slice zX B2.AK.length oQ,.slice zS B2.sn.length oM,.slice zF B2.fr.length oG,.slice zR B2.rws.length oK] _ _ hM5;have F6:=F5.above (w':=w5.setRow Mb #[.slice zW AA.length oO,.slice zP B2.AM.length oJ,.slice zL B2.AQ.length oH,.slice zN B2.AG.length oI,.slice zX B2.AK.length oQ,.slice zS B2.sn.length oM,.slice zF B2.fr.length oG,.slice zR B2.rws.length oK]) (fun q h1 h2=>G6.block q h2 (fun e=>by have:=Option.some.inj e;omega)) G6.size;have K6:=(K4.trans k5).grown G6 (fun q hq=>by have:=Option.some.inj hq;omega);have hR6:=(G6.block (w.heap.size+1) (by omega) (fun e=>by have:=Option.some.inj e;omega)).trans hR5;have s6:=G6.size;obtain⟨w6,hw6⟩:∃W:World,W=w5.setRow Mb #[.slice zW AA.length oO,.slice zP B2.AM.length oJ,.slice zL B2.AQ.length oH,.slice zN B2.AG.length oI,.slice zX B2.AK.length oQ,.slice zS B2.sn.length oM,.slice zF B2.fr.length oG,.slice zR B2.rws.length oK]:=⟨_,rfl⟩;rw[<-hw6] at hM6 F6 K6 hR6 s6;clear F5 hB2 CS G6 hM4 hR4 hR5;go_upto_region 6 with (first|refine wpList_store_row rfl 36 _ _ rfl Mb _ rfl rfl 36 _ hM5 AL rfl (by simp[Value.oneCell']) ?_|fail)
     rw[<-hw6];clear hw6 hM5;have HG:=Lib.hid (An w6 (w.heap.size+1) #[.slice zW AA.length oO,.slice zP B2.AM.length oJ,.slice zL B2.AQ.length oH,.slice zN B2.AG.length oI,.slice zX B2.AK.length oQ,.slice zS B2.sn.length oM,.slice zF B2.fr.length oG,.slice zR B2.rws.length oK]);have HZ:=Lib.hid (setRow_heap w6 (w.heap.size+1) _ #[.slice zW AA.length oO,.slice zP B2.AM.length oJ,.slice zL B2.AQ.length oH,.slice zN B2.AG.length oI,.slice zX B2.AK.length oQ,.slice zS B2.sn.length oM,.slice zF B2.fr.length oG,.slice zR B2.rws.length oK] _ _ hR6);have HF:=Lib.hid (((F6).above (w':=w6.setRow (w.heap.size+1) #[.slice zW AA.length oO,.slice zP B2.AM.length oJ,.slice zL B2.AQ.length oH,.slice zN B2.AG.length oI,.slice zX B2.AK.length oQ,.slice zS B2.sn.length oM,.slice zF B2.fr.length oG,.slice zR B2.rws.length oK]) (fun q h1 h2=>HG.out.block q h2 (fun e=>by have:=Option.some.inj e;omega)) HG.out.size).wide (show w.heap.size<=_ by omega) (Nat.le_trans (by omega) HG.out.size));have HKK:=Lib.hid ((K6).grown HG.out (fun q hq=>by have:=Option.some.inj hq;omega));go_wp2_with (first|refine wpList_load_row rfl 36 _ rfl Mb rfl 36 _ (0,0) _ hM6 Tryz.underlying36 rfl AL ?_|refine wpList_store_row rfl 36 _ _ rfl (w.heap.size+1) _ rfl rfl 36 _ hR6 AL rfl (by simp[Value.oneCell']) ?_|fail)
     refine bodyPost_ret (BN (by rfl) _ _ (w.heap.size+1) _ _ (0,0) _ (.bool true) rfl HZ.out rfl Tryz.underlying36 rfl AL) rfl ?_;exact⟨⟨.slice zW AA.length oO,.slice zP B2.AM.length oJ,.slice zL B2.AQ.length oH,.slice zN B2.AG.length oI,.slice zX B2.AK.length oQ,.slice zS B2.sn.length oM,.slice zF B2.fr.length oG,.slice zR B2.rws.length oK⟩,by rw[HT.out],by rw[HD.out,HB.out];exact HF.out,HKK.out⟩
 ·
  have hI:Cx c 0 ((AA.length:Int)-1)=false:=by
   unfold Cx;rw[decide_eq_false];rintro⟨h1,h2⟩;exact hin ⟨c.toNat,by omega,by omega⟩
  rw[hI];clear hI z0
  have hq0:WM AA b c=false:=by
   unfold WM;by_cases h1:0<=c
   . rw[decide_eq_false (show ¬c<(AA.length:Int) from fun h2=>hin ⟨c.toNat,by omega,by omega⟩)];simp
   . rw[decide_eq_false h1];rfl
  have hno:Hf (Ah AA b) (-1)=false:=OC (fun d hd e=>by omega) (fun d hd e=>by omega);go_upto_region 3 with fail
  go_cut [6,7] from 8 (fun s6 s7 wx=>∃(yW yP yL yN yX yS yF yR:Option Addr) (L7 Ly Lw Lx L8 L6 Lv Lz Mb:Nat) (D1:List (List Dd)) (B1:Bd),s6 = .pointer (some ⟨Mb,0,none⟩)/\s7 = .bool (Hd AA b (-1))/\D1=GM AA b/\B1=B6 AA b (-1)/\AC w wx/\w1.heap.size<=Mb/\Mb<wx.heap.size/\wx.heap[Mb]? = some (.cells #[.slice yW D1.length L7,.slice yP B1.AM.length Ly,.slice yL B1.AQ.length Lw,.slice yN B1.AG.length Lx,.slice yX B1.AK.length L8,.slice yS B1.sn.length L6,.slice yF B1.fr.length Lv,.slice yR B1.rws.length Lz] 36 (0,0))/\wx.heap[w.heap.size+1]? = some (.cells #[AE,AE,AE,AE,AE,AE,AE,AE] 36 (0,0))/\CX wx w1.heap.size Mb ⟨.slice yW D1.length L7,.slice yP B1.AM.length Ly,.slice yL B1.AQ.length Lw,.slice yN B1.AG.length Lx,.slice yX B1.AK.length L8,.slice yS B1.sn.length L6,.slice yF B1.fr.length Lv,.slice yR B1.rws.length Lz⟩ D1 B1)
  case first=>
   have CS:=DS w1 _ AA b (-1) (ig.out.keep K1) uI.out;go_wp2_with (first|refine wpList_load_row rfl 36 _ rfl w.heap.size rfl 36 _ (0,0) _ hB1 Tryz.underlying36 rfl AL ?_|fail)
   refine CS.mono ?_;rintro e w2 ⟨bv,rfl,F2,k2⟩;obtain⟨yW,yP,yL,yN,yX,yS,yF,yR,L7,Ly,Lw,Lx,L8,L6,Lv,Lz,rfl⟩:=F2.rd.shapes;obtain⟨w3,hw3⟩:∃W:World,W=w2.alloc (.cells #[.slice yW (GM AA b).length L7,.slice yP (B6 AA b (-1)).AM.length Ly,.slice yL (B6 AA b (-1)).AQ.length Lw,.slice yN (B6 AA b (-1)).AG.length Lx,.slice yX (B6 AA b (-1)).AK.length L8,.slice yS (B6 AA b (-1)).sn.length L6,.slice yF (B6 AA b (-1)).fr.length Lv,.slice yR (B6 AA b (-1)).rws.length Lz] 36):=⟨_,rfl⟩;have k3:AC w2 w3:=by rw[hw3];exact (AC.refl w2).alloc _
   have hM3:w3.heap[w2.heap.size]? = some (.cells #[.slice yW (GM AA b).length L7,.slice yP (B6 AA b (-1)).AM.length Ly,.slice yL (B6 AA b (-1)).AQ.length Lw,.slice yN (B6 AA b (-1)).AG.length Lx,.slice yX (B6 AA b (-1)).AK.length L8,.slice yS (B6 AA b (-1)).sn.length L6,.slice yF (B6 AA b (-1)).fr.length Lv,.slice yR (B6 AA b (-1)).rws.length Lz] 36 (0,0)):=by rw[hw3];exact heap_alloc_new _ _
   have s2:=k2.size;have s3:w2.heap.size<w3.heap.size:=by rw[hw3,AD];omega
   have XK:=Lib.hid ((K1.trans k2).trans k3);have XR:=Lib.hid ((Below.block (k2.trans k3) (w.heap.size+1) (by omega)).trans hR1);have XF:=Lib.hid (F2.keep k3);have XM:=Lib.hid hM3;clear F2 CS k2 hM3;go_wp2;rw[<-hw3];clear hw3;go_meet;case rel=>exact⟨_,_,_,_,_,_,_,_,_,_,_,_,_,_,_,_,_,_,_,rfl,rfl,rfl,rfl,XK.out,s2,s3,XM.out,XR.out,XF.out⟩
  case rest=>
   obtain⟨yW,yP,yL,yN,yX,yS,yF,yR,L7,Ly,Lw,Lx,L8,L6,Lv,Lz,Mb,D1,B1,rfl,rfl,hD1,hB1',K3,s2,s3,hM3,hR3,ZA⟩:=hcut;have uH:=Lib.hid ZA;have rV:=Lib.hid hD1;have gX:=Lib.hid hB1';clear ZA hD1 hB1' hB1 hR1 K1;have HS:Hid (Hd AA b (-1)=false):=Lib.hid (by unfold Hd;rw[hno];simp);rw[HS.out];have HT:Hid ((Ac AA b&&WM AA b c)=false):=Lib.hid (by rw[hq0];simp);have HD:Hid (nU AA b=D1):=Lib.hid (by rw[rV.out];rfl)
   have HB:Hid (RA AA b c=B1):=Lib.hid (by
    rw[gX.out];unfold RA B6 wm LB;rw[hq0,hno]
    simp only[Bool.false_eq_true,if_false])
   clear hq0 hno hin;have HG:=Lib.hid (An wc (w.heap.size+1) #[.slice yW D1.length L7,.slice yP B1.AM.length Ly,.slice yL B1.AQ.length Lw,.slice yN B1.AG.length Lx,.slice yX B1.AK.length L8,.slice yS B1.sn.length L6,.slice yF B1.fr.length Lv,.slice yR B1.rws.length Lz]);have HZ:=Lib.hid (setRow_heap wc (w.heap.size+1) _ #[.slice yW D1.length L7,.slice yP B1.AM.length Ly,.slice yL B1.AQ.length Lw,.slice yN B1.AG.length Lx,.slice yX B1.AK.length L8,.slice yS B1.sn.length L6,.slice yF B1.fr.length Lv,.slice yR B1.rws.length Lz] _ _ hR3);have HF:=Lib.hid (((uH.out).above (w':=wc.setRow (w.heap.size+1) #[.slice yW D1.length L7,.slice yP B1.AM.length Ly,.slice yL B1.AQ.length Lw,.slice yN B1.AG.length Lx,.slice yX B1.AK.length L8,.slice yS B1.sn.length L6,.slice yF B1.fr.length Lv,.slice yR B1.rws.length Lz]) (fun q h1 h2=>HG.out.block q h2 (fun e=>by have:=Option.some.inj e;omega)) HG.out.size).wide (show w.heap.size<=_ by omega) (Nat.le_trans (by omega) HG.out.size));have HKK:=Lib.hid ((K3).grown HG.out (fun q hq=>by have:=Option.some.inj hq;omega));go_wp2_with (first|refine wpList_load_row rfl 36 _ rfl Mb rfl 36 _ (0,0) _ hM3 Tryz.underlying36 rfl AL ?_|refine wpList_store_row rfl 36 _ _ rfl (w.heap.size+1) _ rfl rfl 36 _ hR3 AL rfl (by simp[Value.oneCell']) ?_|fail)
   refine bodyPost_ret (BN (by rfl) _ _ (w.heap.size+1) _ _ (0,0) _ (.bool false) rfl HZ.out rfl Tryz.underlying36 rfl AL) rfl ?_;exact⟨⟨.slice yW D1.length L7,.slice yP B1.AM.length Ly,.slice yL B1.AQ.length Lw,.slice yN B1.AG.length Lx,.slice yX B1.AK.length L8,.slice yS B1.sn.length L6,.slice yF B1.fr.length Lv,.slice yR B1.rws.length Lz⟩,by rw[HT.out],by rw[HD.out,HB.out];exact HF.out,HKK.out⟩
theorem Tryz.Vt:(Tryz.prog.info? 36).map (fun i=>(i.zero,i.size,i.bytes))=some (some (.agg #[AE,AE,AE,AE,AE,AE,AE,AE]),8,192):=by kernel_rfl
theorem CX.held {w:World}{m:Nat}{v:BV}{AA:List (List Dd)}{b:Bd}(h:CX w m w.heap.size v AA b):C7 w (fun g=>m<=g/\g<w.heap.size) v AA b:=fun _ k=>(h.above (fun q h1 h2=>k.blk q h2 ⟨h1,h2⟩) k.size).rd
def JR (ds:List (List Dd))(b:Bd):List Bd:=(C6 ds b).map (fun s=>B6 ds b s)
theorem Wq {ds:List (List Dd)}{b:Bd}{i:Nat}(h:i<(C6 ds b).length):(JR ds b).take (i+1)=(JR ds b).take i++[B6 ds b ((C6 ds b).getD i 0)]:=by
 have hl:i<(JR ds b).length:=by unfold JR;rw[List.length_map];exact h
 rw[List.take_succ_eq_append_getElem hl]
 have e:(JR ds b)[i]=B6 ds b ((C6 ds b).getD i 0):=by
  have q:(JR ds b)[i]? = some (B6 ds b ((C6 ds b).getD i 0)):=by
   unfold JR;rw[List.getElem?_map,List.getD_eq_getElem?_getD,List.getElem?_eq_getElem h];rfl
  rw[List.getElem?_eq_getElem hl] at q;exact Option.some.inj q
 rw[e]
def Jz (ds:List (List Dd))(b:Bd)(n:Nat):List Bd:=((List.range n).filter (BU ds b)).map (fun c=>BE ds (AB ds) b c)
theorem ZD {ds:List (List Dd)}{b:Bd}{i:Nat}(h:BU ds b i=true):Jz ds b (i+1)=Jz ds b i++[BE ds (AB ds) b i]:=by
 unfold Jz;rw[List.range_succ,List.filter_append,List.map_append];simp[h]
theorem Wo {ds:List (List Dd)}{b:Bd}{i:Nat}(h:BU ds b i=false):Jz ds b (i+1)=Jz ds b i:=by
 unfold Jz;rw[List.range_succ,List.filter_append,List.map_append];simp[h]
theorem ZE (ds:List (List Dd))(b:Bd)(n:Nat):(Jz ds b n).length<=n:=by
 unfold Jz;rw[List.length_map];have:=List.length_filter_le (BU ds b) (List.range n)
 rwa [List.length_range] at this
def iH (w w':World)(v:Value)(ds:List (List Dd))(l:List Bd):Prop:=∃vs P,FA w' P w.heap.size v vs ds l/\∀g,P g->w.heap.size<=g/\g<w'.heap.size
structure AS (w:World)(z1:Nat)(wr:World)(bx:Array Value)(vp:Value)(ps:List Int)(v:Value)(ds:List (List Dd))(l:List Bd):Prop where
 st:∃vs P,FA wr P w.heap.size v vs ds l/\∀g,P g->z1<=g/\g<wr.heap.size
 box:wr.heap[w.heap.size]? = some (.cells bx 36 (0,0))
 row:Om wr z1 vp ps
 ne:∀g,v.ownBlock=some g->g≠w.heap.size/\vp.ownBlock≠some g
 K:AC w wr
 sz:z1<=wr.heap.size
 one:w.heap.size<z1
theorem AS.aft {w wr:World}{z1:Nat}{bx:Array Value}{vp v:Value}{ps:List Int}{ds:List (List Dd)}{l:List Bd}(h:AS w z1 wr bx vp ps v ds l):iH w wr v ds l:=by
 obtain⟨vs,P,h1,h2⟩:=h.st;exact⟨vs,P,h1,fun g hg=>⟨Nat.le_trans (Nat.le_of_lt h.one) (h2 g hg).1,(h2 g hg).2⟩⟩
theorem AS.keep {w wr wq:World}{z1:Nat}{bx:Array Value}{vp v:Value}{ps:List Int}{ds:List (List Dd)}{l:List Bd}(h:AS w z1 wr bx vp ps v ds l)(k:AC wr wq):AS w z1 wq bx vp ps v ds l:=by
 obtain⟨vs,P,h1,h2⟩:=h.st;exact⟨⟨vs,P,h1.kept k.grownBy (by simp),fun g hg=>⟨(h2 g hg).1,Nat.lt_of_lt_of_le (h2 g hg).2 k.size⟩⟩,(Below.block k _ (Nat.lt_of_lt_of_le h.one h.sz)).trans h.box,h.row.keep k,h.ne,h.K.trans k,Nat.le_trans h.sz k.size,h.one⟩
theorem AS.own {w wr:World}{z1:Nat}{bx:Array Value}{vp v:Value}{ps:List Int}{ds:List (List Dd)}{l:List Bd}(h:AS w z1 wr bx vp ps v ds l):∃vs:List BV,wr.ownsRow w.heap.size 36 8 v l.length (vs.flatMap cB)/\∀(w8 wq w':World) (v':Value) (b:Bd) (bv:BV),AC wr w8->AC w8 wq->C7 w8 (fun g=>wr.heap.size<=g/\g<w8.heap.size) bv ds b->w'.ownsRow w.heap.size 36 8 v' (l.length+1) (vs.flatMap cB++cB bv)->wq.grownBy w' v.ownBlock->(v'.ownBlock=v.ownBlock\/v'.ownBlock=some wq.heap.size)->AS w z1 w' bx vp ps v' ds (l++[b]):=by
 obtain⟨vs,P,h1,h2⟩:=h.st;refine⟨vs,h1.row,fun w8 wq w' v' b bv k8 kq hB ho hg hn=>?_⟩;have hlt:=h1.lt;have k:=k8.trans kq
 have q1:FA wq (fun g=>P g\/(wr.heap.size<=g/\g<w8.heap.size)) w.heap.size v vs ds l:=(h1.kept k.grownBy (by simp)).mono (fun _ => .inl) (fun g hv hp=>by
  rcases hp with hp|hp
  . exact h1.np g hv hp
  . have:=(hlt g hv).2;omega)
 have hB2:C7 wq (fun g=>P g\/(wr.heap.size<=g/\g<w8.heap.size)) bv ds b:=(hB.on (Aw.B0 kq)).mono (fun _ => .inr);have zq:=kq.size;have z8:=k8.size
 have nP:∀g,v'.ownBlock=some g->¬(P g\/(wr.heap.size<=g/\g<w8.heap.size)):=fun g hv hp=>by
  rcases hn with e|e
  . rw[e] at hv;exact q1.np g hv hp
  ·
   rw[e] at hv;have:=Option.some.inj hv;rcases hp with hp|hp
   . have:=(h2 g hp).2;omega
   . omega
 have q2:=q1.push hB2 ho hg nP
 have hne:∀x:Option Nat,(∀g,v.ownBlock=some g->x≠some g)->(x=none\/x≠v.ownBlock):=fun x hx=>by
  cases x with
  |none=>exact .inl rfl
  |some y=>exact .inr (fun e=>hx y e.symm rfl)
 refine⟨⟨_,_,q2,fun g hp=>?_⟩,?_,(h.row.keep k).kept hg (hne _ (fun g hv=>(h.ne g hv).2)),fun g hv=>?_,(h.K.trans k).grown hg (fun g hv=>(hlt g hv).1),Nat.le_trans h.sz (Nat.le_trans k.size hg.size),h.one⟩
 ·
  have:=hg.size;have:=h.sz;rcases hp with hp|hp
  . have:=h2 g hp;omega
  . omega
 ·
  have zz:=Nat.lt_of_lt_of_le h.one (Nat.le_trans h.sz k.size);exact (hg.block _ zz (fun e=>(h.ne _ e.symm).1 rfl)).trans ((Below.block k _ (Nat.lt_of_lt_of_le h.one h.sz)).trans h.box)
 ·
  rcases hn with e|e
  . rw[e] at hv;exact h.ne g hv
  ·
   rw[e] at hv;have e2:=Option.some.inj hv;have:=h.one;have:=h.sz;refine⟨by omega,fun hvp=>?_⟩;have:=(h.row.lt g hvp).2;omega
theorem AS.new {w w1 w2:World}{bx:Array Value}{vp:Value}{ps:List Int}{ds:List (List Dd)}(K1:AC w w1)(s1:w1.heap.size=w.heap.size+2)(hB:w1.heap[w.heap.size]? = some (.cells bx 36 (0,0)))(hM:w1.heap[w.heap.size+1]? = some (.cells #[] 36 (0,0)))(k2:AC w1 w2)(hr:Om w2 w1.heap.size vp ps):AS w w1.heap.size w2 bx vp ps (.slice (some ⟨w.heap.size+1,0,none⟩) 0 0) ds []:=by
 refine⟨⟨[],fun _=>False,⟨⟨by simp,.inr ⟨w.heap.size+1,0,#[],rfl,by omega,(Below.block k2 _ (by omega)).trans hM,Nat.le_refl _,by decide,by simp,by simp⟩⟩,fun _ _ h=>h,fun i hi=>by simp at hi⟩,fun _ h=>h.elim⟩,(Below.block k2 _ (by omega)).trans hB,hr,fun g hv=>?_,K1.trans k2,k2.size,by omega⟩;have:=Option.some.inj hv;simp only at this;subst this;refine⟨by omega,fun hvp=>?_⟩;have:=(hr.lt _ hvp).1;omega
theorem Hj (w:World)(v:BV)(ds:List (List Dd))(b:Bd)(h:Cf w v ds b)(hz:JQ ds b)(hp:(C6 ds b).length<=1000)(hb:∀s∈C6 ds b,Ac ds b=true):
  Calls Tryz.prog 31 #[v.agg] w fun e w'=>∃v',e = .returned v'/\iH w w' v' ds (JR ds b)/\AC w w':=by
 obtain⟨j0,hj,hy0,hy1,hy2⟩:=info_parts Tryz.Vt;obtain⟨aW,aP,aL,aN,aX,aS,aF,aR,cW,cP,cL,cN,cX,cS,cF,cR,rfl⟩:=h.shapes;obtain⟨w1,hw1⟩:∃W:World,W=(w.alloc (.cells #[.slice aW ds.length cW,.slice aP b.AM.length cP,.slice aL b.AQ.length cL,.slice aN b.AG.length cN,.slice aX b.AK.length cX,.slice aS b.sn.length cS,.slice aF b.fr.length cF,.slice aR b.rws.length cR] 36)).alloc (.cells #[] 36):=⟨_,rfl⟩;have K1:AC w w1:=by rw[hw1];exact ((AC.refl w).alloc _).alloc _
 have s1:w1.heap.size=w.heap.size+2:=by rw[hw1,AD,AD]
 have hB1:w1.heap[w.heap.size]? = some (.cells #[.slice aW ds.length cW,.slice aP b.AM.length cP,.slice aL b.AQ.length cL,.slice aN b.AG.length cN,.slice aX b.AK.length cX,.slice aS b.sn.length cS,.slice aF b.fr.length cF,.slice aR b.rws.length cR] 36 (0,0)):=by rw[hw1];exact Ci ((AC.refl _).alloc _)
 have hM1:w1.heap[w.heap.size+1]? = some (.cells #[] 36 (0,0)):=by
  have q:=heap_alloc_new (w.alloc (.cells #[.slice aW ds.length cW,.slice aP b.AM.length cP,.slice aL b.AQ.length cL,.slice aN b.AG.length cN,.slice aX b.AK.length cX,.slice aS b.sn.length cS,.slice aF b.fr.length cF,.slice aR b.rws.length cR] 36)) (.cells #[] 36);rw[AD] at q;rw[hw1];exact q
 have XB:=Lib.hid h;have XZ:=Lib.hid hz;have ze:=Lib.hid hb;clear h hb;go_enter Tryz.func31,Tryz.ntmps31
 go_upto_region 2 with fail
 rw[<-hw1];clear hw1;have CP:=Ld w1 ⟨.slice aW ds.length cW,.slice aP b.AM.length cP,.slice aL b.AQ.length cL,.slice aN b.AG.length cN,.slice aX b.AK.length cX,.slice aS b.sn.length cS,.slice aF b.fr.length cF,.slice aR b.rws.length cR⟩ ds b (XB.out.keep K1) hz;go_wp2_with (first|refine wpList_load_row rfl 36 _ rfl w.heap.size rfl 36 _ (0,0) _ hB1 Tryz.underlying36 rfl AL ?_|fail)
 refine CP.mono ?_;rintro e w2 ⟨vp,rfl,OP,k2⟩;have K2:=K1.trans k2;have s2:=k2.size;have A2:=AS.new (ds:=ds) K1 s1 hB1 hM1 k2 OP;obtain⟨ap,cp,rfl,-⟩:=id OP.rd;obtain⟨z1,hz1⟩:∃z1,z1=w1.heap.size:=⟨_,rfl⟩;rw[<-hz1] at A2;clear CP OP k2 K1 hB1 hM1 hz1 s1;go_wp2;go_loopw [3,5,6,7,12] (fun s3 _ _ _ s12 wr=>∃(i:Nat) (v3:Value),v3=s3/\i<=(C6 ds b).length/\s12 = .int .i64 i/\AS w z1 wr #[.slice aW ds.length cW,.slice aP b.AM.length cP,.slice aL b.AQ.length cL,.slice aN b.AG.length cN,.slice aX b.AK.length cX,.slice aS b.sn.length cS,.slice aF b.fr.length cF,.slice aR b.rws.length cR] (.slice ap (C6 ds b).length cp) (C6 ds b) v3 ds ((JR ds b).take i)) (fun _ _ _ _ s12 _=>(C6 ds b).length-(intOf s12).toNat)
 case atStart=>exact⟨0,_,rfl,Nat.zero_le _,rfl,A2⟩
 case round=>
  obtain⟨i,v3,rfl,hi,rfl,A⟩:=hrel;clear A2;by_cases hlt:i<(C6 ds b).length
  ·
   obtain⟨a',c',e',hpq⟩:=A.row.rd;simp only[Value.slice.injEq,true_and] at e';obtain⟨rfl,rfl⟩:=e';rcases hpq with h0|⟨bp,op,rfl,hbp,hcp⟩
   . exfalso;rw[h0] at hlt;simp at hlt
   have d1:=hcp i hlt;clear hcp;have hmem:(C6 ds b).getD i 0∈C6 ds b:=by rw[List.getD_eq_getElem?_getD,List.getElem?_eq_getElem hlt];exact List.getElem_mem hlt
   have hbr:=ze.out _ hmem;have hsn:=Wq hlt;have hll:((JR ds b).take i).length<=1000:=by rw[List.length_take];omega
   generalize (JR ds b).take i=LT at A hsn hll;have XN:=Lib.hid hsn;obtain⟨x,hx⟩:∃x,x=(C6 ds b).getD i 0:=⟨_,rfl⟩;rw[<-hx] at d1 XN;clear hsn;have j1:(0:Int)<=(i:Int):=Int.natCast_nonneg _;have j2:(i:Int)<((C6 ds b).length:Int):=by omega
   have qE:=A.box;have CS:=DS wr ⟨.slice aW ds.length cW,.slice aP b.AM.length cP,.slice aL b.AQ.length cL,.slice aN b.AG.length cN,.slice aX b.AK.length cX,.slice aS b.sn.length cS,.slice aF b.fr.length cF,.slice aR b.rws.length cR⟩ ds b x (XB.out.keep A.K) XZ.out;rw[show GM ds b=ds by unfold GM;rw[if_pos hbr]] at CS;have XA:=Lib.hid A;clear hmem hx A hbr;go_wp2_with (first|refine wpList_load_row rfl 36 _ rfl w.heap.size rfl 36 _ (0,0) _ qE Tryz.underlying36 rfl AL ?_|fail)
   refine CS.mono ?_;rintro e w8 ⟨bv8,rfl,F8,k8⟩;have pG:=Lib.hid F8.held;obtain⟨xW,xP,xL,xN,xX,xS,xF,xR,yW,yP,yL,yN,yX,yS,yF,yR,rfl⟩:=F8.rd.shapes;obtain⟨B1,hB1⟩:∃B1,B1=B6 ds b x:=⟨_,rfl⟩;have gX:=Lib.hid hB1;rw[<-hB1] at pG ⊢;clear CS F8 hB1 qE;obtain⟨w9,hw9⟩:∃W:World,W=w8.alloc (.cells #[.slice xW ds.length yW,.slice xP B1.AM.length yP,.slice xL B1.AQ.length yL,.slice xN B1.AG.length yN,.slice xX B1.AK.length yX,.slice xS B1.sn.length yS,.slice xF B1.fr.length yF,.slice xR B1.rws.length yR] 36):=⟨_,rfl⟩;have k9:AC w8 w9:=by rw[hw9];exact (AC.refl w8).alloc _
   have d9:w9.heap[w8.heap.size]? = some (.cells #[.slice xW ds.length yW,.slice xP B1.AM.length yP,.slice xL B1.AQ.length yL,.slice xN B1.AG.length yN,.slice xX B1.AK.length yX,.slice xS B1.sn.length yS,.slice xF B1.fr.length yF,.slice xR B1.rws.length yR] 36 (0,0)):=by rw[hw9];exact heap_alloc_new _ _
   obtain⟨w11,hw11⟩:∃W:World,W=w9.alloc (.cells #[.slice xW ds.length yW,.slice xP B1.AM.length yP,.slice xL B1.AQ.length yL,.slice xN B1.AG.length yN,.slice xX B1.AK.length yX,.slice xS B1.sn.length yS,.slice xF B1.fr.length yF,.slice xR B1.rws.length yR] 36):=⟨_,rfl⟩;have k11:AC w9 w11:=by rw[hw11];exact (AC.refl w9).alloc _
   have hN:=heap_alloc_new w9 (.cells #[.slice xW ds.length yW,.slice xP B1.AM.length yP,.slice xL B1.AQ.length yL,.slice xN B1.AG.length yN,.slice xX B1.AK.length yX,.slice xS B1.sn.length yS,.slice xF B1.fr.length yF,.slice xR B1.rws.length yR] 36);rw[<-hw11] at hN;obtain⟨vs,hrow,hpush⟩:=XA.out.own;have hrow11:=hrow.kept ((k8.trans (k9.trans k11)).grownBy) (by cases v3.ownBlock<;>simp);have hbs:w.heap.size<=w11.heap.size:=Nat.le_trans XA.out.K.size (k8.trans (k9.trans k11)).size;have hlen:(LT).length<=1000:=hll;have XP:=Lib.hid hpush;clear hpush hrow;go_upto_region 6 with fail
   rw[<-hw9];clear hw9;go_wp2_with (first|refine wpList_load_row rfl 36 _ rfl (w8.heap.size) rfl 36 _ (0,0) _ d9 Tryz.underlying36 rfl AL ?_|(at_builtin;rw[<-hw11];refine wpList_append_own_at _ rfl _ _ 87 rfl w.heap.size 36 j0 (.agg #[AE,AE,AE,AE,AE,AE,AE,AE]) 8 192 Tryz.underlying87 hj hy0 hy1 hy2 rfl (by decide) _ _ _ rfl hrow11 ⟨w9.heap.size,0,none⟩ 1 1 [.slice xW ds.length yW,.slice xP B1.AM.length yP,.slice xL B1.AQ.length yL,.slice xN B1.AG.length yN,.slice xX B1.AK.length yX,.slice xS B1.sn.length yS,.slice xF B1.fr.length yF,.slice xR B1.rws.length yR] rfl rfl (World.news_of_block (cs:=#[.slice xW ds.length yW,.slice xP B1.AM.length yP,.slice xL B1.AQ.length yL,.slice xN B1.AG.length yN,.slice xX B1.AK.length yX,.slice xS B1.sn.length yS,.slice xF B1.fr.length yF,.slice xR B1.rws.length yR]) (t:=36) (fr:=(0,0)) hN) (by simp[Value.oneCell']) ?e3 ?e4 ?e5 ?_)|fail)
   case e3=>unfold maxLen;omega
   case e4=>omega
   case e5=>exact hbs
   intro v12 w12 hown12 hgrow12 _ hblk12;rw[<-hw11] at hgrow12;have hs11:w11.heap.size=w9.heap.size+1:=by rw[hw11,AD]
   have Rq:=Lib.hid (XP.out w8 w11 w12 v12 B1 ⟨.slice xW ds.length yW,.slice xP B1.AM.length yP,.slice xL B1.AQ.length yL,.slice xN B1.AG.length yN,.slice xX B1.AK.length yX,.slice xS B1.sn.length yS,.slice xF B1.fr.length yF,.slice xR B1.rws.length yR⟩ k8 (k9.trans k11) pG.out hown12 hgrow12 (by rw[hs11];exact hblk12));rw[gX.out] at Rq;clear gX XP pG hown12 hgrow12 hblk12 hrow11 hN d9 k9 k11 hw11 XA k8;go_wp2;go_roundw;case rel=>exact⟨i+1,_,rfl,by omega,by go_num,by rw[XN.out];exact Rq.out⟩
   case measure=>simp[intOf];omega
  ·
   obtain rfl:i=(C6 ds b).length:=by omega
   rw[List.take_of_length_le (by unfold JR;rw[List.length_map];exact Nat.le_refl _)] at A;have XA:=Lib.hid A;clear A;go_wp2;go_ret;exact⟨_,rfl,XA.out.aft,XA.out.K⟩
theorem Hi (w:World)(v:BV)(ds:List (List Dd))(b:Bd)(h:Cf w v ds b)(hz:JQ ds b)(hp:ds.length<=1000)(hb:0<ds.length->Ac ds b=true)(hlo:(∀c,(b.AG.getD c []).length<=7)/\∀p,(b.rws.getD p []).length<=15):
  Calls Tryz.prog 32 #[v.agg] w fun e w'=>∃v',e = .returned v'/\iH w w' v' ds (Jz ds b ds.length)/\AC w w':=by
 obtain⟨j0,hj,hy0,hy1,hy2⟩:=info_parts Tryz.Vt;obtain⟨aW,aP,aL,aN,aX,aS,aF,aR,cW,cP,cL,cN,cX,cS,cF,cR,rfl⟩:=h.shapes;obtain⟨w1,hw1⟩:∃W:World,W=(w.alloc (.cells #[.slice aW ds.length cW,.slice aP b.AM.length cP,.slice aL b.AQ.length cL,.slice aN b.AG.length cN,.slice aX b.AK.length cX,.slice aS b.sn.length cS,.slice aF b.fr.length cF,.slice aR b.rws.length cR] 36)).alloc (.cells #[] 36):=⟨_,rfl⟩;have K1:AC w w1:=by rw[hw1];exact ((AC.refl w).alloc _).alloc _
 have s1:w1.heap.size=w.heap.size+2:=by rw[hw1,AD,AD]
 have hB1:w1.heap[w.heap.size]? = some (.cells #[.slice aW ds.length cW,.slice aP b.AM.length cP,.slice aL b.AQ.length cL,.slice aN b.AG.length cN,.slice aX b.AK.length cX,.slice aS b.sn.length cS,.slice aF b.fr.length cF,.slice aR b.rws.length cR] 36 (0,0)):=by rw[hw1];exact Ci ((AC.refl _).alloc _)
 have hM1:w1.heap[w.heap.size+1]? = some (.cells #[] 36 (0,0)):=by
  have q:=heap_alloc_new (w.alloc (.cells #[.slice aW ds.length cW,.slice aP b.AM.length cP,.slice aL b.AQ.length cL,.slice aN b.AG.length cN,.slice aX b.AK.length cX,.slice aS b.sn.length cS,.slice aF b.fr.length cF,.slice aR b.rws.length cR] 36)) (.cells #[] 36);rw[AD] at q;rw[hw1];exact q
 have XB:=Lib.hid h;have XZ:=Lib.hid hz;have ze:=Lib.hid hb;clear h hb;go_enter Tryz.func32,Tryz.ntmps32
 go_upto_region 2 with fail
 rw[<-hw1];clear hw1;have A2:=AS.new (ds:=ds) (vp:=AE) (ps:=[]) K1 s1 hB1 hM1 (AC.refl _) (.inl ⟨rfl,rfl⟩);have c0:w1.cell? ⟨w.heap.size,0,none⟩=some (.slice aW ds.length cW):=by rw[cell_of_row _ _ 0 _ _ _ hB1];rfl
 obtain⟨z1,hz1⟩:∃z1,z1=w1.heap.size:=⟨_,rfl⟩;rw[<-hz1] at A2;have yT:=Lib.hid hlo;clear K1 hB1 hM1 hz1 s1 hlo;go_wp2;clear c0;go_loopw [3,4,5,6,11] (fun s3 _ _ _ s11 wr=>∃(i:Nat) (v3:Value),v3=s3/\i<=ds.length/\s11 = .int .i64 i/\AS w z1 wr #[.slice aW ds.length cW,.slice aP b.AM.length cP,.slice aL b.AQ.length cL,.slice aN b.AG.length cN,.slice aX b.AK.length cX,.slice aS b.sn.length cS,.slice aF b.fr.length cF,.slice aR b.rws.length cR] AE [] v3 ds (Jz ds b i)) (fun _ _ _ _ s11 _=>ds.length-(intOf s11).toNat)
 case atStart=>exact⟨0,_,rfl,Nat.zero_le _,rfl,A2⟩
 case round=>
  obtain⟨i,v3,rfl,hi,rfl,A⟩:=hrel;clear A2;by_cases hlt:i<ds.length
  ·
   have hbr:=ze.out (by omega);have j1:(0:Int)<=(i:Int):=Int.natCast_nonneg _;have j2:(i:Int)<(ds.length:Int):=by omega
   have qE:=A.box;have CS:=Oz wr ⟨.slice aW ds.length cW,.slice aP b.AM.length cP,.slice aL b.AQ.length cL,.slice aN b.AG.length cN,.slice aX b.AK.length cX,.slice aS b.sn.length cS,.slice aF b.fr.length cF,.slice aR b.rws.length cR⟩ ds b (i:Int) (XB.out.keep A.K) XZ.out yT.out;have jk:WM ds b (i:Int)=BU ds b i:=by unfold WM;rw[decide_eq_true j1,decide_eq_true j2,Int.toNat_natCast];rfl
   rw[jk,hbr,Bool.true_and,show nU ds b=ds by unfold nU;rw[if_pos hbr]] at CS;have XA:=Lib.hid A;have hll:(Jz ds b i).length<=1000:=by have:=ZE ds b i;omega
   cases hcan:BU ds b i with
   |true=>
    rw[show RA ds b (i:Int)=BE ds (AB ds) b i by unfold RA wm;rw[if_pos hbr,jk,hcan,if_pos rfl,Int.toNat_natCast],hcan] at CS;have hsn:=ZD hcan;generalize Jz ds b i=LT at XA A hsn hll;have XN:=Lib.hid hsn;clear hsn A jk hbr hcan;go_wp2_with (first|refine wpList_load_row rfl 36 _ rfl w.heap.size rfl 36 _ (0,0) _ qE Tryz.underlying36 rfl AL ?_|fail)
    refine CS.mono ?_;rintro e w8 ⟨bv8,rfl,F8,k8⟩;have pG:=Lib.hid F8.held;obtain⟨xW,xP,xL,xN,xX,xS,xF,xR,yW,yP,yL,yN,yX,yS,yF,yR,rfl⟩:=F8.rd.shapes;obtain⟨B1,hB1⟩:∃B1,B1=BE ds (AB ds) b i:=⟨_,rfl⟩;have gX:=Lib.hid hB1;rw[<-hB1] at pG ⊢;clear CS F8 hB1 qE;obtain⟨w9,hw9⟩:∃W:World,W=w8.alloc (.cells #[.slice xW ds.length yW,.slice xP B1.AM.length yP,.slice xL B1.AQ.length yL,.slice xN B1.AG.length yN,.slice xX B1.AK.length yX,.slice xS B1.sn.length yS,.slice xF B1.fr.length yF,.slice xR B1.rws.length yR] 36):=⟨_,rfl⟩;have k9:AC w8 w9:=by rw[hw9];exact (AC.refl w8).alloc _
    have d9:w9.heap[w8.heap.size]? = some (.cells #[.slice xW ds.length yW,.slice xP B1.AM.length yP,.slice xL B1.AQ.length yL,.slice xN B1.AG.length yN,.slice xX B1.AK.length yX,.slice xS B1.sn.length yS,.slice xF B1.fr.length yF,.slice xR B1.rws.length yR] 36 (0,0)):=by rw[hw9];exact heap_alloc_new _ _
    obtain⟨w11,hw11⟩:∃W:World,W=w9.alloc (.cells #[.slice xW ds.length yW,.slice xP B1.AM.length yP,.slice xL B1.AQ.length yL,.slice xN B1.AG.length yN,.slice xX B1.AK.length yX,.slice xS B1.sn.length yS,.slice xF B1.fr.length yF,.slice xR B1.rws.length yR] 36):=⟨_,rfl⟩;have k11:AC w9 w11:=by rw[hw11];exact (AC.refl w9).alloc _
    have hN:=heap_alloc_new w9 (.cells #[.slice xW ds.length yW,.slice xP B1.AM.length yP,.slice xL B1.AQ.length yL,.slice xN B1.AG.length yN,.slice xX B1.AK.length yX,.slice xS B1.sn.length yS,.slice xF B1.fr.length yF,.slice xR B1.rws.length yR] 36);rw[<-hw11] at hN;obtain⟨vs,hrow,hpush⟩:=XA.out.own;have hrow11:=hrow.kept ((k8.trans (k9.trans k11)).grownBy) (by cases v3.ownBlock<;>simp);have hbs:w.heap.size<=w11.heap.size:=Nat.le_trans XA.out.K.size (k8.trans (k9.trans k11)).size;have hlen:(LT).length<=1000:=hll;have XP:=Lib.hid hpush;clear hpush hrow;go_upto_region 7 with fail
    rw[<-hw9];clear hw9;go_wp2_with (first|refine wpList_load_row rfl 36 _ rfl (w8.heap.size) rfl 36 _ (0,0) _ d9 Tryz.underlying36 rfl AL ?_|(at_builtin;rw[<-hw11];refine wpList_append_own_at _ rfl _ _ 87 rfl w.heap.size 36 j0 (.agg #[AE,AE,AE,AE,AE,AE,AE,AE]) 8 192 Tryz.underlying87 hj hy0 hy1 hy2 rfl (by decide) _ _ _ rfl hrow11 ⟨w9.heap.size,0,none⟩ 1 1 [.slice xW ds.length yW,.slice xP B1.AM.length yP,.slice xL B1.AQ.length yL,.slice xN B1.AG.length yN,.slice xX B1.AK.length yX,.slice xS B1.sn.length yS,.slice xF B1.fr.length yF,.slice xR B1.rws.length yR] rfl rfl (World.news_of_block (cs:=#[.slice xW ds.length yW,.slice xP B1.AM.length yP,.slice xL B1.AQ.length yL,.slice xN B1.AG.length yN,.slice xX B1.AK.length yX,.slice xS B1.sn.length yS,.slice xF B1.fr.length yF,.slice xR B1.rws.length yR]) (t:=36) (fr:=(0,0)) hN) (by simp[Value.oneCell']) ?e3 ?e4 ?e5 ?_)|fail)
    case e3=>unfold maxLen;omega
    case e4=>omega
    case e5=>exact hbs
    intro v12 w12 hown12 hgrow12 _ hblk12;rw[<-hw11] at hgrow12;have hs11:w11.heap.size=w9.heap.size+1:=by rw[hw11,AD]
    have Rq:=Lib.hid (XP.out w8 w11 w12 v12 B1 ⟨.slice xW ds.length yW,.slice xP B1.AM.length yP,.slice xL B1.AQ.length yL,.slice xN B1.AG.length yN,.slice xX B1.AK.length yX,.slice xS B1.sn.length yS,.slice xF B1.fr.length yF,.slice xR B1.rws.length yR⟩ k8 (k9.trans k11) pG.out hown12 hgrow12 (by rw[hs11];exact hblk12));rw[gX.out] at Rq;clear gX XP pG hown12 hgrow12 hblk12 hrow11 hN d9 k9 k11 hw11 XA k8;go_wp2;go_roundw;case rel=>exact⟨i+1,_,rfl,by omega,by go_num,by rw[XN.out];exact Rq.out⟩
    case measure=>simp[intOf];omega
   |false=>
    rw[hcan] at CS;have XN:=Lib.hid (Wo hcan);clear A jk hbr hcan;go_wp2_with (first|refine wpList_load_row rfl 36 _ rfl w.heap.size rfl 36 _ (0,0) _ qE Tryz.underlying36 rfl AL ?_|fail)
    refine CS.mono ?_;rintro e w8 ⟨bv8,rfl,F8,k8⟩;obtain⟨xW,xP,xL,xN,xX,xS,xF,xR,yW,yP,yL,yN,yX,yS,yF,yR,rfl⟩:=F8.rd.shapes;have Rq:=Lib.hid (XA.out.keep k8);clear F8 CS qE k8;go_upto_region 6 with fail
    obtain⟨w9,hw9⟩:∃W:World,W=w8.alloc (.cells #[.slice xW ds.length yW,.slice xP (RA ds b (i:Int)).AM.length yP,.slice xL (RA ds b (i:Int)).AQ.length yL,.slice xN (RA ds b (i:Int)).AG.length yN,.slice xX (RA ds b (i:Int)).AK.length yX,.slice xS (RA ds b (i:Int)).sn.length yS,.slice xF (RA ds b (i:Int)).fr.length yF,.slice xR (RA ds b (i:Int)).rws.length yR] 36):=⟨_,rfl⟩;have zY:=Lib.hid (show AS w z1 w9 _ _ _ _ _ _ from Rq.out.keep (by rw[hw9];exact (AC.refl w8).alloc _));rw[<-hw9];clear hw9 Rq;go_wp2;go_roundw;case rel=>exact⟨i+1,_,rfl,by omega,by go_num,by rw[XN.out];exact zY.out⟩
    case measure=>simp[intOf];omega
  ·
   obtain rfl:i=ds.length:=by omega
   have XA:=Lib.hid A;clear A;go_wp2;go_ret;exact⟨_,rfl,XA.out.aft,XA.out.K⟩
end Go.Proofs.YtnmelakgmgenjaaGreat
