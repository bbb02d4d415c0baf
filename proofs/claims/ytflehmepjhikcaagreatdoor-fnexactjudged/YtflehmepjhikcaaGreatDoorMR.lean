/- Gathered texts. -/
import Derived.Test.YtflehmepjhikcaaGreatDoorMQ
import Derived.Deep.Cut
import Derived.Test.YtflehmepjhikcaaGreatDoorMJ
set_option maxRecDepth 100000
set_option maxHeartbeats 8000000
namespace Go.Proofs.YtflehmepjhikcaaGreatDoor
open Go.ChangeShapes Go.WideShapes Go.ChangeAt Go.RowKit
abbrev Pd:=@List.getElem_cons_zero
abbrev KAE:=@List.getElem_toArray
theorem WE {AA:List (List Dd)}{b:Bd}{k j:Nat}(h:Yh AA b k j=true):J4 AA b k (j+1)=J4 AA b k j++[stF k+(j:Int)]:=by
 unfold J4;rw[KBx,List.filter_append,KBB];simp[h]
theorem TS {AA:List (List Dd)}{b:Bd}{k j:Nat}(h:Yh AA b k j=false):J4 AA b k (j+1)=J4 AA b k j:=by
 unfold J4;rw[KBx,List.filter_append,KBB];simp[h]
theorem RV (AA:List (List Dd))(b:Bd)(k j:Nat):(J4 AA b k j).length<=j:=by
 unfold J4;rw[KAj];exact KAU (KBj _ _) (by simp)
theorem RU (AA:List (List Dd))(b:Bd)(n:Nat):∀k:Nat,(J3 AA b n k).length<=k*n
 | 0=>by simp[J3]
 |k+1=>by
  show (J3 AA b n k++J4 AA b k n).length<=_;rw[KAJ];have:=RU AA b n k;have:=RV AA b k n;rw[Nat.succ_mul];omega
theorem jo (AA:List (List Dd))(b:Bd):J3 AA b AA.length 2=Aq AA b:=by
 show ([]++J4 AA b 0 AA.length)++J4 AA b 1 AA.length=Aq AA b;rw[KBz];unfold Aq J4
 congr 1
 ·
  have e:∀c:Nat,stF 0+(c:Int)=(c:Int):=fun c=>by show (0:Int)+_=_;omega
  simp only[e];rfl
 ·
  have e:(fun c=>!(b.AJ.getD c []).isEmpty)=Yh AA b 1:=by
   funext c;show _=decide (0<(b.AJ.getD c []).length);cases b.AJ.getD c []<;>rfl
  rw[e];rfl
theorem Lh (w:World)(v:BV)(AA:List (List Dd))(b:Bd)(h:Cw w v AA b)(hz:MS AA b):
  Calls Tryz.prog 83 #[v.agg] w fun e w'=>∃v',e = .returned v'/\U7 w' w.heap.size v' (DH AA b)/\AC w w':=by
 have CB:=fun (W:World) (kW:AC w W)=>Hj W v AA b (h.keep kW) hz
 have CC:=fun (k:Nat) (W:World) (kW:AC w W) (hb:Ap AA b=true) (c:Nat) (hc:c<AA.length)=>TV k W v AA b c (h.keep kW) hb hc
 have HP:Hid (DH AA b=if Ap AA b=true then Aq AA b else []):=AI rfl;obtain⟨i0,hi,hz0,hz1,hz2⟩:=KA3 Tryz.FM;obtain⟨aW,aP,aL,aN,aX,aS,aF,aR,cW,cP,cL,cN,cX,cS,cF,cR,rfl⟩:=h.shapes;clear h hz;obtain⟨w0,hw0⟩:∃W:World,W=w.alloc (.cells #[.slice aW AA.length cW,.slice aP b.AM.length cP,.slice aL b.AQ.length cL,.slice aN b.AJ.length cN,.slice aX b.AK.length cX,.slice aS b.sn.length cS,.slice aF b.fr.length cF,.slice aR b.rws.length cR] 103):=⟨_,rfl⟩;have K0:AC w w0:=by rw[hw0];exact (AC.refl w).alloc _
 have hB0:w0.heap[w.heap.size]? = some (.cells #[.slice aW AA.length cW,.slice aP b.AM.length cP,.slice aL b.AQ.length cL,.slice aN b.AJ.length cN,.slice aX b.AK.length cX,.slice aS b.sn.length cS,.slice aF b.fr.length cF,.slice aR b.rws.length cR] 103 (0,0)):=by rw[hw0];exact KAX _ _
 have y0:w.heap.size<w0.heap.size:=by rw[hw0,AD];omega
 have O1:A8 (w0.alloc (.cells #[] 2)) w0.heap.size (.slice (some ⟨w0.heap.size,0,none⟩) 0 0) []:=KAo w0 #[] 0 (KAM _) (by decide) rfl;go_enter Tryz.func83,Tryz.ntmps83
 go_upto_region 1 with fail
 rw[<-hw0];clear hw0;go_upto_region 2 with fail
 obtain⟨w1,hw1⟩:∃W:World,W=w0.alloc (.cells #[] 2):=⟨_,rfl⟩;have k1:AC w0 w1:=by rw[hw1];exact (AC.refl w0).alloc _
 have y1:w0.heap.size<w1.heap.size:=by rw[hw1,AD];omega
 rw[<-hw1] at O1 ⊢;clear hw1;have hB1:=(KAW k1 w.heap.size y0).trans hB0;go_wp2_with (first|refine KAq rfl 103 _ rfl w.heap.size rfl 103 _ (0,0) _ hB1 Tryz.underlying103 rfl AR ?_|fail)
 refine (CB _ (K0.trans k1)).mono ?_;rintro e w2 ⟨rfl,k2⟩;have O2:=O1.keep k2;have K2:=(K0.trans k1).trans k2;have s1:w0.heap.size<w1.heap.size:=y1;have s2:=k2.size;cases hb:Ap AA b
 ·
  have HE:Hid (DH AA b=[]):=AI (by rw[HP.out,hb];rfl);go_wp2;go_ret;exact⟨_,rfl,by rw[HE.out];exact (O2.BK (by omega)).row,K2⟩
 have HE:Hid (DH AA b=J3 AA b AA.length 2):=AI (by rw[HP.out,hb,jo];rfl);have hd3:AA.length<=3:=(BM (Ee.of hb).work).1;have hB2:=(KAW k2 w.heap.size (by omega)).trans hB1;clear CB HP hB0 hB1 k1 k2 O1 K0;go_wp2_with fail
 refine (KM w2).mono ?_;rintro e w3 ⟨rfl,hw3⟩;have k3:AC w2 w3:=by rw[hw3];exact (AC.refl w2).alloc _
 have hT3:w3.heap[w2.heap.size]? = some (.cells OG 178 (0,0)):=by rw[hw3];exact KAX _ _
 have y3:w2.heap.size<w3.heap.size:=by rw[hw3,AD];omega
 have O3:=O2.keep k3;have K3:=K2.trans k3;have hB3:=(KAW k3 w.heap.size (by omega)).trans hB2;clear hw3 O2 K2 hB2 k3;go_wp2;go_loopw [3,5,6,14] (fun v0 _ _ i wr=>∃(k:Nat) (v:Value),v=v0/\k<=2/\i = .int .i64 k/\A8 wr w0.heap.size v (J3 AA b AA.length k)/\AC w wr/\wr.heap[w.heap.size]? = some (.cells #[.slice aW AA.length cW,.slice aP b.AM.length cP,.slice aL b.AQ.length cL,.slice aN b.AJ.length cN,.slice aX b.AK.length cX,.slice aS b.sn.length cS,.slice aF b.fr.length cF,.slice aR b.rws.length cR] 103 (0,0))/\wr.heap[w2.heap.size]? = some (.cells OG 178 (0,0))/\w3.heap.size<=wr.heap.size/\Hid (∀q,v.ownBlock=some q->q≠w2.heap.size)) (fun _ _ _ i _=>2-(intOf i).toNat)
 case atStart=>exact⟨0,_,rfl,KAb _,rfl,O3,K3,hB3,hT3,KAM _,AI (fun q hq=>by have e:w0.heap.size=q:=KAI hq;omega)⟩
 case round=>
  obtain⟨k,v,rfl,hk,rfl,ho,hK,hB,hT,hS,hO⟩:=hrel;clear O3 K3 hB3 hT3;by_cases hlt:k<2
  ·
   have k01:k=0\/k=1:=by omega
   rcases k01 with rfl|rfl
   ·
    obtain⟨q0,q1,q2⟩:=(JQ hT).1;obtain⟨w4,hw4⟩:∃W:World,W=(wr.alloc (.cells #[.int .i64 0,.nilFunc,.nilFunc] 178)).setRow wr.heap.size #[.int .i64 ((0:Int)),.func (.func (149)) #[] #[],.func (.func (150)) #[] #[]]:=⟨_,rfl⟩;have hA:(wr.alloc (.cells #[.int .i64 0,.nilFunc,.nilFunc] 178)).heap[wr.heap.size]? = some (.cells #[.int .i64 0,.nilFunc,.nilFunc] 178 (0,0)):=KAX _ _;have g4:(wr.alloc (.cells #[.int .i64 0,.nilFunc,.nilFunc] 178)).grownBy w4 (some wr.heap.size):=by rw[hw4];exact As _ _ _
    have k4:AC wr w4:=((AC.refl wr).alloc _).grown g4 (fun q hq=>KBP (KAI hq));have hQ4:w4.heap[wr.heap.size]? = some (.cells #[.int .i64 ((0:Int)),.func (.func (149)) #[] #[],.func (.func (150)) #[] #[]] 178 (0,0)):=by rw[hw4];exact KBs _ _ _ _ _ _ hA
    have y4:wr.heap.size<w4.heap.size:=by have:=g4.size;rw[AD] at this;omega
    go_upto_region 7 with (first|refine KBY rfl 178 _ _ rfl wr.heap.size _ rfl rfl 178 _ hA JO rfl (by simp[Value.oneCell']) ?_|fail)
    rw[<-hw4];clear hw4 hA q0 q1 q2 g4;have hB4:=(KAW k4 w.heap.size (by omega)).trans hB;have hT4:=(KAW k4 w2.heap.size (by omega)).trans hT;have o4:=ho.keep k4;have hO4:Hid (∀q,v.ownBlock=some q->q≠wr.heap.size/\q≠w2.heap.size):=AI (fun q hq=>⟨by have:=(KAY ho q hq).2;omega,hO.out q hq⟩);have K4:=hK.trans k4;have CK:=fun (W:World) (kW:AC w W) (c:Nat) (hc:c<AA.length)=>CC 0 W kW hb c hc
    have f0:w4.cell? ⟨w.heap.size,0,none⟩=some (.slice aW AA.length cW):=by rw[KAL w4 _ 0 _ _ _ hB4];rfl
    have s4:=k4.size;have hla:=RU AA b AA.length 0;have HS:Hid (J3 AA b AA.length (1)=J3 AA b AA.length 0++J4 AA b 0 AA.length):=AI rfl;have HX:Hid (∀j,Yh AA b 0 j=true->J4 AA b 0 (j+1)=J4 AA b 0 j++[(0:Int)+(j:Int)]):=AI (fun j h=>WE h);have HY:Hid (∀j,Yh AA b 0 j=false->J4 AA b 0 (j+1)=J4 AA b 0 j):=AI (fun j h=>TS h);have HL:Hid (∀j,(J4 AA b 0 j).length<=j):=AI (fun j=>RV AA b 0 j);have OL:A8 w4 w0.heap.size v (J3 AA b AA.length 0++J4 AA b 0 0):=by rw[show J4 AA b 0 0=[] from rfl,KBn];exact o4
    generalize J3 AA b AA.length 0=LA at *;generalize hst:J4 AA b 0=LK at *;generalize Yh AA b 0=TK at *;clear hst o4 ho hK hB hT k4 hO;generalize wr.heap.size=Q at *;go_wp2;clear f0;go_loopw [3,6,21] (fun v0 _ i wr'=>∃(j:Nat) (v:Value),v=v0/\j<=AA.length/\i = .int .i64 j/\A8 wr' w0.heap.size v (LA++LK j)/\AC w wr'/\wr'.heap[w.heap.size]? = some (.cells #[.slice aW AA.length cW,.slice aP b.AM.length cP,.slice aL b.AQ.length cL,.slice aN b.AJ.length cN,.slice aX b.AK.length cX,.slice aS b.sn.length cS,.slice aF b.fr.length cF,.slice aR b.rws.length cR] 103 (0,0))/\wr'.heap[Q]? = some (.cells #[.int .i64 ((0:Int)),.func (.func (149)) #[] #[],.func (.func (150)) #[] #[]] 178 (0,0))/\wr'.heap[w2.heap.size]? = some (.cells OG 178 (0,0))/\w4.heap.size<=wr'.heap.size/\Hid (∀q,v.ownBlock=some q->q≠Q/\q≠w2.heap.size)) (fun _ _ i _=>AA.length-(intOf i).toNat)
    case atStart=>exact⟨0,_,rfl,KAb _,rfl,OL,K4,hB4,hQ4,hT4,KAM _,hO4⟩
    case round=>
     clear OL;obtain⟨j,v',rfl,hj,rfl,oj,Kj,pI,ul,hTj,sj,Zv⟩:=hrel;by_cases hjl:j<AA.length
     ·
      have j1:(0:Int)<=(j:Int):=KAK _;have j2:(j:Int)<(AA.length:Int):=by omega
      have t1:wr.cell? ⟨Q,1,none⟩=some (.func (.func 149) #[] #[]):=by rw[KAL _ _ 1 _ _ _ ul];rfl
      go_wp2_with (first|refine KAq rfl 103 _ rfl w.heap.size rfl 103 _ (0,0) _ pI Tryz.underlying103 rfl AR ?_|fail)
      refine (CK _ Kj j hjl).mono ?_;rintro e w5 ⟨rfl,k5⟩;have o5:=oj.keep k5;have K5:=Kj.trans k5;have s5:=k5.size;have hB5:=(KAW k5 w.heap.size (by omega)).trans pI;have hQ5:=(KAW k5 Q (by omega)).trans ul;have hT5:=(KAW k5 w2.heap.size (by omega)).trans hTj;have t0:w5.cell? ⟨Q,0,none⟩=some (.int .i64 0):=by rw[KAL _ _ 0 _ _ _ hQ5];rfl
      have hll:=HL.out j;cases hc:TK j
      ·
       have HM:Hid (LK (j+1)=LK j):=AI (HY.out j hc);go_wp2;go_roundw;case rel=>exact⟨j+1,_,rfl,by omega,by go_num,by rw[HM.out];exact o5,K5,hB5,hQ5,hT5,by omega,Zv⟩
       case measure=>simp[intOf];omega
      ·
       have HM:Hid (LA++LK (j+1)=(LA++LK j)++[(j:Int)]):=AI (by rw[HX.out j hc,KA2];simp);have hll2:(LA++LK j).length<=20:=by rw[KAJ];omega
       have jw:IntKind.i64.wrap ((0:Int)+(j:Int))=(0:Int)+(j:Int):=by rw[KAk];omega
       generalize LA++LK j=LL at *;go_wp2_with (at_builtin;refine KAe _ rfl _ _ 25 rfl w0.heap.size 2 i0 (.int .i64 0) 1 8 Tryz.underlying25 hi hz0 hz1 hz2 rfl (by decide) _ _ _ rfl (KCH o5 _) ⟨_,0,none⟩ 1 1 [.int .i64 ((j:Int))] rfl rfl ?c1 ?c2 ?c3 ?c4 ?c5 ?_)
       case c1=>
        intro j u hj
        match j,hj with
        | 0,hj=>simp at hj;subst hj;simp[Addr.add]
       case c2=>intro u hu;simp at hu;subst hu;rfl
       case c3=>unfold maxLen;omega
       case c4=>omega
       case c5=>simp;omega
       intro v7 w6 hown' hgrow _ hblk;have hK6:AC w w6:=(K5.alloc _).grown hgrow (fun q hq=>by have:=o5.ge q hq;omega);have st:=fun q (hq:q<w5.heap.size) (hne:∀z,v'.ownBlock=some z->z≠q)=>(hgrow.block q (by rw[AD];omega) (fun e=>hne q e.symm rfl)).trans (KAW ((AC.refl w5).alloc _) q hq)
       have hB6:=(st w.heap.size (by omega) (fun z hz=>by have:=o5.ge z hz;omega)).trans hB5;have hQ6:=(st Q (by omega) (fun z hz=>(Zv.out z hz).1)).trans hQ5;have hT6:=(st w2.heap.size (by omega) (fun z hz=>(Zv.out z hz).2)).trans hT5;have s6:=hgrow.size;rw[AD] at s6
       have hO6:Hid (∀q,v7.ownBlock=some q->q≠Q/\q≠w2.heap.size):=AI (fun q hq=>by
        rcases hblk with e|e
        . exact Zv.out q (by rw[<-e];exact hq)
        . rw[e] at hq;have:=KAI hq;omega)
       clear hgrow hblk st;go_wp2;go_roundw;case rel=>exact⟨j+1,_,rfl,by omega,by go_num,by rw[HM.out];exact B8 hown',hK6,hB6,hQ6,hT6,by omega,hO6⟩
       case measure=>simp[intOf];omega
     ·
      obtain rfl:j=AA.length:=by omega
      go_wp2;go_roundw;case rel=>exact⟨1,_,rfl,by omega,by go_num,by rw[HS.out];exact oj,Kj,pI,hTj,by omega,AI (fun q hq=>(Zv.out q hq).2)⟩
      case measure=>simp[intOf]
   ·
    obtain⟨q0,q1,q2⟩:=(JQ hT).2;obtain⟨w4,hw4⟩:∃W:World,W=(wr.alloc (.cells #[.int .i64 0,.nilFunc,.nilFunc] 178)).setRow wr.heap.size #[.int .i64 ((10:Int)),.func (.func (151)) #[] #[],.func (.func (152)) #[] #[]]:=⟨_,rfl⟩;have hA:(wr.alloc (.cells #[.int .i64 0,.nilFunc,.nilFunc] 178)).heap[wr.heap.size]? = some (.cells #[.int .i64 0,.nilFunc,.nilFunc] 178 (0,0)):=KAX _ _;have g4:(wr.alloc (.cells #[.int .i64 0,.nilFunc,.nilFunc] 178)).grownBy w4 (some wr.heap.size):=by rw[hw4];exact As _ _ _
    have k4:AC wr w4:=((AC.refl wr).alloc _).grown g4 (fun q hq=>KBP (KAI hq));have hQ4:w4.heap[wr.heap.size]? = some (.cells #[.int .i64 ((10:Int)),.func (.func (151)) #[] #[],.func (.func (152)) #[] #[]] 178 (0,0)):=by rw[hw4];exact KBs _ _ _ _ _ _ hA
    have y4:wr.heap.size<w4.heap.size:=by have:=g4.size;rw[AD] at this;omega
    go_upto_region 7 with (first|refine KBY rfl 178 _ _ rfl wr.heap.size _ rfl rfl 178 _ hA JO rfl (by simp[Value.oneCell']) ?_|fail)
    rw[<-hw4];clear hw4 hA q0 q1 q2 g4;have hB4:=(KAW k4 w.heap.size (by omega)).trans hB;have hT4:=(KAW k4 w2.heap.size (by omega)).trans hT;have o4:=ho.keep k4;have hO4:Hid (∀q,v.ownBlock=some q->q≠wr.heap.size/\q≠w2.heap.size):=AI (fun q hq=>⟨by have:=(KAY ho q hq).2;omega,hO.out q hq⟩);have K4:=hK.trans k4;have CK:=fun (W:World) (kW:AC w W) (c:Nat) (hc:c<AA.length)=>CC 1 W kW hb c hc
    have f0:w4.cell? ⟨w.heap.size,0,none⟩=some (.slice aW AA.length cW):=by rw[KAL w4 _ 0 _ _ _ hB4];rfl
    have s4:=k4.size;have hla:=RU AA b AA.length 1;have HS:Hid (J3 AA b AA.length (2)=J3 AA b AA.length 1++J4 AA b 1 AA.length):=AI rfl;have HX:Hid (∀j,Yh AA b 1 j=true->J4 AA b 1 (j+1)=J4 AA b 1 j++[(10:Int)+(j:Int)]):=AI (fun j h=>WE h);have HY:Hid (∀j,Yh AA b 1 j=false->J4 AA b 1 (j+1)=J4 AA b 1 j):=AI (fun j h=>TS h);have HL:Hid (∀j,(J4 AA b 1 j).length<=j):=AI (fun j=>RV AA b 1 j);have OL:A8 w4 w0.heap.size v (J3 AA b AA.length 1++J4 AA b 1 0):=by rw[show J4 AA b 1 0=[] from rfl,KBn];exact o4
    generalize J3 AA b AA.length 1=LA at *;generalize hst:J4 AA b 1=LK at *;generalize Yh AA b 1=TK at *;clear hst o4 ho hK hB hT k4 hO;generalize wr.heap.size=Q at *;go_wp2;clear f0;go_loopw [3,6,21] (fun v0 _ i wr'=>∃(j:Nat) (v:Value),v=v0/\j<=AA.length/\i = .int .i64 j/\A8 wr' w0.heap.size v (LA++LK j)/\AC w wr'/\wr'.heap[w.heap.size]? = some (.cells #[.slice aW AA.length cW,.slice aP b.AM.length cP,.slice aL b.AQ.length cL,.slice aN b.AJ.length cN,.slice aX b.AK.length cX,.slice aS b.sn.length cS,.slice aF b.fr.length cF,.slice aR b.rws.length cR] 103 (0,0))/\wr'.heap[Q]? = some (.cells #[.int .i64 ((10:Int)),.func (.func (151)) #[] #[],.func (.func (152)) #[] #[]] 178 (0,0))/\wr'.heap[w2.heap.size]? = some (.cells OG 178 (0,0))/\w4.heap.size<=wr'.heap.size/\Hid (∀q,v.ownBlock=some q->q≠Q/\q≠w2.heap.size)) (fun _ _ i _=>AA.length-(intOf i).toNat)
    case atStart=>exact⟨0,_,rfl,KAb _,rfl,OL,K4,hB4,hQ4,hT4,KAM _,hO4⟩
    case round=>
     clear OL;obtain⟨j,v',rfl,hj,rfl,oj,Kj,pI,ul,hTj,sj,Zv⟩:=hrel;by_cases hjl:j<AA.length
     ·
      have j1:(0:Int)<=(j:Int):=KAK _;have j2:(j:Int)<(AA.length:Int):=by omega
      have t1:wr.cell? ⟨Q,1,none⟩=some (.func (.func 151) #[] #[]):=by rw[KAL _ _ 1 _ _ _ ul];rfl
      go_wp2_with (first|refine KAq rfl 103 _ rfl w.heap.size rfl 103 _ (0,0) _ pI Tryz.underlying103 rfl AR ?_|fail)
      refine (CK _ Kj j hjl).mono ?_;rintro e w5 ⟨rfl,k5⟩;have o5:=oj.keep k5;have K5:=Kj.trans k5;have s5:=k5.size;have hB5:=(KAW k5 w.heap.size (by omega)).trans pI;have hQ5:=(KAW k5 Q (by omega)).trans ul;have hT5:=(KAW k5 w2.heap.size (by omega)).trans hTj;have t0:w5.cell? ⟨Q,0,none⟩=some (.int .i64 10):=by rw[KAL _ _ 0 _ _ _ hQ5];rfl
      have hll:=HL.out j;cases hc:TK j
      ·
       have HM:Hid (LK (j+1)=LK j):=AI (HY.out j hc);go_wp2;go_roundw;case rel=>exact⟨j+1,_,rfl,by omega,by go_num,by rw[HM.out];exact o5,K5,hB5,hQ5,hT5,by omega,Zv⟩
       case measure=>simp[intOf];omega
      ·
       have HM:Hid (LA++LK (j+1)=(LA++LK j)++[10+(j:Int)]):=AI (by rw[HX.out j hc,KA2]);have hll2:(LA++LK j).length<=20:=by rw[KAJ];omega
       have jw:IntKind.i64.wrap ((10:Int)+(j:Int))=(10:Int)+(j:Int):=by rw[KAk];omega
       generalize LA++LK j=LL at *;go_wp2_with (at_builtin;refine KAe _ rfl _ _ 25 rfl w0.heap.size 2 i0 (.int .i64 0) 1 8 Tryz.underlying25 hi hz0 hz1 hz2 rfl (by decide) _ _ _ rfl (KCH o5 _) ⟨_,0,none⟩ 1 1 [.int .i64 (10+(j:Int))] rfl rfl ?c1 ?c2 ?c3 ?c4 ?c5 ?_)
       case c1=>
        intro j u hj
        match j,hj with
        | 0,hj=>simp at hj;subst hj;simp[Addr.add]
       case c2=>intro u hu;simp at hu;subst hu;rfl
       case c3=>unfold maxLen;omega
       case c4=>omega
       case c5=>simp;omega
       intro v7 w6 hown' hgrow _ hblk;have hK6:AC w w6:=(K5.alloc _).grown hgrow (fun q hq=>by have:=o5.ge q hq;omega);have st:=fun q (hq:q<w5.heap.size) (hne:∀z,v'.ownBlock=some z->z≠q)=>(hgrow.block q (by rw[AD];omega) (fun e=>hne q e.symm rfl)).trans (KAW ((AC.refl w5).alloc _) q hq)
       have hB6:=(st w.heap.size (by omega) (fun z hz=>by have:=o5.ge z hz;omega)).trans hB5;have hQ6:=(st Q (by omega) (fun z hz=>(Zv.out z hz).1)).trans hQ5;have hT6:=(st w2.heap.size (by omega) (fun z hz=>(Zv.out z hz).2)).trans hT5;have s6:=hgrow.size;rw[AD] at s6
       have hO6:Hid (∀q,v7.ownBlock=some q->q≠Q/\q≠w2.heap.size):=AI (fun q hq=>by
        rcases hblk with e|e
        . exact Zv.out q (by rw[<-e];exact hq)
        . rw[e] at hq;have:=KAI hq;omega)
       clear hgrow hblk st;go_wp2;go_roundw;case rel=>exact⟨j+1,_,rfl,by omega,by go_num,by rw[HM.out];exact B8 hown',hK6,hB6,hQ6,hT6,by omega,hO6⟩
       case measure=>simp[intOf];omega
     ·
      obtain rfl:j=AA.length:=by omega
      go_wp2;go_roundw;case rel=>exact⟨2,_,rfl,by omega,by go_num,by rw[HS.out];exact oj,Kj,pI,hTj,by omega,AI (fun q hq=>(Zv.out q hq).2)⟩
      case measure=>simp[intOf]
  ·
   obtain rfl:k=2:=by omega
   go_wp2;go_ret;exact⟨_,rfl,by rw[HE.out];exact (ho.BK (by omega)).row,hK⟩
theorem JZ {w:World}{ops:Array Oper}{rest:List Oper}{o:Oper}{a:Act}{Q:Exit->Act->World->Prop}(hgd:o.guard=none)(s x:Operand)
  (ho:o.op = .call { callee:= .builtin .append,args:=#[s,x],argTypes:=#[151,151] })
  (base g:Nat) (hs:a.eval s = .slice (some ⟨g,0,none⟩) 0 0) (hown:B5 cN 155 3 w base (.slice (some ⟨g,0,none⟩) 0 0) [])
  (vx:Value) (hx:a.eval x=vx) (ns:List Nt) (hr:lV w vx ns) (hn:ns.length<=1048576) (hb:base<=w.heap.size)
  (h:∀v' w',B5 cN 155 3 w' base v' ns->w.grownBy w' (some g)->wpList Tryz.prog ops Q rest (a.put o.dst v') w'):wpList Tryz.prog ops Q (o::rest) a w:=
 wpList_plain hgd fun _ hK=>Hl s x ho base g hs hown vx hx ns hr hn hb (fun v' w' h1 h2=>hK _ _ (h v' w' h1 h2))
theorem SQ (w:World)(v:Value)(xss:List (List Nt))(h:Yv w v xss)(hx:xss.length<=1048576)(hm:∀i,i<xss.length->(xss.getD i []).length<=1048576):
  Calls Tryz.prog 153 #[v] w fun e w'=>∃v' hs,e = .returned v'/\Ch 151 Px w' w.heap.size v' hs xss/\AC w w':=by
 obtain⟨a,c,rfl,h⟩:=h;obtain⟨j0,hj,hy0,hy1,hy2⟩:=KA3 Tryz.Ql
 have hown0:Ch 151 Px (w.alloc (.cells #[] 151)) w.heap.size (.slice (some ⟨w.heap.size,0,none⟩) 0 0) [] (xss.take 0):=by
  rw[KDO];refine⟨⟨fun o ho=>?_,fun o o' ho ho' hne=>?_⟩,rfl⟩
  ·
   cases o with
   |none=>exact KAo w #[] 0 (KAM _) (by decide) rfl
   |some i=>exact absurd (show i<0 from ho) (by omega)
  ·
   cases o with
   |none=>
    cases o' with
    |none=>exact absurd rfl hne
    |some i=>exact absurd (show i<0 from ho') (by omega)
   |some i=>exact absurd (show i<0 from ho) (by omega)
 go_enter Tryz.func153,Tryz.ntmps153
 go_wp2;go_loopw [3,5,9] (fun v0 _ i wr=>∃(k:Nat) (v:Value) (hs:List Value),v=v0/\k<=xss.length/\i = .int .i64 k/\Ch 151 Px wr w.heap.size v hs (xss.take k)/\AC w wr) (fun _ _ i _=>xss.length-(intOf i).toNat)
 case atStart=>exact⟨0,_,_,rfl,KAb _,rfl,hown0,(AC.refl _).alloc _⟩
 case round=>
  obtain⟨k,v,hs,rfl,hk,rfl,ho,hK⟩:=hrel;clear hown0;by_cases hlt:k<xss.length
  ·
   rcases h with h0|⟨b,off,rfl,hb,hc⟩
   . exfalso;rw[h0] at hlt;simp at hlt
   obtain⟨vi,d1,r1⟩:=hc k hlt;have d2:=(hK.cell hb).trans d1;have r2:=r1.keep hK;have hml:=hm k hlt
   have HT:Hid (xss.take (k+1)=xss.take k++[xss.getD k []]):=AI (by
    rw[KBQ,IT,KAH hlt];rfl)
   have hlen:hs.length=k:=by rw[ho.len,KAz];omega
   generalize xss.getD k []=ns at *;have hsz:=hK.size;have r3:=r2.keep ((AC.refl wr).alloc (.cells #[] 155));obtain⟨ai,ci,rfl,-⟩:=id r2;have i1:(0:Int)<=(k:Int):=KAK _;have i2:(k:Int)<(xss.length:Int):=by omega
   clear hc d1 r1 r2;have OE:B5 cN 155 3 (wr.alloc (.cells #[] 155)) wr.heap.size (.slice (some ⟨wr.heap.size,0,none⟩) 0 0) []:=KAo wr #[] 0 (KAM _) (by decide) rfl;go_wp2_with (at_builtin;refine JZ rfl _ _ rfl wr.heap.size wr.heap.size rfl OE _ rfl ns r3 hml (by rw[AD];omega) ?_)
   intro u w5 o5 g5;have OU:(Px ns u).own w5 wr.heap.size:=o5;have k5:AC wr w5:=((AC.refl wr).alloc (.cells #[] 155)).grown g5 (fun q hq=>KBP (KAI hq));have s5:=k5.size
   obtain⟨au,cu,hu⟩:∃a c,u = .slice a ns.length c:=by
    rcases OU.2 with ⟨e,hn'⟩|⟨g,cap,cur,e,_⟩
    . exact⟨none,0,by rw[show ns.length=0 from hn'];exact e⟩
    . exact⟨_,_,e⟩
   subst hu;have k6:AC w5 (w5.alloc (.cells #[.slice au ns.length cu] 151)):=(AC.refl w5).alloc _
   have HR:World.ownsRow (w5.alloc (.cells #[.slice au ns.length cu] 151)) w.heap.size 151 1 v k hs:=by
    have:=((ho.Ag.keep k5).keep k6).own none trivial;rw[<-hlen];exact this
   clear o5 g5;go_wp2_with (at_builtin;refine KAe _ rfl _ _ 101 rfl w.heap.size 151 j0 (.slice none 0 0) 1 24 Tryz.underlying101 hj hy0 hy1 hy2 rfl (by decide) _ _ _ rfl HR ⟨_,0,none⟩ 1 1 [.slice au ns.length cu] rfl rfl ?e1 ?e2 ?e3 ?e4 ?e5 ?_)
   case e1=>
    intro j u hj
    match j,hj with
    | 0,hj=>simp at hj;subst hj;simp[Addr.add]
   case e2=>intro u hu;simp at hu;subst hu;rfl
   case e3=>unfold maxLen;omega
   case e4=>omega
   case e5=>simp;omega
   intro v7 w7 hown7 hgrow7 _ hblk7;have HP:=ho.push (xs:=ns) (fun _ _=>rfl) (k5.trans k6) (Dp (show (Px ns (.slice au ns.length cu)).own _ wr.heap.size from KAs OU k6.grownBy (by cases (Value.slice au ns.length cu).ownBlock<;>simp)) hsz) (fun q hq=>(KAY OU q hq).1) hgrow7 (by rw[AD];exact hblk7) (by show World.ownsRow _ _ _ _ _ (hs++[Value.slice au ns.length cu]).length _;rw[KAJ,hlen];exact hown7);have K7:AC w w7:=((hK.trans k5).alloc _).grown hgrow7 (fun k hk=>(KAY HR k hk).1);clear hown7 hgrow7 hblk7 HR OU ho;go_wp2;go_roundw;case rel=>exact⟨k+1,_,_,rfl,by omega,by go_num,by rw[HT.out];exact HP,K7⟩
   case measure=>simp[intOf];omega
  ·
   obtain rfl:k=xss.length:=by omega
   rw[KBK] at ho;go_wp2;go_ret;exact⟨_,_,rfl,ho,hK⟩
theorem SP (w:World)(v:Value)(xss:List (List Int))(h:fu w v xss)(hx:xss.length<=1048576)(hm:∀i,i<xss.length->(xss.getD i []).length<=1048576):
  Calls Tryz.prog 154 #[v] w fun e w'=>∃v' hs,e = .returned v'/\Ch 25 Bk w' w.heap.size v' hs xss/\AC w w':=by
 obtain⟨a,c,rfl,h⟩:=h;obtain⟨j0,hj,hy0,hy1,hy2⟩:=KA3 Tryz.Qk
 have hown0:Ch 25 Bk (w.alloc (.cells #[] 25)) w.heap.size (.slice (some ⟨w.heap.size,0,none⟩) 0 0) [] (xss.take 0):=by
  rw[KDO];refine⟨⟨fun o ho=>?_,fun o o' ho ho' hne=>?_⟩,rfl⟩
  ·
   cases o with
   |none=>exact KAo w #[] 0 (KAM _) (by decide) rfl
   |some i=>exact absurd (show i<0 from ho) (by omega)
  ·
   cases o with
   |none=>
    cases o' with
    |none=>exact absurd rfl hne
    |some i=>exact absurd (show i<0 from ho') (by omega)
   |some i=>exact absurd (show i<0 from ho) (by omega)
 go_enter Tryz.func154,Tryz.ntmps154
 go_wp2;go_loopw [3,5,9] (fun v0 _ i wr=>∃(k:Nat) (v:Value) (hs:List Value),v=v0/\k<=xss.length/\i = .int .i64 k/\Ch 25 Bk wr w.heap.size v hs (xss.take k)/\AC w wr) (fun _ _ i _=>xss.length-(intOf i).toNat)
 case atStart=>exact⟨0,_,_,rfl,KAb _,rfl,hown0,(AC.refl _).alloc _⟩
 case round=>
  obtain⟨k,v,hs,rfl,hk,rfl,ho,hK⟩:=hrel;clear hown0;by_cases hlt:k<xss.length
  ·
   rcases h with h0|⟨b,off,rfl,hb,hc⟩
   . exfalso;rw[h0] at hlt;simp at hlt
   obtain⟨vi,d1,r1⟩:=hc k hlt;have d2:=(hK.cell hb).trans d1;have r2:=r1.keep hK;have hml:=hm k hlt
   have HT:Hid (xss.take (k+1)=xss.take k++[xss.getD k []]):=AI (by
    rw[KBQ,IT,KAH hlt];rfl)
   have hlen:hs.length=k:=by rw[ho.len,KAz];omega
   generalize xss.getD k []=ns at *;have hsz:=hK.size;have r3:=r2.keep ((AC.refl wr).alloc (.cells #[] 2));obtain⟨ai,ci,rfl,-⟩:=id r2;have i1:(0:Int)<=(k:Int):=KAK _;have i2:(k:Int)<(xss.length:Int):=by omega
   clear hc d1 r1 r2;have OE:A8 (wr.alloc (.cells #[] 2)) wr.heap.size (.slice (some ⟨wr.heap.size,0,none⟩) 0 0) []:=KAo wr #[] 0 (KAM _) (by decide) rfl;go_wp2_with (at_builtin;refine BG rfl _ _ rfl wr.heap.size _ [] rfl OE _ rfl ns r3 (by simp) hml (by rw[AD];omega) ?_)
   intro u w5 o5 g5 _;have OU:(Bk ns u).own w5 wr.heap.size:=o5;have k5:AC wr w5:=((AC.refl wr).alloc (.cells #[] 2)).grown g5 (fun q hq=>KBP (KAI hq));have s5:=k5.size
   obtain⟨au,cu,hu⟩:∃a c,u = .slice a ns.length c:=by
    rcases OU.2 with ⟨e,hn'⟩|⟨g,cap,cur,e,_⟩
    . exact⟨none,0,by rw[show ns.length=0 from hn'];exact e⟩
    . exact⟨_,_,e⟩
   subst hu;have k6:AC w5 (w5.alloc (.cells #[.slice au ns.length cu] 25)):=(AC.refl w5).alloc _
   have HR:World.ownsRow (w5.alloc (.cells #[.slice au ns.length cu] 25)) w.heap.size 25 1 v k hs:=by
    have:=((ho.Ag.keep k5).keep k6).own none trivial;rw[<-hlen];exact this
   clear o5 g5;go_wp2_with (at_builtin;refine KAe _ rfl _ _ 36 rfl w.heap.size 25 j0 (.slice none 0 0) 1 24 Tryz.underlying36 hj hy0 hy1 hy2 rfl (by decide) _ _ _ rfl HR ⟨_,0,none⟩ 1 1 [.slice au ns.length cu] rfl rfl ?e1 ?e2 ?e3 ?e4 ?e5 ?_)
   case e1=>
    intro j u hj
    match j,hj with
    | 0,hj=>simp at hj;subst hj;simp[Addr.add]
   case e2=>intro u hu;simp at hu;subst hu;rfl
   case e3=>unfold maxLen;omega
   case e4=>omega
   case e5=>simp;omega
   intro v7 w7 hown7 hgrow7 _ hblk7;have HP:=ho.push (xs:=ns) (fun _ _=>rfl) (k5.trans k6) (Dp (show (Bk ns (.slice au ns.length cu)).own _ wr.heap.size from KAs OU k6.grownBy (by cases (Value.slice au ns.length cu).ownBlock<;>simp)) hsz) (fun q hq=>(KAY OU q hq).1) hgrow7 (by rw[AD];exact hblk7) (by show World.ownsRow _ _ _ _ _ (hs++[Value.slice au ns.length cu]).length _;rw[KAJ,hlen];exact hown7);have K7:AC w w7:=((hK.trans k5).alloc _).grown hgrow7 (fun k hk=>(KAY HR k hk).1);clear hown7 hgrow7 hblk7 HR OU ho;go_wp2;go_roundw;case rel=>exact⟨k+1,_,_,rfl,by omega,by go_num,by rw[HT.out];exact HP,K7⟩
   case measure=>simp[intOf];omega
  ·
   obtain rfl:k=xss.length:=by omega
   rw[KBK] at ho;go_wp2;go_ret;exact⟨_,_,rfl,ho,hK⟩
theorem IQ (w:World)(v:Value)(AA:List (List Dd))(h:Fw w v AA)(hx:AA.length<=1048576)(hm:∀i,i<AA.length->(AA.getD i []).length<=1048576):
  Calls Tryz.prog 133 #[v] w fun e w'=>∃v' V,e = .returned v'/\Cg w' w.heap.size w'.heap.size v' V AA/\AC w w':=by
 obtain⟨aD,yG,rfl,h⟩:=h;obtain⟨i0,hi,hz0,hz1,hz2⟩:=KA3 Tryz.Z5;obtain⟨j0,hj,hy0,hy1,hy2⟩:=KA3 Tryz.Z6
 have hown0:Cg (w.alloc (.cells #[] 72)) w.heap.size (w.alloc (.cells #[] 72)).heap.size (.slice (some ⟨w.heap.size,0,none⟩) 0 0) (fun _=>vZ) (AA.take 0):=by
  rw[KDO];exact⟨KAo w #[] 0 (KAM _) (by decide) rfl,fun k hk=>by simp[Value.ownBlock] at hk;subst hk;simp,fun i hi=>by simp at hi,fun i hi=>by simp at hi,fun i hi=>by simp at hi,fun i j _ hj=>by simp at hj⟩
 go_enter Tryz.func133,Tryz.ntmps133
 go_wp2;go_loopw [3,5,9] (fun v0 _ i wr=>∃(k:Nat) (v:Value) (V:Nat->Value),v=v0/\k<=AA.length/\i = .int .i64 k/\Cg wr w.heap.size wr.heap.size v V (AA.take k)/\AC w wr) (fun _ _ i _=>AA.length-(intOf i).toNat)
 case atStart=>exact⟨0,_,_,rfl,KAb _,rfl,hown0,(AC.refl _).alloc _⟩
 case round=>
  obtain⟨k,v,V,rfl,hk,rfl,ho,hK⟩:=hrel;clear hown0;by_cases hlt:k<AA.length
  ·
   rcases h with h0|⟨b,off,rfl,hb,hc⟩
   . exfalso;rw[h0] at hlt;simp at hlt
   obtain⟨vi,d1,r1⟩:=hc k hlt;have d2:=(hK.cell hb).trans d1;have r2:=r1.keep hK;have hml:=hm k hlt
   have HT:Hid (AA.take (k+1)=AA.take k++[AA.getD k []]):=AI (by
    rw[KBQ,IT,KAH hlt];rfl)
   have hlen:(AA.take k).length=k:=by rw[KAz];omega
   generalize AA.getD k []=ds at *;obtain⟨ai,ci,rfl,r2⟩:=r2;have i1:(0:Int)<=(k:Int):=KAK _;have i2:(k:Int)<(AA.length:Int):=by omega
   have hsz:=hK.size;clear hc d1 r1;have OE:(wr.alloc (.cells #[] 82)).ownsRow wr.heap.size 82 4 (.slice (some ⟨wr.heap.size,0,none⟩) 0 0) 0 []:=KAo wr #[] 0 (KAM _) (by decide) rfl;have d3:(wr.alloc (.cells #[] 82)).cell? ⟨b,off+k,none⟩=some (.slice ai ds.length (ds.length+ci)):=(((AC.refl wr).alloc _).cell (KAC hb hsz)).trans d2;rcases r2 with h0|⟨bd,od,rfl,hbd,hcd⟩
   ·
    subst h0
    cases ai with
    |none=>
     have OD:Bq (wr.alloc (.cells #[] 82)) wr.heap.size (.slice (some ⟨wr.heap.size,0,none⟩) 0 0) []:=OE;have k5:AC wr (wr.alloc (.cells #[] 82)):=(AC.refl wr).alloc _;have HX5:=(ho.keep k5).keep ((AC.refl (wr.alloc (.cells #[] 82))).alloc (.cells #[.slice (some ⟨wr.heap.size,0,none⟩) 0 0] 72));have HR:=HX5.row;rw[hlen] at HR;have Rm:=OD.keep ((AC.refl (wr.alloc (.cells #[] 82))).alloc (.cells #[.slice (some ⟨wr.heap.size,0,none⟩) 0 0] 72));have s5:=k5.size;go_wp2_with (at_builtin;refine KAe _ rfl _ _ 24 rfl w.heap.size 72 j0 (.slice none 0 0) 1 24 Tryz.underlying24 hj hy0 hy1 hy2 rfl (by decide) _ _ _ rfl HR ⟨_,0,none⟩ 1 1 [.slice (some ⟨wr.heap.size,0,none⟩) 0 0] rfl rfl ?e1 ?e2 ?e3 ?e4 ?e5 ?_)
     case e1=>
      intro j u hj
      match j,hj with
      | 0,hj=>simp at hj;subst hj;simp[Addr.add]
     case e2=>intro u hu;simp at hu;subst hu;rfl
     case e3=>unfold maxLen;omega
     case e4=>omega
     case e5=>simp;omega
     intro v' w7 hown7 hgrow7 _ hblk7;have HP:=HX5.push Rm hsz (by rw[hlen];exact hown7) hgrow7 (by rw[AD,AD];exact hblk7) (by simp;omega);have K7:AC w w7:=((hK.trans k5).alloc _).grown hgrow7 (fun k hk=>(KAY HR k hk).1);clear hown7 hgrow7 hblk7 HR HX5 Rm;go_wp2;go_roundw;case rel=>exact⟨k+1,_,_,rfl,by omega,by go_num,by rw[HT.out];exact HP,K7⟩
     case measure=>simp[intOf];omega
    |some x=>
     go_wp2_with (at_builtin;refine KBu _ rfl _ _ 72 rfl wr.heap.size 82 i0 (.agg #[.int .i64 0,.int .i64 0,.int .i64 0,.int .i64 0]) 4 32 Tryz.underlying72 hi hz0 hz1 hz2 rfl (by decide) _ _ _ rfl OE x 0 ci [] rfl rfl ?c1 ?c2 ?c3 ?c4 ?c5 ?_)
     case c1=>intro j u hj;simp at hj
     case c2=>intro u hu;simp at hu
     case c3=>simp
     case c4=>simp
     case c5=>simp
     intro u w5 hown5 hgrow5 _;have OD:Bq w5 wr.heap.size u []:=by unfold Bq;simpa using hown5
     have k5:AC wr w5:=((AC.refl wr).alloc (.cells #[] 82)).grown hgrow5 (fun k hk=>(KAY OE k hk).1);clear hown5 hgrow5;obtain⟨au,cu,hu⟩:∃a c,u = .slice a 0 c:=OD.shape;subst hu;have HX5:=(ho.keep k5).keep ((AC.refl w5).alloc (.cells #[.slice au 0 cu] 72));have HR:=HX5.row;rw[hlen] at HR;have Rm:=OD.keep ((AC.refl w5).alloc (.cells #[.slice au 0 cu] 72));have s5:=k5.size;go_wp2_with (at_builtin;refine KAe _ rfl _ _ 24 rfl w.heap.size 72 j0 (.slice none 0 0) 1 24 Tryz.underlying24 hj hy0 hy1 hy2 rfl (by decide) _ _ _ rfl HR ⟨_,0,none⟩ 1 1 [.slice au 0 cu] rfl rfl ?e1 ?e2 ?e3 ?e4 ?e5 ?_)
     case e1=>
      intro j u hj
      match j,hj with
      | 0,hj=>simp at hj;subst hj;simp[Addr.add]
     case e2=>intro u hu;simp at hu;subst hu;rfl
     case e3=>unfold maxLen;omega
     case e4=>omega
     case e5=>simp;omega
     intro v' w7 hown7 hgrow7 _ hblk7;have HP:=HX5.push Rm hsz (by rw[hlen];exact hown7) hgrow7 (by rw[AD];exact hblk7) (by simp;omega);have K7:AC w w7:=((hK.trans k5).alloc _).grown hgrow7 (fun k hk=>(KAY HR k hk).1);clear hown7 hgrow7 hblk7 HR HX5 Rm;go_wp2;go_roundw;case rel=>exact⟨k+1,_,_,rfl,by omega,by go_num,by rw[HT.out];exact HP,K7⟩
     case measure=>simp[intOf];omega
   ·
    have NC:=PV (w:=wr.alloc (.cells #[] 82)) (b:=bd) (off:=od) (ds:=ds) (fun i hi=>(hcd i hi).keep hbd ((AC.refl wr).alloc _));go_wp2_with (at_builtin;refine KBu _ rfl _ _ 72 rfl wr.heap.size 82 i0 (.agg #[.int .i64 0,.int .i64 0,.int .i64 0,.int .i64 0]) 4 32 Tryz.underlying72 hi hz0 hz1 hz2 rfl (by decide) _ _ _ rfl OE ⟨bd,od,none⟩ ds.length (ds.length+ci) (ds.flatMap cD) rfl (QY ds) ?c1 ?c2 ?c3 ?c4 ?c5 ?_)
    case c1=>exact NC
    case c2=>exact VO ds
    case c3=>unfold maxLen;omega
    case c4=>omega
    case c5=>simp
    intro u w5 hown5 hgrow5 _;have OD:Bq w5 wr.heap.size u ds:=by unfold Bq;simpa using hown5
    have k5:AC wr w5:=((AC.refl wr).alloc (.cells #[] 82)).grown hgrow5 (fun k hk=>(KAY OE k hk).1);clear hown5 hgrow5;obtain⟨au,cu,hu⟩:=OD.shape;subst hu;have HX5:=(ho.keep k5).keep ((AC.refl w5).alloc (.cells #[.slice au ds.length cu] 72));have HR:=HX5.row;rw[hlen] at HR;have Rm:=OD.keep ((AC.refl w5).alloc (.cells #[.slice au ds.length cu] 72));have s5:=k5.size;go_wp2_with (at_builtin;refine KAe _ rfl _ _ 24 rfl w.heap.size 72 j0 (.slice none 0 0) 1 24 Tryz.underlying24 hj hy0 hy1 hy2 rfl (by decide) _ _ _ rfl HR ⟨_,0,none⟩ 1 1 [.slice au ds.length cu] rfl rfl ?e1 ?e2 ?e3 ?e4 ?e5 ?_)
    case e1=>
     intro j u hj
     match j,hj with
     | 0,hj=>simp at hj;subst hj;simp[Addr.add]
    case e2=>intro u hu;simp at hu;subst hu;rfl
    case e3=>unfold maxLen;omega
    case e4=>omega
    case e5=>simp;omega
    intro v' w7 hown7 hgrow7 _ hblk7;have HP:=HX5.push Rm hsz (by rw[hlen];exact hown7) hgrow7 (by rw[AD];exact hblk7) (by simp;omega);have K7:AC w w7:=((hK.trans k5).alloc _).grown hgrow7 (fun k hk=>(KAY HR k hk).1);clear hown7 hgrow7 hblk7 HR HX5 Rm;go_wp2;go_roundw;case rel=>exact⟨k+1,_,_,rfl,by omega,by go_num,by rw[HT.out];exact HP,K7⟩
    case measure=>simp[intOf];omega
  ·
   obtain rfl:k=AA.length:=by omega
   rw[KBK] at ho;go_wp2;go_ret;exact⟨_,_,rfl,ho,hK⟩
def Lx (b:Bd)(o:Nat):Nat:=if o=13 then b.AJ.length+1 else if o=28 then b.rws.length+1 else 1
def pG:BI->Option (Nat×Nat)
 | .bd=>none
 | .AM=>some (3,0)
 | .AQ=>some (7,0)
 | .AJ=>some (13,0)
 | .AK=>some (14,0)
 | .sn=>some (18,0)
 | .fr=>some (22,0)
 | .rws=>some (28,0)
 | .nt c=>some (13,c+1)
 | .rw p=>some (28,p+1)
theorem jF:∀a b i,pG a=some i->pG b=some i->a=b:=by
 intro a b i h1 h2;cases a<;>cases b<;>simp only[pG,KAg,reduceCtorEq] at h1 h2<;>subst h1<;>simp_all
theorem iV {w:World}{m bs N:Nat}{B:Nat->Bool}{R:Nat×Nat->Rw}{AA:List (List Dd)}{b:Bd}{wv nv rv:List Value}{x5 x9 x13 x16 x20 x24 x28 x31:Value}(HM:J8 w m (Cd [3,7,13,14,18,22,28] (Lx b) B) R true x5 wv bs N AA)
  (b3:B 3=true) (b7:B 7=true) (b13:B 13=true) (b14:B 14=true) (b18:B 18=true) (b22:B 22=true) (b28:B 28=true)
  (r3:R (3,0)=Bk b.AM x9) (r7:R (7,0)=Bk b.AQ x13) (ln:nv.length=b.AJ.length) (rn:R (13,0)=Em 151 nv x16) (rn':∀i,R (13,i+1)=Px (b.AJ.getD i []) (nv.getD i AF))
  (r14:R (14,0)=Bk b.AK x20) (r18:R (18,0)=Bk b.sn x24) (r22:R (22,0)=Bk b.fr x28) (lr:rv.length=b.rws.length) (rr:R (28,0)=Em 25 rv x31) (rr':∀i,R (28,i+1)=Bk (b.rws.getD i []) (rv.getD i AF)):
  BT w m ⟨x5,x9,x13,x16,x20,x24,x28,x31⟩ nv rv bs N AA b:=by
 have H1:∀a i,(BW nv rv a/\a≠.bd)->pG a=some i->Cd [3,7,13,14,18,22,28] (Lx b) B i/\Ay 0 ⟨x5,x9,x13,x16,x20,x24,x28,x31⟩ nv rv b a=R i:=by
  intro a i ha hi
  match a,ha,hi with
  | .AM,_,hi=>cases hi;exact⟨⟨by decide,b3,by show 0<1;omega⟩,r3.symm⟩
  | .AQ,_,hi=>cases hi;exact⟨⟨by decide,b7,by show 0<1;omega⟩,r7.symm⟩
  | .AJ,_,hi=>cases hi;exact⟨⟨by decide,b13,by show 0<b.AJ.length+1;omega⟩,rn.symm⟩
  | .AK,_,hi=>cases hi;exact⟨⟨by decide,b14,by show 0<1;omega⟩,r14.symm⟩
  | .sn,_,hi=>cases hi;exact⟨⟨by decide,b18,by show 0<1;omega⟩,r18.symm⟩
  | .fr,_,hi=>cases hi;exact⟨⟨by decide,b22,by show 0<1;omega⟩,r22.symm⟩
  | .rws,_,hi=>cases hi;exact⟨⟨by decide,b28,by show 0<b.rws.length+1;omega⟩,rr.symm⟩
  | .nt c,ha,hi=>cases hi;exact⟨⟨by simp,b13,by have:c<nv.length:=ha.1;show c+1<b.AJ.length+1;omega⟩,(rn' c).symm⟩
  | .rw c,ha,hi=>cases hi;exact⟨⟨by simp,b28,by have:c<rv.length:=ha.1;show c+1<b.rws.length+1;omega⟩,(rr' c).symm⟩
 have H2:∀a,(BW nv rv a/\a≠.bd)->pG a=none->(Ay 0 ⟨x5,x9,x13,x16,x20,x24,x28,x31⟩ nv rv b a).own w m/\(Ay 0 ⟨x5,x9,x13,x16,x20,x24,x28,x31⟩ nv rv b a).v.ownBlock=none:=by
  intro a ha hn
  match a,ha,hn with
  | .bd,ha,_=>exact absurd rfl ha.2
 refine⟨HM.Ag.via pG jF H1 H2,ln,lr,(HM.work rfl).1,(HM.work rfl).2.2.1,fun a ha hbd k hk=>?_⟩
 cases e:pG a with
 |none=>rw[(H2 a ⟨ha,hbd⟩ e).2] at hk;cases hk
 |some i=>rw[(H1 a i ⟨ha,hbd⟩ e).2] at hk;exact HM.out rfl i (H1 a i ⟨ha,hbd⟩ e).1 k hk
structure rM (w:World)(w1:World)(AA:List (List Dd))(b:Bd)(aW:Option Addr)(aP:Option Addr)(aL:Option Addr)(aN:Option Addr)(aX:Option Addr)(aT:Option Addr)(aF:Option Addr)(aR:Option Addr)(cW:Nat)(cP:Nat)(cL:Nat)(cQ:Nat)(cX:Nat)(cT:Nat)(cF:Nat)(cR:Nat)(B:Nat->Bool)(R:Nat×Nat->Rw)(wv:List Value)(nv:List Value)(rv:List Value)(bs:Nat)(N:Nat)(x3 x4 x5 x6 x7 x8 x9 x10 x11 x12 x13 x14 x15 x16 x17 x18 x19 x20 x21 x22 x23 x24 x25 x26 x27 x28 x29 x30 x31 x32:Value)(w3:World):Prop where
 HM:J8 w3 w1.heap.size (Cd [3,7,13,14,18,22,28] (Lx b) B) R (B 2) x5 wv bs N AA
 HK:AC w w3
 HS:w1.heap.size<=w3.heap.size
 HB:w3.heap[w.heap.size]? = some (.cells #[.slice aW AA.length cW,.slice aP b.AM.length cP,.slice aL b.AQ.length cL,.slice aN b.AJ.length cQ,.slice aX b.AK.length cX,.slice aT b.sn.length cT,.slice aF b.fr.length cF,.slice aR b.rws.length cR] 103 (0,0))
 HZ:B 30=false->w3.heap[w.heap.size+1]? = some (.cells #[AF,AF,AF,AF,AF,AF,AF,AF] 103 (0,0))
 F3:B 3=true->(∃g,x6 = .slice (some ⟨g,0,none⟩) 0 0)/\(B 6=false->R (3,0)=Bk [] x6)
 F4:B 4=true->x7 = .pointer (some ⟨w.heap.size,1,none⟩)
 F5:B 5=true->x8 = .slice aP b.AM.length cP
 F6:B 6=true->B 3=true/\(∃a c,x9 = .slice a b.AM.length c)/\R (3,0)=Bk b.AM x9
 F7:B 7=true->(∃g,x10 = .slice (some ⟨g,0,none⟩) 0 0)/\(B 10=false->R (7,0)=Bk [] x10)
 F8:B 8=true->x11 = .pointer (some ⟨w.heap.size,2,none⟩)
 F9:B 9=true->x12 = .slice aL b.AQ.length cL
 F10:B 10=true->B 7=true/\(∃a c,x13 = .slice a b.AQ.length c)/\R (7,0)=Bk b.AQ x13
 F14:B 14=true->(∃g,x17 = .slice (some ⟨g,0,none⟩) 0 0)/\(B 17=false->R (14,0)=Bk [] x17)
 F15:B 15=true->x18 = .pointer (some ⟨w.heap.size,4,none⟩)
 F16:B 16=true->x19 = .slice aX b.AK.length cX
 F17:B 17=true->B 14=true/\(∃a c,x20 = .slice a b.AK.length c)/\R (14,0)=Bk b.AK x20
 F18:B 18=true->(∃g,x21 = .slice (some ⟨g,0,none⟩) 0 0)/\(B 21=false->R (18,0)=Bk [] x21)
 F19:B 19=true->x22 = .pointer (some ⟨w.heap.size,5,none⟩)
 F20:B 20=true->x23 = .slice aT b.sn.length cT
 F21:B 21=true->B 18=true/\(∃a c,x24 = .slice a b.sn.length c)/\R (18,0)=Bk b.sn x24
 F22:B 22=true->(∃g,x25 = .slice (some ⟨g,0,none⟩) 0 0)/\(B 25=false->R (22,0)=Bk [] x25)
 F23:B 23=true->x26 = .pointer (some ⟨w.heap.size,6,none⟩)
 F24:B 24=true->x27 = .slice aF b.fr.length cF
 F25:B 25=true->B 22=true/\(∃a c,x28 = .slice a b.fr.length c)/\R (22,0)=Bk b.fr x28
 F0:B 0=true->x3 = .pointer (some ⟨w.heap.size,0,none⟩)
 F1:B 1=true->x4 = .slice aW AA.length cW
 F2:B 2=true->∃a c,x5 = .slice a AA.length c
 F11:B 11=true->x14 = .pointer (some ⟨w.heap.size,3,none⟩)
 F12:B 12=true->x15 = .slice aN b.AJ.length cQ
 F13:B 13=true->(∃a c,x16 = .slice a b.AJ.length c)/\nv.length=b.AJ.length/\R (13,0)=Em 151 nv x16/\∀i,R (13,i+1)=Px (b.AJ.getD i []) (nv.getD i AF)
 F26:B 26=true->x29 = .pointer (some ⟨w.heap.size,7,none⟩)
 F27:B 27=true->x30 = .slice aR b.rws.length cR
 F28:B 28=true->(∃a c,x31 = .slice a b.rws.length c)/\rv.length=b.rws.length/\R (28,0)=Em 25 rv x31/\∀i,R (28,i+1)=Bk (b.rws.getD i []) (rv.getD i AF)
 F29:B 29=true->(B 2=true/\B 6=true/\B 10=true/\B 13=true/\B 17=true/\B 21=true/\B 25=true/\B 28=true)/\x32 = .agg #[x5,x9,x13,x16,x20,x24,x28,x31]
 F30:B 30=true->B 29=true/\w3.heap[w.heap.size+1]? = some (.cells #[x5,x9,x13,x16,x20,x24,x28,x31] 103 (0,0))
theorem MT (w:World)(bv:BV)(AA:List (List Dd))(b:Bd)(h:Cw w bv AA b)(hb:Ap AA b=true):
  Calls Tryz.prog 114 #[bv.agg] w fun e w'=>∃bv' nv rv wv bs N,e = .returned (BV.agg bv')/\BT w' w.heap.size bv' nv rv bs N AA b/\ED w' bs N bv'.W wv AA/\w.heap.size<=bs/\AC w w':=by
 obtain⟨hwk,q1,q2,q3,q4,q5,q6,q7,q8,q9⟩:=Iy hb;obtain⟨u1,hll⟩:=OS hwk;have g1:b.AM.length<=1048576:=by omega
 have g2:b.AQ.length<=1048576:=by omega
 have g3:b.AK.length<=1048576:=by omega
 have g4:b.AJ.length<=1048576:=by omega
 have g5:b.rws.length<=1048576:=by omega
 have hln:∀i,i<b.AJ.length->(b.AJ.getD i []).length<=1048576:=fun i hi=>by have:=q9 i (by omega);omega
 have hlr:∀i,i<b.rws.length->(b.rws.getD i []).length<=1048576:=fun i hi=>by have:=q8 i (by omega);omega
 clear q1 q2 q3 q4 q5 q8 q9 hwk;obtain⟨aW,aP,aL,aN,aX,aT,aF,aR,cW,cP,cL,cQ,cX,cT,cF,cR,rfl⟩:=h.shapes;go_enter Tryz.func114,Tryz.ntmps114
 go_upto_region 1 with fail
 obtain⟨w1,hw1⟩:∃W:World,W=(w.alloc (.cells #[.slice aW AA.length cW,.slice aP b.AM.length cP,.slice aL b.AQ.length cL,.slice aN b.AJ.length cQ,.slice aX b.AK.length cX,.slice aT b.sn.length cT,.slice aF b.fr.length cF,.slice aR b.rws.length cR] 103)).alloc (.cells #[AF,AF,AF,AF,AF,AF,AF,AF] 103):=⟨_,rfl⟩;have K1:AC w w1:=by rw[hw1];exact ((AC.refl w).alloc _).alloc _
 have s1:w1.heap.size=w.heap.size+1+1:=by rw[hw1,AD,AD]
 have hB1:w1.heap[w.heap.size]? = some (.cells #[.slice aW AA.length cW,.slice aP b.AM.length cP,.slice aL b.AQ.length cL,.slice aN b.AJ.length cQ,.slice aX b.AK.length cX,.slice aT b.sn.length cT,.slice aF b.fr.length cF,.slice aR b.rws.length cR] 103 (0,0)):=by rw[hw1];exact DM ((AC.refl _).alloc _)
 have hR1:w1.heap[w.heap.size+1]? = some (.cells #[AF,AF,AF,AF,AF,AF,AF,AF] 103 (0,0)):=by rw[hw1,<-AD w (.cells #[.slice aW AA.length cW,.slice aP b.AM.length cP,.slice aL b.AQ.length cL,.slice aN b.AJ.length cQ,.slice aX b.AK.length cX,.slice aT b.sn.length cT,.slice aF b.fr.length cF,.slice aR b.rws.length cR] 103)];exact KAX _ _
 rw[<-hw1];clear hw1;have y1:w.heap.size+1<w1.heap.size:=by omega
 clear s1;refine Bv (by kernel_rfl) (fun listed a w3=>∃(B:Nat->Bool) (R:Nat×Nat->Rw) (wv:List Value) (nv:List Value) (rv:List Value) (bs:Nat) (N:Nat) (x3 x4 x5 x6 x7 x8 x9 x10 x11 x12 x13 x14 x15 x16 x17 x18 x19 x20 x21 x22 x23 x24 x25 x26 x27 x28 x29 x30 x31 x32:Value),listed=#[B 0,B 1,B 2,B 3,B 4,B 5,B 6,B 7,B 8,B 9,B 10,B 11,B 12,B 13,B 14,B 15,B 16,B 17,B 18,B 19,B 20,B 21,B 22,B 23,B 24,B 25,B 26,B 27,B 28,B 29,B 30]/\a=⟨#[.agg #[.slice aW AA.length cW,.slice aP b.AM.length cP,.slice aL b.AQ.length cL,.slice aN b.AJ.length cQ,.slice aX b.AK.length cX,.slice aT b.sn.length cT,.slice aF b.fr.length cF,.slice aR b.rws.length cR],.pointer (some ⟨w.heap.size,0,none⟩),.pointer (some ⟨w.heap.size+1,0,none⟩),x3,x4,x5,x6,x7,x8,x9,x10,x11,x12,x13,x14,x15,x16,x17,x18,x19,x20,x21,x22,x23,x24,x25,x26,x27,x28,x29,x30,x31,x32],[]⟩/\rM w w1 AA b aW aP aL aN aX aT aF aR cW cP cL cQ cX cT cF cR B R wv nv rv bs N x3 x4 x5 x6 x7 x8 x9 x10 x11 x12 x13 x14 x15 x16 x17 x18 x19 x20 x21 x22 x23 x24 x25 x26 x27 x28 x29 x30 x31 x32 w3) ?_ ?_ ?_
 . exact⟨fun _=>false,fun _=>⟨0,0,AF,0,[]⟩,[],[],[],0,0,undef,undef,undef,undef,undef,undef,undef,undef,undef,undef,undef,undef,undef,undef,undef,undef,undef,undef,undef,undef,undef,undef,undef,undef,undef,undef,undef,undef,undef,undef,rfl,rfl,⟨J8.start _ _ _ _ _ _ _ _ _ _,K1.drew,KAM _,hB1,(fun _=>hR1),(fun q=>by cases q),(fun q=>by cases q),(fun q=>by cases q),(fun q=>by cases q),(fun q=>by cases q),(fun q=>by cases q),(fun q=>by cases q),(fun q=>by cases q),(fun q=>by cases q),(fun q=>by cases q),(fun q=>by cases q),(fun q=>by cases q),(fun q=>by cases q),(fun q=>by cases q),(fun q=>by cases q),(fun q=>by cases q),(fun q=>by cases q),(fun q=>by cases q),(fun q=>by cases q),(fun q=>by cases q),(fun q=>by cases q),(fun q=>by cases q),(fun q=>by cases q),(fun q=>by cases q),(fun q=>by cases q),(fun q=>by cases q),(fun q=>by cases q),(fun q=>by cases q),(fun q=>by cases q),(fun q=>by cases q),(fun q=>by cases q)⟩⟩
 ·
  rintro listed a w3 ⟨B,R,wv,nv,rv,bs,N,x3,x4,x5,x6,x7,x8,x9,x10,x11,x12,x13,x14,x15,x16,x17,x18,x19,x20,x21,x22,x23,x24,x25,x26,x27,x28,x29,x30,x31,x32,rfl,rfl,h'⟩ i hi;have hlt:=(AE hi).1;have hcs:i=0\/i=1\/i=2\/i=3\/i=4\/i=5\/i=6\/i=7\/i=8\/i=9\/i=10\/i=11\/i=12\/i=13\/i=14\/i=15\/i=16\/i=17\/i=18\/i=19\/i=20\/i=21\/i=22\/i=23\/i=24\/i=25\/i=26\/i=27\/i=28\/i=29\/i=30:=by simp at hlt;omega
  rcases hcs with rfl|rfl|rfl|rfl|rfl|rfl|rfl|rfl|rfl|rfl|rfl|rfl|rfl|rfl|rfl|rfl|rfl|rfl|rfl|rfl|rfl|rfl|rfl|rfl|rfl|rfl|rfl|rfl|rfl|rfl|rfl
  ·
   have hbi:B 0=false:=by simpa using (AE hi).2.1
   refine AG rfl rfl (fun K hK=>?_);simp only[KAE,Pd];go_simp;refine hK.out _ _ ?_;exact⟨AY B 0,R,wv,nv,rv,bs,N,_,_,_,_,_,_,_,_,_,_,_,_,_,_,_,_,_,_,_,_,_,_,_,_,_,_,_,_,_,_,rfl,rfl,{ h' with F0:=(fun _=>rfl),HM:=h'.HM.pass (by decide) }⟩
  ·
   have hbi:B 1=false:=by simpa using (AE hi).2.1
   have d0:B 0=true:=AH hi 0 rfl (by kernel_rfl);have dc:w3.cell? ⟨w.heap.size,0,none⟩=some (.slice aW AA.length cW):=by rw[KAL w3 _ 0 _ _ _ h'.HB];rfl
   have Ex:=AI (h'.F0 d0);rw[Ex.out];refine AG rfl rfl (fun K hK=>?_);simp only[KAE,KAB,Pd];go_simp;refine hK.out _ _ ?_;have ex:=Ex.out;subst ex;exact⟨AY B 1,R,wv,nv,rv,bs,N,_,_,_,_,_,_,_,_,_,_,_,_,_,_,_,_,_,_,_,_,_,_,_,_,_,_,_,_,_,_,rfl,rfl,{ h' with F1:=(fun _=>rfl),HM:=h'.HM.pass (by decide) }⟩
  ·
   have hbi:B 2=false:=by simpa using (AE hi).2.1
   have d1:B 1=true:=AH hi 1 rfl (by kernel_rfl);have hsz:=h'.HS;have hy:=y1;have Ex:=AI (h'.F1 d1);rw[Ex.out];refine AG rfl rfl (fun K hK=>?_);simp only[KAE,KAB,Pd];go_simp;refine (IQ _ _ _ (h.W.keep h'.HK) (by omega) hll).mono ?_;rintro e wz ⟨vz,V,rfl,hx,kk⟩;go_wp2_with fail
   refine hK.out _ _ ?_;have ex:=Ex.out;subst ex;have HM:=h'.HM;rw[hbi] at HM;obtain⟨az,cz,ez,-⟩:=id hx.rdW;exact⟨AY B 2,R,_,nv,rv,_,_,_,_,_,_,_,_,_,_,_,_,_,_,_,_,_,_,_,_,_,_,_,_,_,_,_,_,_,_,_,_,rfl,rfl,{ h' with F29:=(fun q=>absurd (h'.F29 q).1.1 (by rw[hbi];simp)),F30:=(fun q=>absurd (h'.F29 (h'.F30 q).1).1.1 (by rw[hbi];simp)),F2:=(fun _=>⟨az,cz,ez⟩),HM:=HM.copied (by decide) kk hx hsz,HK:=h'.HK.trans kk,HS:=KAU h'.HS kk.size,HB:=(KAW kk w.heap.size (by omega)).trans h'.HB,HZ:=(fun q=>(KAW kk (w.heap.size+1) (by omega)).trans (h'.HZ q)) }⟩
  ·
   have hbi:B 3=false:=by simpa using (AE hi).2.1
   have hsz:=h'.HS;have hy:=y1;refine AG rfl rfl (fun K hK=>?_);simp only[KAE,KAB,Pd];go_simp;refine hK.out _ _ ?_;exact⟨AY B 3,_,wv,nv,rv,bs,N,_,_,_,_,_,_,_,_,_,_,_,_,_,_,_,_,_,_,_,_,_,_,_,_,_,_,_,_,_,_,rfl,rfl,{ h' with HM:=h'.HM.one hbi rfl (r:=Bk [] (.slice (some ⟨w3.heap.size,0,none⟩) 0 0)) ((AC.refl w3).alloc _) (KAo w3 #[] 0 hsz (by decide) rfl) (fun q hq=>KBP (KAI hq)),F3:=(fun _=>⟨⟨_,rfl⟩,fun _=>rfl⟩),F6:=(fun q=>absurd (h'.F6 q).1 (by rw[hbi];simp)),HK:=h'.HK.trans ((AC.refl w3).alloc _),HS:=KAU h'.HS ((AC.refl w3).alloc _).size,HB:=(KAW ((AC.refl w3).alloc _) w.heap.size (by omega)).trans h'.HB,HZ:=(fun q=>(KAW ((AC.refl w3).alloc _) (w.heap.size+1) (by omega)).trans (h'.HZ q)),F29:=(fun q=>absurd (h'.F6 ((h'.F29 q).1.2.1)).1 (by rw[hbi];simp)),F30:=(fun q=>absurd (h'.F6 ((h'.F29 (h'.F30 q).1).1.2.1)).1 (by rw[hbi];simp)) }⟩
  ·
   have hbi:B 4=false:=by simpa using (AE hi).2.1
   refine AG rfl rfl (fun K hK=>?_);simp only[KAE,KAB,Pd];go_simp;refine hK.out _ _ ?_;exact⟨AY B 4,R,wv,nv,rv,bs,N,_,_,_,_,_,_,_,_,_,_,_,_,_,_,_,_,_,_,_,_,_,_,_,_,_,_,_,_,_,_,rfl,rfl,{ h' with F4:=(fun _=>rfl),HM:=h'.HM.pass (by decide) }⟩
  ·
   have hbi:B 5=false:=by simpa using (AE hi).2.1
   have d4:B 4=true:=AH hi 4 rfl (by kernel_rfl);have dc:w3.cell? ⟨w.heap.size,1,none⟩=some (.slice aP b.AM.length cP):=by rw[KAL w3 _ 1 _ _ _ h'.HB];rfl
   have Ex:=AI (h'.F4 d4);rw[Ex.out];refine AG rfl rfl (fun K hK=>?_);simp only[KAE,KAB,Pd];go_simp;refine hK.out _ _ ?_;have ex:=Ex.out;subst ex;exact⟨AY B 5,R,wv,nv,rv,bs,N,_,_,_,_,_,_,_,_,_,_,_,_,_,_,_,_,_,_,_,_,_,_,_,_,_,_,_,_,_,_,rfl,rfl,{ h' with F5:=(fun _=>rfl),HM:=h'.HM.pass (by decide) }⟩
  ·
   have hbi:B 6=false:=by simpa using (AE hi).2.1
   have d3:B 3=true:=AH hi 3 rfl (by kernel_rfl);have d5:B 5=true:=AH hi 5 rfl (by kernel_rfl);have hsz:=h'.HS;have hy:=y1;have lv:Cd [3,7,13,14,18,22,28] (Lx b) B (3,0):=⟨by decide,d3,by show 0<1;omega⟩;have er:=(h'.F3 d3).2 hbi;have ow:A8 w3 w1.heap.size x6 []:=by have:=h'.HM.Ag.own (3,0) lv;rw[er] at this;exact this
   have hge:=ow.ge;obtain⟨⟨g0,eg⟩,-⟩:=h'.F3 d3;have Ex:=AI (h'.F5 d5);rw[Ex.out];refine AG rfl rfl (fun K hK=>?_);simp only[KAE,KAB,Pd];refine C8 _ _ rfl w1.heap.size x6 [] rfl ow _ rfl b.AM (h.P.keep h'.HK) (by simp) (by omega) hsz ?_;intro vz wz oz gz bz;simp only[Act.put,KAR,KAa,KAc];refine hK.out _ _ ?_;have ex:=Ex.out;subst ex;rw[KBz] at oz;obtain⟨az,cz,ez,-⟩:=oz.rd;exact⟨AY B 6,_,wv,nv,rv,bs,N,_,_,_,_,_,_,_,_,_,_,_,_,_,_,_,_,_,_,_,_,_,_,_,_,_,_,_,_,_,_,rfl,rfl,{ h' with F29:=(fun q=>absurd (h'.F29 q).1.2.1 (by rw[hbi];simp)),F30:=(fun q=>absurd (h'.F29 (h'.F30 q).1).1.2.1 (by rw[hbi];simp)),HM:=h'.HM.grow (by decide) rfl lv (r:=Bk b.AM vz) (by rw[er];exact gz) (by rw[er];exact bz) oz,HK:=h'.HK.grown gz (fun q hq=>by have:=hge q hq;omega),HS:=KAU h'.HS gz.size,HB:=(gz.block w.heap.size (by omega) (fun e=>by have:=hge _ e.symm;omega)).trans h'.HB,HZ:=(fun q=>(gz.block (w.heap.size+1) (by omega) (fun e=>by have:=hge _ e.symm;omega)).trans (h'.HZ q)),F3:=(fun _=>⟨⟨g0,eg⟩,fun q=>by cases q⟩),F6:=(fun _=>⟨d3,⟨az,cz,ez⟩,rfl⟩) }⟩
  ·
   have hbi:B 7=false:=by simpa using (AE hi).2.1
   have hsz:=h'.HS;have hy:=y1;refine AG rfl rfl (fun K hK=>?_);simp only[KAE,KAB,Pd];go_simp;refine hK.out _ _ ?_;exact⟨AY B 7,_,wv,nv,rv,bs,N,_,_,_,_,_,_,_,_,_,_,_,_,_,_,_,_,_,_,_,_,_,_,_,_,_,_,_,_,_,_,rfl,rfl,{ h' with HM:=h'.HM.one hbi rfl (r:=Bk [] (.slice (some ⟨w3.heap.size,0,none⟩) 0 0)) ((AC.refl w3).alloc _) (KAo w3 #[] 0 hsz (by decide) rfl) (fun q hq=>KBP (KAI hq)),F7:=(fun _=>⟨⟨_,rfl⟩,fun _=>rfl⟩),F10:=(fun q=>absurd (h'.F10 q).1 (by rw[hbi];simp)),HK:=h'.HK.trans ((AC.refl w3).alloc _),HS:=KAU h'.HS ((AC.refl w3).alloc _).size,HB:=(KAW ((AC.refl w3).alloc _) w.heap.size (by omega)).trans h'.HB,HZ:=(fun q=>(KAW ((AC.refl w3).alloc _) (w.heap.size+1) (by omega)).trans (h'.HZ q)),F29:=(fun q=>absurd (h'.F10 ((h'.F29 q).1.2.2.1)).1 (by rw[hbi];simp)),F30:=(fun q=>absurd (h'.F10 ((h'.F29 (h'.F30 q).1).1.2.2.1)).1 (by rw[hbi];simp)) }⟩
  ·
   have hbi:B 8=false:=by simpa using (AE hi).2.1
   refine AG rfl rfl (fun K hK=>?_);simp only[KAE,KAB,Pd];go_simp;refine hK.out _ _ ?_;exact⟨AY B 8,R,wv,nv,rv,bs,N,_,_,_,_,_,_,_,_,_,_,_,_,_,_,_,_,_,_,_,_,_,_,_,_,_,_,_,_,_,_,rfl,rfl,{ h' with F8:=(fun _=>rfl),HM:=h'.HM.pass (by decide) }⟩
  ·
   have hbi:B 9=false:=by simpa using (AE hi).2.1
   have d8:B 8=true:=AH hi 8 rfl (by kernel_rfl);have dc:w3.cell? ⟨w.heap.size,2,none⟩=some (.slice aL b.AQ.length cL):=by rw[KAL w3 _ 2 _ _ _ h'.HB];rfl
   have Ex:=AI (h'.F8 d8);rw[Ex.out];refine AG rfl rfl (fun K hK=>?_);simp only[KAE,KAB,Pd];go_simp;refine hK.out _ _ ?_;have ex:=Ex.out;subst ex;exact⟨AY B 9,R,wv,nv,rv,bs,N,_,_,_,_,_,_,_,_,_,_,_,_,_,_,_,_,_,_,_,_,_,_,_,_,_,_,_,_,_,_,rfl,rfl,{ h' with F9:=(fun _=>rfl),HM:=h'.HM.pass (by decide) }⟩
  ·
   have hbi:B 10=false:=by simpa using (AE hi).2.1
   have d7:B 7=true:=AH hi 7 rfl (by kernel_rfl);have d9:B 9=true:=AH hi 9 rfl (by kernel_rfl);have hsz:=h'.HS;have hy:=y1;have lv:Cd [3,7,13,14,18,22,28] (Lx b) B (7,0):=⟨by decide,d7,by show 0<1;omega⟩;have er:=(h'.F7 d7).2 hbi;have ow:A8 w3 w1.heap.size x10 []:=by have:=h'.HM.Ag.own (7,0) lv;rw[er] at this;exact this
   have hge:=ow.ge;obtain⟨⟨g0,eg⟩,-⟩:=h'.F7 d7;have Ex:=AI (h'.F9 d9);rw[Ex.out];refine AG rfl rfl (fun K hK=>?_);simp only[KAE,KAB,Pd];refine C8 _ _ rfl w1.heap.size x10 [] rfl ow _ rfl b.AQ (h.L.keep h'.HK) (by simp) (by omega) hsz ?_;intro vz wz oz gz bz;simp only[Act.put,KAR,KAa,KAc];refine hK.out _ _ ?_;have ex:=Ex.out;subst ex;rw[KBz] at oz;obtain⟨az,cz,ez,-⟩:=oz.rd;exact⟨AY B 10,_,wv,nv,rv,bs,N,_,_,_,_,_,_,_,_,_,_,_,_,_,_,_,_,_,_,_,_,_,_,_,_,_,_,_,_,_,_,rfl,rfl,{ h' with F29:=(fun q=>absurd (h'.F29 q).1.2.2.1 (by rw[hbi];simp)),F30:=(fun q=>absurd (h'.F29 (h'.F30 q).1).1.2.2.1 (by rw[hbi];simp)),HM:=h'.HM.grow (by decide) rfl lv (r:=Bk b.AQ vz) (by rw[er];exact gz) (by rw[er];exact bz) oz,HK:=h'.HK.grown gz (fun q hq=>by have:=hge q hq;omega),HS:=KAU h'.HS gz.size,HB:=(gz.block w.heap.size (by omega) (fun e=>by have:=hge _ e.symm;omega)).trans h'.HB,HZ:=(fun q=>(gz.block (w.heap.size+1) (by omega) (fun e=>by have:=hge _ e.symm;omega)).trans (h'.HZ q)),F7:=(fun _=>⟨⟨g0,eg⟩,fun q=>by cases q⟩),F10:=(fun _=>⟨d7,⟨az,cz,ez⟩,rfl⟩) }⟩
  ·
   have hbi:B 11=false:=by simpa using (AE hi).2.1
   refine AG rfl rfl (fun K hK=>?_);simp only[KAE,KAB,Pd];go_simp;refine hK.out _ _ ?_;exact⟨AY B 11,R,wv,nv,rv,bs,N,_,_,_,_,_,_,_,_,_,_,_,_,_,_,_,_,_,_,_,_,_,_,_,_,_,_,_,_,_,_,rfl,rfl,{ h' with F11:=(fun _=>rfl),HM:=h'.HM.pass (by decide) }⟩
  ·
   have hbi:B 12=false:=by simpa using (AE hi).2.1
   have d11:B 11=true:=AH hi 11 rfl (by kernel_rfl);have dc:w3.cell? ⟨w.heap.size,3,none⟩=some (.slice aN b.AJ.length cQ):=by rw[KAL w3 _ 3 _ _ _ h'.HB];rfl
   have Ex:=AI (h'.F11 d11);rw[Ex.out];refine AG rfl rfl (fun K hK=>?_);simp only[KAE,KAB,Pd];go_simp;refine hK.out _ _ ?_;have ex:=Ex.out;subst ex;exact⟨AY B 12,R,wv,nv,rv,bs,N,_,_,_,_,_,_,_,_,_,_,_,_,_,_,_,_,_,_,_,_,_,_,_,_,_,_,_,_,_,_,rfl,rfl,{ h' with F12:=(fun _=>rfl),HM:=h'.HM.pass (by decide) }⟩
  ·
   have hbi:B 13=false:=by simpa using (AE hi).2.1
   have d12:B 12=true:=AH hi 12 rfl (by kernel_rfl);have hsz:=h'.HS;have hy:=y1;have Ex:=AI (h'.F12 d12);rw[Ex.out];refine AG rfl rfl (fun K hK=>?_);simp only[KAE,KAB,Pd];go_simp;refine (SQ _ _ _ (h.N.keep h'.HK) (by omega) hln).mono ?_;rintro e wz ⟨vz,hs,rfl,oz,kk⟩;go_wp2_with fail
   refine hK.out _ _ ?_;have ex:=Ex.out;subst ex;obtain⟨az,cz,ez,-⟩:=Bu (oz.Ag.own none trivial);rw[oz.len] at ez;exact⟨AY B 13,_,wv,hs,rv,bs,N,_,_,_,_,_,_,_,_,_,_,_,_,_,_,_,_,_,_,_,_,_,_,_,_,_,_,_,_,_,_,rfl,rfl,{ h' with F29:=(fun q=>absurd (h'.F29 q).1.2.2.2.1 (by rw[hbi];simp)),F30:=(fun q=>absurd (h'.F29 (h'.F30 q).1).1.2.2.2.1 (by rw[hbi];simp)),HM:=h'.HM.lg hbi rfl kk hsz oz,F13:=(fun _=>⟨⟨az,cz,ez⟩,oz.len,rfl,fun _=>rfl⟩),HK:=h'.HK.trans kk,HS:=KAU h'.HS kk.size,HB:=(KAW kk w.heap.size (by omega)).trans h'.HB,HZ:=(fun q=>(KAW kk (w.heap.size+1) (by omega)).trans (h'.HZ q)) }⟩
  ·
   have hbi:B 14=false:=by simpa using (AE hi).2.1
   have hsz:=h'.HS;have hy:=y1;refine AG rfl rfl (fun K hK=>?_);simp only[KAE,KAB,Pd];go_simp;refine hK.out _ _ ?_;exact⟨AY B 14,_,wv,nv,rv,bs,N,_,_,_,_,_,_,_,_,_,_,_,_,_,_,_,_,_,_,_,_,_,_,_,_,_,_,_,_,_,_,rfl,rfl,{ h' with HM:=h'.HM.one hbi rfl (r:=Bk [] (.slice (some ⟨w3.heap.size,0,none⟩) 0 0)) ((AC.refl w3).alloc _) (KAo w3 #[] 0 hsz (by decide) rfl) (fun q hq=>KBP (KAI hq)),F14:=(fun _=>⟨⟨_,rfl⟩,fun _=>rfl⟩),F17:=(fun q=>absurd (h'.F17 q).1 (by rw[hbi];simp)),HK:=h'.HK.trans ((AC.refl w3).alloc _),HS:=KAU h'.HS ((AC.refl w3).alloc _).size,HB:=(KAW ((AC.refl w3).alloc _) w.heap.size (by omega)).trans h'.HB,HZ:=(fun q=>(KAW ((AC.refl w3).alloc _) (w.heap.size+1) (by omega)).trans (h'.HZ q)),F29:=(fun q=>absurd (h'.F17 ((h'.F29 q).1.2.2.2.2.1)).1 (by rw[hbi];simp)),F30:=(fun q=>absurd (h'.F17 ((h'.F29 (h'.F30 q).1).1.2.2.2.2.1)).1 (by rw[hbi];simp)) }⟩
  ·
   have hbi:B 15=false:=by simpa using (AE hi).2.1
   refine AG rfl rfl (fun K hK=>?_);simp only[KAE,KAB,Pd];go_simp;refine hK.out _ _ ?_;exact⟨AY B 15,R,wv,nv,rv,bs,N,_,_,_,_,_,_,_,_,_,_,_,_,_,_,_,_,_,_,_,_,_,_,_,_,_,_,_,_,_,_,rfl,rfl,{ h' with F15:=(fun _=>rfl),HM:=h'.HM.pass (by decide) }⟩
  ·
   have hbi:B 16=false:=by simpa using (AE hi).2.1
   have d15:B 15=true:=AH hi 15 rfl (by kernel_rfl);have dc:w3.cell? ⟨w.heap.size,4,none⟩=some (.slice aX b.AK.length cX):=by rw[KAL w3 _ 4 _ _ _ h'.HB];rfl
   have Ex:=AI (h'.F15 d15);rw[Ex.out];refine AG rfl rfl (fun K hK=>?_);simp only[KAE,KAB,Pd];go_simp;refine hK.out _ _ ?_;have ex:=Ex.out;subst ex;exact⟨AY B 16,R,wv,nv,rv,bs,N,_,_,_,_,_,_,_,_,_,_,_,_,_,_,_,_,_,_,_,_,_,_,_,_,_,_,_,_,_,_,rfl,rfl,{ h' with F16:=(fun _=>rfl),HM:=h'.HM.pass (by decide) }⟩
  ·
   have hbi:B 17=false:=by simpa using (AE hi).2.1
   have d14:B 14=true:=AH hi 14 rfl (by kernel_rfl);have d16:B 16=true:=AH hi 16 rfl (by kernel_rfl);have hsz:=h'.HS;have hy:=y1;have lv:Cd [3,7,13,14,18,22,28] (Lx b) B (14,0):=⟨by decide,d14,by show 0<1;omega⟩;have er:=(h'.F14 d14).2 hbi;have ow:A8 w3 w1.heap.size x17 []:=by have:=h'.HM.Ag.own (14,0) lv;rw[er] at this;exact this
   have hge:=ow.ge;obtain⟨⟨g0,eg⟩,-⟩:=h'.F14 d14;have Ex:=AI (h'.F16 d16);rw[Ex.out];refine AG rfl rfl (fun K hK=>?_);simp only[KAE,KAB,Pd];refine C8 _ _ rfl w1.heap.size x17 [] rfl ow _ rfl b.AK (h.X.keep h'.HK) (by simp) (by omega) hsz ?_;intro vz wz oz gz bz;simp only[Act.put,KAR,KAa,KAc];refine hK.out _ _ ?_;have ex:=Ex.out;subst ex;rw[KBz] at oz;obtain⟨az,cz,ez,-⟩:=oz.rd;exact⟨AY B 17,_,wv,nv,rv,bs,N,_,_,_,_,_,_,_,_,_,_,_,_,_,_,_,_,_,_,_,_,_,_,_,_,_,_,_,_,_,_,rfl,rfl,{ h' with F29:=(fun q=>absurd (h'.F29 q).1.2.2.2.2.1 (by rw[hbi];simp)),F30:=(fun q=>absurd (h'.F29 (h'.F30 q).1).1.2.2.2.2.1 (by rw[hbi];simp)),HM:=h'.HM.grow (by decide) rfl lv (r:=Bk b.AK vz) (by rw[er];exact gz) (by rw[er];exact bz) oz,HK:=h'.HK.grown gz (fun q hq=>by have:=hge q hq;omega),HS:=KAU h'.HS gz.size,HB:=(gz.block w.heap.size (by omega) (fun e=>by have:=hge _ e.symm;omega)).trans h'.HB,HZ:=(fun q=>(gz.block (w.heap.size+1) (by omega) (fun e=>by have:=hge _ e.symm;omega)).trans (h'.HZ q)),F14:=(fun _=>⟨⟨g0,eg⟩,fun q=>by cases q⟩),F17:=(fun _=>⟨d14,⟨az,cz,ez⟩,rfl⟩) }⟩
  ·
   have hbi:B 18=false:=by simpa using (AE hi).2.1
   have hsz:=h'.HS;have hy:=y1;refine AG rfl rfl (fun K hK=>?_);simp only[KAE,KAB,Pd];go_simp;refine hK.out _ _ ?_;exact⟨AY B 18,_,wv,nv,rv,bs,N,_,_,_,_,_,_,_,_,_,_,_,_,_,_,_,_,_,_,_,_,_,_,_,_,_,_,_,_,_,_,rfl,rfl,{ h' with HM:=h'.HM.one hbi rfl (r:=Bk [] (.slice (some ⟨w3.heap.size,0,none⟩) 0 0)) ((AC.refl w3).alloc _) (KAo w3 #[] 0 hsz (by decide) rfl) (fun q hq=>KBP (KAI hq)),F18:=(fun _=>⟨⟨_,rfl⟩,fun _=>rfl⟩),F21:=(fun q=>absurd (h'.F21 q).1 (by rw[hbi];simp)),HK:=h'.HK.trans ((AC.refl w3).alloc _),HS:=KAU h'.HS ((AC.refl w3).alloc _).size,HB:=(KAW ((AC.refl w3).alloc _) w.heap.size (by omega)).trans h'.HB,HZ:=(fun q=>(KAW ((AC.refl w3).alloc _) (w.heap.size+1) (by omega)).trans (h'.HZ q)),F29:=(fun q=>absurd (h'.F21 ((h'.F29 q).1.2.2.2.2.2.1)).1 (by rw[hbi];simp)),F30:=(fun q=>absurd (h'.F21 ((h'.F29 (h'.F30 q).1).1.2.2.2.2.2.1)).1 (by rw[hbi];simp)) }⟩
  ·
   have hbi:B 19=false:=by simpa using (AE hi).2.1
   refine AG rfl rfl (fun K hK=>?_);simp only[KAE,KAB,Pd];go_simp;refine hK.out _ _ ?_;exact⟨AY B 19,R,wv,nv,rv,bs,N,_,_,_,_,_,_,_,_,_,_,_,_,_,_,_,_,_,_,_,_,_,_,_,_,_,_,_,_,_,_,rfl,rfl,{ h' with F19:=(fun _=>rfl),HM:=h'.HM.pass (by decide) }⟩
  ·
   have hbi:B 20=false:=by simpa using (AE hi).2.1
   have d19:B 19=true:=AH hi 19 rfl (by kernel_rfl);have dc:w3.cell? ⟨w.heap.size,5,none⟩=some (.slice aT b.sn.length cT):=by rw[KAL w3 _ 5 _ _ _ h'.HB];rfl
   have Ex:=AI (h'.F19 d19);rw[Ex.out];refine AG rfl rfl (fun K hK=>?_);simp only[KAE,KAB,Pd];go_simp;refine hK.out _ _ ?_;have ex:=Ex.out;subst ex;exact⟨AY B 20,R,wv,nv,rv,bs,N,_,_,_,_,_,_,_,_,_,_,_,_,_,_,_,_,_,_,_,_,_,_,_,_,_,_,_,_,_,_,rfl,rfl,{ h' with F20:=(fun _=>rfl),HM:=h'.HM.pass (by decide) }⟩
  ·
   have hbi:B 21=false:=by simpa using (AE hi).2.1
   have d18:B 18=true:=AH hi 18 rfl (by kernel_rfl);have d20:B 20=true:=AH hi 20 rfl (by kernel_rfl);have hsz:=h'.HS;have hy:=y1;have lv:Cd [3,7,13,14,18,22,28] (Lx b) B (18,0):=⟨by decide,d18,by show 0<1;omega⟩;have er:=(h'.F18 d18).2 hbi;have ow:A8 w3 w1.heap.size x21 []:=by have:=h'.HM.Ag.own (18,0) lv;rw[er] at this;exact this
   have hge:=ow.ge;obtain⟨⟨g0,eg⟩,-⟩:=h'.F18 d18;have Ex:=AI (h'.F20 d20);rw[Ex.out];refine AG rfl rfl (fun K hK=>?_);simp only[KAE,KAB,Pd];refine C8 _ _ rfl w1.heap.size x21 [] rfl ow _ rfl b.sn (h.S.keep h'.HK) (by simp) (by omega) hsz ?_;intro vz wz oz gz bz;simp only[Act.put,KAR,KAa,KAc];refine hK.out _ _ ?_;have ex:=Ex.out;subst ex;rw[KBz] at oz;obtain⟨az,cz,ez,-⟩:=oz.rd;exact⟨AY B 21,_,wv,nv,rv,bs,N,_,_,_,_,_,_,_,_,_,_,_,_,_,_,_,_,_,_,_,_,_,_,_,_,_,_,_,_,_,_,rfl,rfl,{ h' with F29:=(fun q=>absurd (h'.F29 q).1.2.2.2.2.2.1 (by rw[hbi];simp)),F30:=(fun q=>absurd (h'.F29 (h'.F30 q).1).1.2.2.2.2.2.1 (by rw[hbi];simp)),HM:=h'.HM.grow (by decide) rfl lv (r:=Bk b.sn vz) (by rw[er];exact gz) (by rw[er];exact bz) oz,HK:=h'.HK.grown gz (fun q hq=>by have:=hge q hq;omega),HS:=KAU h'.HS gz.size,HB:=(gz.block w.heap.size (by omega) (fun e=>by have:=hge _ e.symm;omega)).trans h'.HB,HZ:=(fun q=>(gz.block (w.heap.size+1) (by omega) (fun e=>by have:=hge _ e.symm;omega)).trans (h'.HZ q)),F18:=(fun _=>⟨⟨g0,eg⟩,fun q=>by cases q⟩),F21:=(fun _=>⟨d18,⟨az,cz,ez⟩,rfl⟩) }⟩
  ·
   have hbi:B 22=false:=by simpa using (AE hi).2.1
   have hsz:=h'.HS;have hy:=y1;refine AG rfl rfl (fun K hK=>?_);simp only[KAE,KAB,Pd];go_simp;refine hK.out _ _ ?_;exact⟨AY B 22,_,wv,nv,rv,bs,N,_,_,_,_,_,_,_,_,_,_,_,_,_,_,_,_,_,_,_,_,_,_,_,_,_,_,_,_,_,_,rfl,rfl,{ h' with HM:=h'.HM.one hbi rfl (r:=Bk [] (.slice (some ⟨w3.heap.size,0,none⟩) 0 0)) ((AC.refl w3).alloc _) (KAo w3 #[] 0 hsz (by decide) rfl) (fun q hq=>KBP (KAI hq)),F22:=(fun _=>⟨⟨_,rfl⟩,fun _=>rfl⟩),F25:=(fun q=>absurd (h'.F25 q).1 (by rw[hbi];simp)),HK:=h'.HK.trans ((AC.refl w3).alloc _),HS:=KAU h'.HS ((AC.refl w3).alloc _).size,HB:=(KAW ((AC.refl w3).alloc _) w.heap.size (by omega)).trans h'.HB,HZ:=(fun q=>(KAW ((AC.refl w3).alloc _) (w.heap.size+1) (by omega)).trans (h'.HZ q)),F29:=(fun q=>absurd (h'.F25 ((h'.F29 q).1.2.2.2.2.2.2.1)).1 (by rw[hbi];simp)),F30:=(fun q=>absurd (h'.F25 ((h'.F29 (h'.F30 q).1).1.2.2.2.2.2.2.1)).1 (by rw[hbi];simp)) }⟩
  ·
   have hbi:B 23=false:=by simpa using (AE hi).2.1
   refine AG rfl rfl (fun K hK=>?_);simp only[KAE,KAB,Pd];go_simp;refine hK.out _ _ ?_;exact⟨AY B 23,R,wv,nv,rv,bs,N,_,_,_,_,_,_,_,_,_,_,_,_,_,_,_,_,_,_,_,_,_,_,_,_,_,_,_,_,_,_,rfl,rfl,{ h' with F23:=(fun _=>rfl),HM:=h'.HM.pass (by decide) }⟩
  ·
   have hbi:B 24=false:=by simpa using (AE hi).2.1
   have d23:B 23=true:=AH hi 23 rfl (by kernel_rfl);have dc:w3.cell? ⟨w.heap.size,6,none⟩=some (.slice aF b.fr.length cF):=by rw[KAL w3 _ 6 _ _ _ h'.HB];rfl
   have Ex:=AI (h'.F23 d23);rw[Ex.out];refine AG rfl rfl (fun K hK=>?_);simp only[KAE,KAB,Pd];go_simp;refine hK.out _ _ ?_;have ex:=Ex.out;subst ex;exact⟨AY B 24,R,wv,nv,rv,bs,N,_,_,_,_,_,_,_,_,_,_,_,_,_,_,_,_,_,_,_,_,_,_,_,_,_,_,_,_,_,_,rfl,rfl,{ h' with F24:=(fun _=>rfl),HM:=h'.HM.pass (by decide) }⟩
  ·
   have hbi:B 25=false:=by simpa using (AE hi).2.1
   have d22:B 22=true:=AH hi 22 rfl (by kernel_rfl);have d24:B 24=true:=AH hi 24 rfl (by kernel_rfl);have hsz:=h'.HS;have hy:=y1;have lv:Cd [3,7,13,14,18,22,28] (Lx b) B (22,0):=⟨by decide,d22,by show 0<1;omega⟩;have er:=(h'.F22 d22).2 hbi;have ow:A8 w3 w1.heap.size x25 []:=by have:=h'.HM.Ag.own (22,0) lv;rw[er] at this;exact this
   have hge:=ow.ge;obtain⟨⟨g0,eg⟩,-⟩:=h'.F22 d22;have Ex:=AI (h'.F24 d24);rw[Ex.out];refine AG rfl rfl (fun K hK=>?_);simp only[KAE,KAB,Pd];refine C8 _ _ rfl w1.heap.size x25 [] rfl ow _ rfl b.fr (h.F.keep h'.HK) (by simp) (by omega) hsz ?_;intro vz wz oz gz bz;simp only[Act.put,KAR,KAa,KAc];refine hK.out _ _ ?_;have ex:=Ex.out;subst ex;rw[KBz] at oz;obtain⟨az,cz,ez,-⟩:=oz.rd;exact⟨AY B 25,_,wv,nv,rv,bs,N,_,_,_,_,_,_,_,_,_,_,_,_,_,_,_,_,_,_,_,_,_,_,_,_,_,_,_,_,_,_,rfl,rfl,{ h' with F29:=(fun q=>absurd (h'.F29 q).1.2.2.2.2.2.2.1 (by rw[hbi];simp)),F30:=(fun q=>absurd (h'.F29 (h'.F30 q).1).1.2.2.2.2.2.2.1 (by rw[hbi];simp)),HM:=h'.HM.grow (by decide) rfl lv (r:=Bk b.fr vz) (by rw[er];exact gz) (by rw[er];exact bz) oz,HK:=h'.HK.grown gz (fun q hq=>by have:=hge q hq;omega),HS:=KAU h'.HS gz.size,HB:=(gz.block w.heap.size (by omega) (fun e=>by have:=hge _ e.symm;omega)).trans h'.HB,HZ:=(fun q=>(gz.block (w.heap.size+1) (by omega) (fun e=>by have:=hge _ e.symm;omega)).trans (h'.HZ q)),F22:=(fun _=>⟨⟨g0,eg⟩,fun q=>by cases q⟩),F25:=(fun _=>⟨d22,⟨az,cz,ez⟩,rfl⟩) }⟩
  ·
   have hbi:B 26=false:=by simpa using (AE hi).2.1
   refine AG rfl rfl (fun K hK=>?_);simp only[KAE,KAB,Pd];go_simp;refine hK.out _ _ ?_;exact⟨AY B 26,R,wv,nv,rv,bs,N,_,_,_,_,_,_,_,_,_,_,_,_,_,_,_,_,_,_,_,_,_,_,_,_,_,_,_,_,_,_,rfl,rfl,{ h' with F26:=(fun _=>rfl),HM:=h'.HM.pass (by decide) }⟩
  ·
   have hbi:B 27=false:=by simpa using (AE hi).2.1
   have d26:B 26=true:=AH hi 26 rfl (by kernel_rfl);have dc:w3.cell? ⟨w.heap.size,7,none⟩=some (.slice aR b.rws.length cR):=by rw[KAL w3 _ 7 _ _ _ h'.HB];rfl
   have Ex:=AI (h'.F26 d26);rw[Ex.out];refine AG rfl rfl (fun K hK=>?_);simp only[KAE,KAB,Pd];go_simp;refine hK.out _ _ ?_;have ex:=Ex.out;subst ex;exact⟨AY B 27,R,wv,nv,rv,bs,N,_,_,_,_,_,_,_,_,_,_,_,_,_,_,_,_,_,_,_,_,_,_,_,_,_,_,_,_,_,_,rfl,rfl,{ h' with F27:=(fun _=>rfl),HM:=h'.HM.pass (by decide) }⟩
  ·
   have hbi:B 28=false:=by simpa using (AE hi).2.1
   have d27:B 27=true:=AH hi 27 rfl (by kernel_rfl);have hsz:=h'.HS;have hy:=y1;have Ex:=AI (h'.F27 d27);rw[Ex.out];refine AG rfl rfl (fun K hK=>?_);simp only[KAE,KAB,Pd];go_simp;refine (SP _ _ _ (h.R.keep h'.HK) (by omega) hlr).mono ?_;rintro e wz ⟨vz,hs,rfl,oz,kk⟩;go_wp2_with fail
   refine hK.out _ _ ?_;have ex:=Ex.out;subst ex;obtain⟨az,cz,ez,-⟩:=Bu (oz.Ag.own none trivial);rw[oz.len] at ez;exact⟨AY B 28,_,wv,nv,hs,bs,N,_,_,_,_,_,_,_,_,_,_,_,_,_,_,_,_,_,_,_,_,_,_,_,_,_,_,_,_,_,_,rfl,rfl,{ h' with F29:=(fun q=>absurd (h'.F29 q).1.2.2.2.2.2.2.2 (by rw[hbi];simp)),F30:=(fun q=>absurd (h'.F29 (h'.F30 q).1).1.2.2.2.2.2.2.2 (by rw[hbi];simp)),HM:=h'.HM.lg hbi rfl kk hsz oz,F28:=(fun _=>⟨⟨az,cz,ez⟩,oz.len,rfl,fun _=>rfl⟩),HK:=h'.HK.trans kk,HS:=KAU h'.HS kk.size,HB:=(KAW kk w.heap.size (by omega)).trans h'.HB,HZ:=(fun q=>(KAW kk (w.heap.size+1) (by omega)).trans (h'.HZ q)) }⟩
  ·
   have hbi:B 29=false:=by simpa using (AE hi).2.1
   have d2:B 2=true:=AH hi 2 rfl (by kernel_rfl);have d6:B 6=true:=AH hi 6 rfl (by kernel_rfl);have d10:B 10=true:=AH hi 10 rfl (by kernel_rfl);have d13:B 13=true:=AH hi 13 rfl (by kernel_rfl);have d17:B 17=true:=AH hi 17 rfl (by kernel_rfl);have d21:B 21=true:=AH hi 21 rfl (by kernel_rfl);have d25:B 25=true:=AH hi 25 rfl (by kernel_rfl);have d28:B 28=true:=AH hi 28 rfl (by kernel_rfl);obtain⟨a2,c2,e2⟩:=h'.F2 d2;obtain⟨-,⟨a6,c6,e6⟩,-⟩:=h'.F6 d6;obtain⟨-,⟨a10,c10,e10⟩,-⟩:=h'.F10 d10;obtain⟨⟨a13,c13,e13⟩,-⟩:=h'.F13 d13;obtain⟨-,⟨a17,c17,e17⟩,-⟩:=h'.F17 d17;obtain⟨-,⟨a21,c21,e21⟩,-⟩:=h'.F21 d21;obtain⟨-,⟨a25,c25,e25⟩,-⟩:=h'.F25 d25;obtain⟨⟨a28,c28,e28⟩,-⟩:=h'.F28 d28;have Ep2:=AI (e2);rw[Ep2.out];have Ep6:=AI (e6);rw[Ep6.out];have rU:=AI (e10);rw[rU.out];have rX:=AI (e13);rw[rX.out];have Yk:=AI (e17);rw[Yk.out];have rZ:=AI (e21);rw[rZ.out];have rf:=AI (e25);rw[rf.out];have rq:=AI (e28);rw[rq.out];refine AG rfl rfl (fun K hK=>?_);simp only[KAE,KAB,Pd];clear e2 e6 e10 e13 e17 e21 e25 e28;go_simp;refine hK.out _ _ ?_;have ep2:=Ep2.out;subst ep2;have ep6:=Ep6.out;subst ep6;have ep10:=rU.out;subst ep10;have ep13:=rX.out;subst ep13;have ep17:=Yk.out;subst ep17;have ep21:=rZ.out;subst ep21;have ep25:=rf.out;subst ep25;have ep28:=rq.out;subst ep28;exact⟨AY B 29,R,wv,nv,rv,bs,N,_,_,_,_,_,_,_,_,_,_,_,_,_,_,_,_,_,_,_,_,_,_,_,_,_,_,_,_,_,_,rfl,rfl,{ h' with F29:=(fun _=>⟨⟨d2,d6,d10,d13,d17,d21,d25,d28⟩,rfl⟩),F30:=(fun q=>absurd (h'.F30 q).1 (by rw[hbi];simp)),HM:=h'.HM.pass (by decide) }⟩
  ·
   have hbi:B 30=false:=by simpa using (AE hi).2.1
   have d29:B 29=true:=AH hi 29 rfl (by kernel_rfl);have hsz:=h'.HS;have hy:=y1;obtain⟨dd,e32⟩:=h'.F29 d29;have hz0:=h'.HZ hbi;obtain⟨a2,c2,e2⟩:=h'.F2 dd.1;obtain⟨-,⟨a6,c6,e6⟩,-⟩:=h'.F6 dd.2.1;obtain⟨-,⟨a10,c10,e10⟩,-⟩:=h'.F10 dd.2.2.1;obtain⟨⟨a13,c13,e13⟩,-⟩:=h'.F13 dd.2.2.2.1;obtain⟨-,⟨a17,c17,e17⟩,-⟩:=h'.F17 dd.2.2.2.2.1;obtain⟨-,⟨a21,c21,e21⟩,-⟩:=h'.F21 dd.2.2.2.2.2.1;obtain⟨-,⟨a25,c25,e25⟩,-⟩:=h'.F25 dd.2.2.2.2.2.2.1;obtain⟨⟨a28,c28,e28⟩,-⟩:=h'.F28 dd.2.2.2.2.2.2.2;have hone:(#[x5,x9,x13,x16,x20,x24,x28,x31]:Array Value).all (·.oneCell')=true:=by rw[e2,e6,e10,e13,e17,e21,e25,e28];simp[Value.oneCell']
   clear e2 e6 e10 e13 e17 e21 e25 e28;have gg:=As w3 (w.heap.size+1) #[x5,x9,x13,x16,x20,x24,x28,x31];have hh:=KBs w3 (w.heap.size+1) _ #[x5,x9,x13,x16,x20,x24,x28,x31] _ _ hz0;have Ep:=AI (e32);rw[Ep.out];refine AG rfl rfl (fun K hK=>?_);simp only[KAE,KAB,Pd];clear e32;refine wp_store_row 103 _ _ rfl (w.heap.size+1) _ rfl rfl 103 _ hz0 AR rfl hone ?_;refine hK.out _ _ ?_;have ep:=Ep.out;subst ep;exact⟨AY B 30,R,wv,nv,rv,bs,N,_,_,_,_,_,_,_,_,_,_,_,_,_,_,_,_,_,_,_,_,_,_,_,_,_,_,_,_,_,_,rfl,rfl,{ h' with HM:=h'.HM.far (by decide) gg (by omega),HK:=h'.HK.grown gg (fun q hq=>by have:=KAI hq;omega),HS:=KAU h'.HS gg.size,HB:=(gg.block w.heap.size (by omega) (fun e=>by have:=KAI e;omega)).trans h'.HB,HZ:=(fun q=>by cases q),F30:=(fun _=>⟨d29,hh⟩) }⟩
 ·
  rintro listed a w3 ⟨B,R,wv,nv,rv,bs,N,x3,x4,x5,x6,x7,x8,x9,x10,x11,x12,x13,x14,x15,x16,x17,x18,x19,x20,x21,x22,x23,x24,x25,x26,x27,x28,x29,x30,x31,x32,rfl,rfl,h'⟩ hr;have hall:=Dx hr rfl (by kernel_rfl);have b2:B 2=true:=hall 2 (by simp);have b3:B 3=true:=hall 3 (by simp);have b6:B 6=true:=hall 6 (by simp);have b7:B 7=true:=hall 7 (by simp);have b10:B 10=true:=hall 10 (by simp);have b13:B 13=true:=hall 13 (by simp);have b14:B 14=true:=hall 14 (by simp);have b17:B 17=true:=hall 17 (by simp);have b18:B 18=true:=hall 18 (by simp);have b21:B 21=true:=hall 21 (by simp);have b22:B 22=true:=hall 22 (by simp);have b25:B 25=true:=hall 25 (by simp);have b28:B 28=true:=hall 28 (by simp);have b30:B 30=true:=hall 30 (by simp);clear hall;obtain⟨HM,HK,HS,HB,HZ,F3,F4,F5,F6,F7,F8,F9,F10,F14,F15,F16,F17,F18,F19,F20,F21,F22,F23,F24,F25,F0,F1,F2,F11,F12,F13,F26,F27,F28,F29,F30⟩:=h';clear hr;have HV:=iV (by rw[b2] at HM;exact HM) b3 b7 b13 b14 b18 b22 b28 (F6 b6).2.2 (F10 b10).2.2 (F13 b13).2.1 (F13 b13).2.2.1 (F13 b13).2.2.2 (F17 b17).2.2 (F21 b21).2.2 (F25 b25).2.2 (F28 b28).2.1 (F28 b28).2.2.1 (F28 b28).2.2.2;have HW:=((by rw[b2] at HM;exact HM):J8 w3 w1.heap.size _ R true x5 wv bs N AA).work rfl;have HR:=(F30 b30).2;clear HM HZ HB F3 F4 F5 F6 F7 F8 F9 F10 F14 F15 F16 F17 F18 F19 F20 F21 F22 F23 F24 F25 F0 F1 F2 F11 F12 F13 F26 F27 F28 F29 F30;go_wp2;refine KA7 (Aw (by rfl) _ _ (w.heap.size+1) _ _ (0,0) _ rfl HR Tryz.underlying103 rfl AR) rfl ?_;exact⟨⟨x5,x9,x13,x16,x20,x24,x28,x31⟩,nv,rv,wv,bs,N,rfl,HV.BK (by omega),HW.2.1,KAU (by omega) HW.2.2.2,HK⟩
end Go.Proofs.YtflehmepjhikcaaGreatDoor
