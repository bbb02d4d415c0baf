/- Gathered texts. -/
import Derived.Test.YtgakfkjjkobpiaaGreatMU
import Derived.BigQuiet
import Derived.Deep.Cut
import Derived.RegionTactic
import Derived.Maps.AppendAt
import Derived.Defers
import Derived.Recover
import Derived.Lib.Hide
import Derived.Laws.Rows
set_option maxRecDepth 100000
set_option maxHeartbeats 8000000
namespace Go.Proofs.YtgakfkjjkobpiaaGreat
open Go.ChangeShapes Go.WideShapes Go.ChangeAt Go.RowKit
theorem Xg (w:World)(m:Nat)(v:BV)(nv rv:List Value)(bs N:Nat)(AA:List (List Dd))(b:Bd)(n c:Nat)(h:BA w m v nv rv bs N AA b)(S:EF AA b n)(hn:n<=900)(hm:m<=w.heap.size)(hc:c<AA.length)(h0:0<=b.AL.getD c 0)(hk:Av b c<(AA.getD c []).length)(h3:(An AA c (Av b c)).1=3->b.AH.getD c []=[]):
  Calls Tryz.prog 89 #[v.agg,.int .i64 c] w fun e w'=>e = .returned (.tuple #[])/\∃nv' rv',BA w' m v nv' rv' bs N AA (Aq AA (AB AA) b (c:Int))/\Ak w w' (DY v nv rv) (DY v nv' rv'):=by
 have hd3:AA.length<=3:=(As S.work).1;have xA:=Lib.hid (WK.start S hn hc h0 hk (by omega));obtain⟨T,hT⟩:∃T,T=Aq AA (AB AA) b (c:Int):=⟨_,rfl⟩;obtain⟨g,hg⟩:∃g,g=Bi AA c (Av b c):=⟨_,rfl⟩;rw[<-hT,<-hg] at xA;have h5:=EE S.work hc;have XOK:=Lib.hid (B7 S.work hc);have lX:c<b.AL.length:=by rw[S.AL];exact hc
 have XS:=Lib.hid S;obtain⟨aW,aP,aL,aN,aX,aS,aF,aR,cW,cP,cL,cQ,cX,cS,cF,cR,rfl⟩:=h.rd0.shapes;have O1:=h.box hm;obtain⟨gx,cx,ex,-⟩:=O1.oX.lit lX;simp only[Value.slice.injEq] at ex;obtain⟨rfl,-,rfl⟩:=ex;obtain⟨a',c',ew,hW⟩:=O1.rd.W;simp only[Value.slice.injEq] at ew;obtain⟨rfl,-,rfl⟩:=ew;rcases hW with q|⟨bw,ow,rfl,hbw,hcw⟩
 . exfalso;rw[q] at hc;simp at hc
 obtain⟨vd,dw,rd⟩:=hcw c hc;obtain⟨ds,hds⟩:∃ds,ds=AA.getD c []:=⟨_,rfl⟩;rw[<-hds] at rd h5;obtain⟨ad,cd,rfl,-⟩:=id rd;have CN:=Im w;obtain⟨w1,hw1⟩:∃W:World,W=w.alloc (.cells #[.slice (some ⟨bw,ow,none⟩) AA.length cW,.slice aP b.AM.length cP,.slice aL b.AQ.length cL,.slice aN b.AH.length cQ,.slice (some ⟨gx,0,none⟩) b.AL.length cX,.slice aS b.sn.length cS,.slice aF b.fr.length cF,.slice aR b.rws.length cR] 30):=⟨_,rfl⟩;have qd:w1.heap.size=w.heap.size+1:=by rw[hw1,AD]
 have K01:AC w w1:=by rw[hw1];exact (AC.refl w).alloc _
 replace O1:AR w1 m w.heap.size ⟨.slice (some ⟨bw,ow,none⟩) AA.length cW,.slice aP b.AM.length cP,.slice aL b.AQ.length cL,.slice aN b.AH.length cQ,.slice (some ⟨gx,0,none⟩) b.AL.length cX,.slice aS b.sn.length cS,.slice aF b.fr.length cF,.slice aR b.rws.length cR⟩ nv rv bs N AA b:=by rw[hw1];exact O1
 replace dw:w1.cell? ⟨bw,ow+c,none⟩=some (.slice ad ds.length (ds.length+cd)):=by rw[hw1];exact dw
 have XO:=Lib.hid O1
 have XL:Hid (∀(W:World) (F':Nat->Prop),Ak w1 W (DY ⟨.slice (some ⟨bw,ow,none⟩) AA.length cW,.slice aP b.AM.length cP,.slice aL b.AQ.length cL,.slice aN b.AH.length cQ,.slice (some ⟨gx,0,none⟩) b.AL.length cX,.slice aS b.sn.length cS,.slice aF b.fr.length cF,.slice aR b.rws.length cR⟩ nv rv) F'->KT W (.slice ad ds.length (ds.length+cd)) ds):=Lib.hid (fun W F' t=>by
  obtain⟨a2,c2,e2,hx⟩:=O1.work;simp only[Value.slice.injEq,true_and] at e2;rcases hx with q|⟨b2,o2,q1,q2,q3,q4,q5⟩
  . exfalso;rw[q] at hc;simp at hc
  rw[q1] at e2;simp only[Option.some.injEq,Addr.mk.injEq,and_true] at e2;obtain⟨⟨rfl,rfl⟩,-⟩:=e2;obtain⟨vi,u1,u2,u3⟩:=q5 c hc;rw[dw] at u1;have u4:=Option.some.inj u1;subst u4;rw[<-hds] at u2
  exact (BZ.QZ (Hp (r:=RE ds _) u2 (fun g hg=>t.block g (World.ownsRow.lt u2 g hg).2 (fun hB=>by
   have:=(XO.out.blk g (Vc hB)).2.2;have:=(World.ownsRow.lt u2 g hg).1;have:=u3 g hg
   omega)))).rd)
 have XV:=Lib.hid (h.keep K01);have NB:Hid (∀q,DY ⟨.slice (some ⟨bw,ow,none⟩) AA.length cW,.slice aP b.AM.length cP,.slice aL b.AQ.length cL,.slice aN b.AH.length cQ,.slice (some ⟨gx,0,none⟩) b.AL.length cX,.slice aS b.sn.length cS,.slice aF b.fr.length cF,.slice aR b.rws.length cR⟩ nv rv q->q<w.heap.size):=Lib.hid (fun q hq=>(h.blk q hq).2.1);have c0:w1.cell? ⟨w.heap.size,0,none⟩=some (.slice (some ⟨bw,ow,none⟩) AA.length cW):=O1.cells.1;have i1:(0:Int)<=(c:Int):=Int.natCast_nonneg _;have i2:(c:Int)<(AA.length:Int):=by omega
 have Bh:=O1.B6;simp only[BV.arr] at Bh;have KP:=Lib.hid hds;have XD1:=Lib.hid Bh;have HT:=Lib.hid hT;have hm1:m<=w1.heap.size:=by omega
 have CD:=Im w1 m _ nv rv bs N AA b n c XV.out S (by omega) hm1 hc h0 hk h3;clear hcw O1 h S h3 hds hT hg rd CN hk;go_enter Tryz.func89,Tryz.ntmps89
 go_upto_region 1 with fail
 rw[<-hw1];clear hw1;go_wp2_with (first|refine wpList_load_row rfl 30 _ rfl w.heap.size rfl 30 _ (0,0) _ Bh Tryz.underlying30 rfl AF ?_|fail)
 refine CD.mono ?_;rintro e w2 ⟨rfl,nv2,rv2,V2,T2⟩;have xO:=Lib.hid V2;have xN:=Lib.hid T2;have nD:∀F',Ak w1 w2 (DY ⟨.slice (some ⟨bw,ow,none⟩) AA.length cW,.slice aP b.AM.length cP,.slice aL b.AQ.length cL,.slice aN b.AH.length cQ,.slice (some ⟨gx,0,none⟩) b.AL.length cX,.slice aS b.sn.length cS,.slice aF b.fr.length cF,.slice aR b.rws.length cR⟩ nv rv) F'->w2.heap[w.heap.size]? = w1.heap[w.heap.size]?:=fun F' t=>t.block _ (by omega) (fun q=>by have:=NB.out _ q;omega)
 have hD2:=(nD _ T2).trans Bh;clear V2 T2 nD CD dw c0 Bh XV XO;go_wp2;go_loopw [] (fun wr=>∃(nv' rv':List Value) (b':Bd) (n':Nat),BA wr m ⟨.slice (some ⟨bw,ow,none⟩) AA.length cW,.slice aP b.AM.length cP,.slice aL b.AQ.length cL,.slice aN b.AH.length cQ,.slice (some ⟨gx,0,none⟩) b.AL.length cX,.slice aS b.sn.length cS,.slice aF b.fr.length cF,.slice aR b.rws.length cR⟩ nv' rv' bs N AA b'/\Ak w1 wr (DY ⟨.slice (some ⟨bw,ow,none⟩) AA.length cW,.slice aP b.AM.length cP,.slice aL b.AQ.length cL,.slice aN b.AH.length cQ,.slice (some ⟨gx,0,none⟩) b.AL.length cX,.slice aS b.sn.length cS,.slice aF b.fr.length cF,.slice aR b.rws.length cR⟩ nv rv) (DY ⟨.slice (some ⟨bw,ow,none⟩) AA.length cW,.slice aP b.AM.length cP,.slice aL b.AQ.length cL,.slice aN b.AH.length cQ,.slice (some ⟨gx,0,none⟩) b.AL.length cX,.slice aS b.sn.length cS,.slice aF b.fr.length cF,.slice aR b.rws.length cR⟩ nv' rv')/\WK AA c g T b' n') (fun wr=>match wr.cell? ⟨gx,c,none⟩ with|some x=>ds.length-(intOf x).toNat|none=>0)
 case atStart=>exact⟨nv2,rv2,_,_,xO.out,xN.out,xA.out⟩
 case round=>
  obtain⟨nv',rv',b',n',VJ,TJ,KJ⟩:=hrel;clear xO xN hD2;have mU:c<b'.AL.length:=by rw[KJ.Xx.AL];exact hc
  obtain⟨gx',cx',ex',lgx,jB,-⟩:=(show A8 wr m (BV.X ⟨.slice (some ⟨bw,ow,none⟩) AA.length cW,.slice aP b.AM.length cP,.slice aL b.AQ.length cL,.slice aN b.AH.length cQ,.slice (some ⟨gx,0,none⟩) b.AL.length cX,.slice aS b.sn.length cS,.slice aF b.fr.length cF,.slice aR b.rws.length cR⟩) b'.AL from VJ.Al.own .AL ⟨trivial,by simp⟩).lit mU;have ex2:Value.slice (some ⟨gx,0,none⟩) b.AL.length cX = .slice (some ⟨gx',0,none⟩) b'.AL.length cx':=ex';simp only[Value.slice.injEq,Option.some.injEq,Addr.mk.injEq,and_true] at ex2;obtain⟨k,hkz⟩:=Int.eq_ofNat_of_zero_le KJ.z;have hkn:Av b' c=k:=by unfold Av;rw[hkz];rfl
  have Zt:wr.cell? ⟨gx,c,none⟩=some (.int .i64 (k:Int)):=by rw[ex2.1,<-hkz];exact jB c mU
  have bM:=Lib.hid KJ;have hle:=KJ.le;rw[hkn,<-KP.out] at hle;have jC:wr.heap[w.heap.size]? = some (.cells #[.slice (some ⟨bw,ow,none⟩) AA.length cW,.slice aP b.AM.length cP,.slice aL b.AQ.length cL,.slice aN b.AH.length cQ,.slice (some ⟨gx,0,none⟩) b.AL.length cX,.slice aS b.sn.length cS,.slice aF b.fr.length cF,.slice aR b.rws.length cR] 30 (0,0)):=(TJ.block _ (by omega) (fun q=>by have:=NB.out _ q;omega)).trans XD1.out;have c4:wr.cell? ⟨w.heap.size,4,none⟩=some (.slice (some ⟨gx,0,none⟩) b.AL.length cX):=by rw[cell_of_row wr _ 4 _ _ _ jC];rfl
  have xP:=Lib.hid VJ;have rY:=Lib.hid TJ;have xH:=Lib.hid (XL.out wr _ TJ);have i3:(c:Int)<(b.AL.length:Int):=by omega
  have i4:(0:Int)<=(k:Int):=Int.natCast_nonneg _
  have VB:Hid (¬(k<ds.length/\GQ ds k=true)->∃nv'' rv'',BA wr m ⟨.slice (some ⟨bw,ow,none⟩) AA.length cW,.slice aP b.AM.length cP,.slice aL b.AQ.length cL,.slice aN b.AH.length cQ,.slice (some ⟨gx,0,none⟩) b.AL.length cX,.slice aS b.sn.length cS,.slice aF b.fr.length cF,.slice aR b.rws.length cR⟩ nv'' rv'' bs N AA T/\Ak w wr (DY ⟨.slice (some ⟨bw,ow,none⟩) AA.length cW,.slice aP b.AM.length cP,.slice aL b.AQ.length cL,.slice aN b.AH.length cQ,.slice (some ⟨gx,0,none⟩) b.AL.length cX,.slice aS b.sn.length cS,.slice aF b.fr.length cF,.slice aR b.rws.length cR⟩ nv rv) (DY ⟨.slice (some ⟨bw,ow,none⟩) AA.length cW,.slice aP b.AM.length cP,.slice aL b.AQ.length cL,.slice aN b.AH.length cQ,.slice (some ⟨gx,0,none⟩) b.AL.length cX,.slice aS b.sn.length cS,.slice aF b.fr.length cF,.slice aR b.rws.length cR⟩ nv'' rv'')):=Lib.hid (fun hno=>by
   obtain⟨mm,-,hT⟩:=bM.out.go;rw[hkn,<-KP.out,if_neg hno] at hT
   exact⟨nv',rv',by rw[hT];exact xP.out,((Ak.refl w _).keep K01).trans rY.out⟩)
  clear VJ TJ KJ ex' ex2 jB;by_cases hl:k<ds.length
  ·
   have hd:decide ((k:Int)<(ds.length:Int))=true:=decide_eq_true (by omega)
   cases hgo:GQ ds k with
   |true=>
    have o6:∀q,Calls Tryz.prog 107 #[.slice ad ds.length (ds.length+cd),.int .i64 (k:Int)] (wr.drewN q) fun e w'=>e = .returned (.bool true)/\∃r,w'=(wr.drewN q).drewN r:=fun q=>by
     rw[<-hgo];exact JR (wr.drewN q) _ ds (xH.out.keep ((AC.refl wr).drewN q)) k hl (by omega)
    obtain⟨g1,g2⟩:=bM.out.gg (by rw[hkn,<-KP.out];exact hl) (by rw[hkn,<-KP.out];exact hgo);rw[hkn] at g1;have CD:=fun (W:World) (kW:AC wr W)=>Im W m _ nv' rv' bs N AA b' n' c (xP.out.keep kW) bM.out.Xx (by have:=bM.out.nt;omega) (Nat.le_trans (show m<=wr.heap.size by have:=rY.out.size;omega) kW.size) hc bM.out.z (by rw[hkn,<-KP.out];exact hl) (fun q3=>absurd q3 (Gi XOK.out (by rw[hkn,<-KP.out];exact hl) (by rw[hkn,g1];exact g2)).2.1)
    clear hle VB;go_upto_region 3 with fail
    go_quiet ((first|(go_at_call 101;exact Calls.quiet_of_same (C7 _ _ _ _))|(go_at_call 107;exact Calls.quiet_of (o6 _))))
    have Bh:(wr.drewN nq).heap[w.heap.size]? = some (.cells #[.slice (some ⟨bw,ow,none⟩) AA.length cW,.slice aP b.AM.length cP,.slice aL b.AQ.length cL,.slice aN b.AH.length cQ,.slice (some ⟨gx,0,none⟩) b.AL.length cX,.slice aS b.sn.length cS,.slice aF b.fr.length cF,.slice aR b.rws.length cR] 30 (0,0)):=jC;go_wp2_with (first|refine wpList_load_row rfl 30 _ rfl w.heap.size rfl 30 _ (0,0) _ Bh Tryz.underlying30 rfl AF ?_|fail)
    refine (CD _ ((AC.refl wr).drewN _)).mono ?_;rintro e w5 ⟨rfl,nv5,rv5,V5,T5⟩;have HS:=bM.out.step hc (by rw[hkn,<-KP.out];exact hl) (by rw[hkn,<-KP.out];exact hgo);have T6:=(rY.out.keep ((AC.refl wr).drewN _)).trans T5;obtain⟨e1,e2⟩:=Ov (AA:=AA) (es:=AB AA) mU bM.out.z;obtain⟨gx',cx',ex',-,xh,-⟩:=(show A8 w5 m (BV.X ⟨.slice (some ⟨bw,ow,none⟩) AA.length cW,.slice aP b.AM.length cP,.slice aL b.AQ.length cL,.slice aN b.AH.length cQ,.slice (some ⟨gx,0,none⟩) b.AL.length cX,.slice aS b.sn.length cS,.slice aF b.fr.length cF,.slice aR b.rws.length cR⟩) _ from V5.Al.own .AL ⟨trivial,by simp⟩).lit (show c<(Ar AA (AB AA) b' c).AL.length by rw[HS.Xx.AL];exact hc);have ex2:Value.slice (some ⟨gx,0,none⟩) b.AL.length cX = .slice (some ⟨gx',0,none⟩) (Ar AA (AB AA) b' c).AL.length cx':=ex';simp only[Value.slice.injEq,Option.some.injEq,Addr.mk.injEq,and_true] at ex2
    have dXn:w5.cell? ⟨gx,c,none⟩=some (.int .i64 ((k:Int)+1)):=by
     have:=xh c (by rw[HS.Xx.AL];exact hc);rw[e1,hkz,<-ex2.1] at this;exact this
    have HV5:=Lib.hid V5;have HT6:=Lib.hid T6;have zx:=Lib.hid HS;clear V5 T5 T6 HS xh ex' ex2 Bh o6 CD;go_wp2;go_roundw;case rel=>exact⟨nv5,rv5,_,_,HV5.out,HT6.out,zx.out⟩
    case measure=>simp only[dXn,Zt,intOf];omega
   |false=>
    have o6:∀q,Calls Tryz.prog 107 #[.slice ad ds.length (ds.length+cd),.int .i64 (k:Int)] (wr.drewN q) fun e w'=>e = .returned (.bool false)/\∃r,w'=(wr.drewN q).drewN r:=fun q=>by
     rw[<-hgo];exact JR (wr.drewN q) _ ds (xH.out.keep ((AC.refl wr).drewN q)) k hl (by omega)
    obtain⟨nz,rz,VZ,TZ⟩:=VB.out (fun q=>by rw[hgo] at q;simp at q);have HV:=Lib.hid VZ;have HZ:=Lib.hid TZ;clear hle VB VZ TZ;go_upto_region 3 with fail
    go_quiet ((first|(go_at_call 101;exact Calls.quiet_of_same (C7 _ _ _ _))|(go_at_call 107;exact Calls.quiet_of (o6 _))))
    go_wp2;go_end0;exact⟨rfl,nz,rz,by rw[<-HT.out];exact HV.out.keep ((AC.refl wr).drewN _),HZ.out.keep ((AC.refl wr).drewN _)⟩
  ·
   have hd:decide ((k:Int)<(ds.length:Int))=false:=decide_eq_false (by omega);obtain⟨nz,rz,VZ,TZ⟩:=VB.out (fun q=>hl q.1);have HV:=Lib.hid VZ;have HZ:=Lib.hid TZ;clear hle VB VZ TZ;go_upto_region 3 with fail
   go_quiet ((first|(go_at_call 101;exact Calls.quiet_of_same (C7 _ _ _ _))|fail))
   go_wp2;go_end0;exact⟨rfl,nz,rz,by rw[<-HT.out];exact HV.out.keep ((AC.refl wr).drewN _),HZ.out.keep ((AC.refl wr).drewN _)⟩
theorem Vb {v:BV}{nv rv:List Value}{g:Nat}(h:E4 v rv g):DY v nv rv g:=by
 obtain⟨i,hi,e⟩:=h
 cases i with
 |AM=>exact⟨.AM,trivial,by simp,e⟩
 |AQ=>exact⟨.AQ,trivial,by simp,e⟩
 |rws=>exact⟨.rws,trivial,by simp,e⟩
 |rw p=>exact⟨.rw p,hi,by simp,e⟩
 |bd=>exact hi.elim
 |AH=>exact hi.elim
 |AL=>exact hi.elim
 |sn=>exact hi.elim
 |fr=>exact hi.elim
 |nt c=>exact hi.elim
theorem Tv (w:World)(m:Nat)(v:BV)(nv rv wv:List Value)(bs N:Nat)(AA:List (List Dd))(b:Bd)(n c:Nat)(x:Nt)(r:List Nt)(h:BA w m v nv rv bs N AA b)(lw:Db w bs N v.W wv AA)(hbs:m<=bs)(S:EF AA b n)(hn:n<=1000)(hm:m<=w.heap.size)(hc:c<AA.length)(hz:b.AH.getD c []=x::r)(hx:0<=x.1/\x.1<=2):
  Calls Tryz.prog 91 #[v.agg,.int .i64 c] w fun e w'=>e = .returned (.tuple #[])/\Ct w' m w'.heap.size v AA (Bs b c)/\∃F',Ak w w' (DY v nv rv) F':=by
 have hcn:c<b.AH.length:=by rw[S.AH];exact hc
 obtain⟨x0,x1,x2⟩:=x;simp only at hx;obtain⟨p,rfl⟩:=Int.eq_ofNat_of_zero_le hx.1;have hp3:p<3:=by omega
 have HM:Hid (Bs b c=Dw { b with AH:=b.AH.set c r } p x1 x2):=Lib.hid (by unfold Bs;rw[hz];simp);have XS:=Lib.hid S;have lp:p<b.AM.length:=by rw[S.AM];exact hp3
 have ll:p<b.AQ.length:=by rw[S.AQ];exact hp3
 have lr:p<b.rws.length:=by rw[S.rws];exact hp3
 obtain⟨aW,aP,aL,aN,aX,aS,aF,aR,cW,cP,cL,cQ,cX,cS,cF,cR,rfl⟩:=h.rd0.shapes;have xL:=Lib.hid h.rd0.sl;have O1:=h.box hm;obtain⟨a',c',eN,hN⟩:=O1.hN;simp only[Value.slice.injEq,true_and] at eN;obtain⟨rfl,rfl⟩:=eN;rcases hN with q|⟨gn,rfl,fU,dn⟩
 . exfalso;rw[q] at hcn;simp at hcn
 obtain⟨w1,hw1⟩:∃W:World,W=w.alloc (.cells #[.slice aW AA.length cW,.slice aP b.AM.length cP,.slice aL b.AQ.length cL,.slice (some ⟨gn,0,none⟩) b.AH.length cQ,.slice aX b.AL.length cX,.slice aS b.sn.length cS,.slice aF b.fr.length cF,.slice aR b.rws.length cR] 30):=⟨_,rfl⟩;have qd:w1.heap.size=w.heap.size+1:=by rw[hw1,AD]
 have K01:AC w w1:=by rw[hw1];exact (AC.refl w).alloc _
 replace O1:AR w1 m w.heap.size ⟨.slice aW AA.length cW,.slice aP b.AM.length cP,.slice aL b.AQ.length cL,.slice (some ⟨gn,0,none⟩) b.AH.length cQ,.slice aX b.AL.length cX,.slice aS b.sn.length cS,.slice aF b.fr.length cF,.slice aR b.rws.length cR⟩ nv rv bs N AA b:=by rw[hw1];exact O1
 replace dn:∀i,i<b.AH.length->w1.cell? ⟨gn,i,none⟩=some (nv.getD i AE):=by rw[hw1];exact dn
 have oq:=O1.oN hcn;rw[hz] at oq
 obtain⟨gq,cq,hq,y8⟩:∃gq cq,nv.getD c AE = .slice (some ⟨gq,0,none⟩) (r.length+1) cq/\gq<w1.heap.size:=by
  have hlt:=World.ownsRow.lt oq;rcases oq.2 with ⟨_,hz'⟩|⟨g,cap,cur,e,_⟩
  . simp at hz'
  . exact⟨g,cap,e,(hlt g (by rw[e];rfl)).2⟩
 have hcq:r.length+1<=cq:=by
  rcases oq.2 with ⟨_,hz'⟩|⟨g,cap,cur,e,_,_,hcap,_⟩
  . simp at hz'
  ·
   rw[hq] at e;simp only[Value.slice.injEq] at e;rw[e.2.2];simpa using hcap
 rw[hq] at oq;have q0:w1.cell? ⟨gq,0,none⟩=some (.int .i64 (p:Int)):=World.ownsRow.cellAt oq 0 (by simp);have q1:w1.cell? ⟨gq,1,none⟩=some (.int .i64 x1):=World.ownsRow.cellAt oq 1 (by show 1<(r.length+1)*3;omega);have q2:w1.cell? ⟨gq,2,none⟩=some (.int .i64 x2):=World.ownsRow.cellAt oq 2 (by show 2<(r.length+1)*3;omega);have d3:=dn c hcn;rw[hq] at d3;have hcv:c<nv.length:=by rw[O1.ln];exact hcn
 obtain⟨w2,hw2⟩:∃W:World,W=w1.alloc (Nm (p:Int) x1 x2):=⟨_,rfl⟩;have k2:AC w1 w2:=by rw[hw2];exact (AC.refl w1).alloc _
 have y2w:w2.heap.size=w.heap.size+2:=by rw[hw2,AD,qd]
 have XN2:Hid (w2.heap[w.heap.size+1]? = some (.cells #[.int .i64 (p:Int),.int .i64 x1,.int .i64 x2] 44 (0,0))):=Lib.hid (by rw[hw2,<-qd];exact heap_alloc_new _ _);have O2:=O1.keep k2;have xC:Hid (w2.heap[w.heap.size]? = some (.cells #[.slice aW AA.length cW,.slice aP b.AM.length cP,.slice aL b.AQ.length cL,.slice (some ⟨gn,0,none⟩) b.AH.length cQ,.slice aX b.AL.length cX,.slice aS b.sn.length cS,.slice aF b.fr.length cF,.slice aR b.rws.length cR] 30 (0,0))):=Lib.hid (by have:=O2.B6;simp only[BV.arr] at this;exact this);have xB:Hid (Ek w2 m ⟨.slice aW AA.length cW,.slice aP b.AM.length cP,.slice aL b.AQ.length cL,.slice (some ⟨gn,0,none⟩) b.AH.length cQ,.slice aX b.AL.length cX,.slice aS b.sn.length cS,.slice aF b.fr.length cF,.slice aR b.rws.length cR⟩ nv rv wv AA b):=Lib.hid (O2.all ((lw.keep K01).keep k2) hbs);have rZ:Hid (BV.N ⟨.slice aW AA.length cW,.slice aP b.AM.length cP,.slice aL b.AQ.length cL,.slice (some ⟨gn,0,none⟩) b.AH.length cQ,.slice aX b.AL.length cX,.slice aS b.sn.length cS,.slice aF b.fr.length cF,.slice aR b.rws.length cR⟩ = .slice (some ⟨gn,0,none⟩) nv.length cQ):=Lib.hid (by rw[O1.ln]);have NB:Hid (∀q,DY ⟨.slice aW AA.length cW,.slice aP b.AM.length cP,.slice aL b.AQ.length cL,.slice (some ⟨gn,0,none⟩) b.AH.length cQ,.slice aX b.AL.length cX,.slice aS b.sn.length cS,.slice aF b.fr.length cF,.slice aR b.rws.length cR⟩ nv rv q->q<w.heap.size):=Lib.hid (fun q hq=>(h.blk q hq).2.1);have T02:Hid (Ak w w2 (DY ⟨.slice aW AA.length cW,.slice aP b.AM.length cP,.slice aL b.AQ.length cL,.slice (some ⟨gn,0,none⟩) b.AH.length cQ,.slice aX b.AL.length cX,.slice aS b.sn.length cS,.slice aF b.fr.length cF,.slice aR b.rws.length cR⟩ nv rv) (DY ⟨.slice aW AA.length cW,.slice aP b.AM.length cP,.slice aL b.AQ.length cL,.slice (some ⟨gn,0,none⟩) b.AH.length cQ,.slice aX b.AL.length cX,.slice aS b.sn.length cS,.slice aF b.fr.length cF,.slice aR b.rws.length cR⟩ nv rv)):=Lib.hid (((Ak.refl w _).keep K01).keep k2);have c31:w1.cell? ⟨w.heap.size,3,none⟩=some (.slice (some ⟨gn,0,none⟩) b.AH.length cQ):=O1.cells.2.2.2.1;have c3:w2.cell? ⟨w.heap.size,3,none⟩=some (.slice (some ⟨gn,0,none⟩) b.AH.length cQ):=O2.cells.2.2.2.1;have d32:=(k2.cell (show gn<w1.heap.size from (O1.Al.lt (i:= .AH) trivial gn rfl).2)).trans d3;have f3:w2.frozen? ⟨gn,c,none⟩=false:=(Rw.put (r:=EH 42 nv (BV.N ⟨.slice aW AA.length cW,.slice aP b.AM.length cP,.slice aL b.AQ.length cL,.slice (some ⟨gn,0,none⟩) b.AH.length cQ,.slice aX b.AL.length cX,.slice aS b.sn.length cS,.slice aF b.fr.length cF,.slice aR b.rws.length cR⟩)) (O2.Al.own .AH trivial) (g:=gn) (cap:=cQ) (k:=c) rZ.out (.bool true)).2.2;have i1:(0:Int)<=(c:Int):=Int.natCast_nonneg _;have i3:(c:Int)<(b.AH.length:Int):=by omega
 have i5:((r.length+1:Nat):Int)=(r.length:Int)+1:=by omega
 have j1:(1:Int)<=(r.length:Int)+1:=by omega
 have hz':=hz;have hq':=hq;have HZ1:=Lib.hid hz';have HZ2:=Lib.hid hq';clear O1 O2 oq dn h lw hz hq hz' hq' S hx;go_enter Tryz.func91,Tryz.ntmps91
 go_upto_region 1 with fail
 rw[<-hw1];clear hw1;go_upto_region 2 with fail
 rw[<-hw2];clear hw2 q0 q1 q2 c31 d3;have hz':=HZ1;have hq':=HZ2;have d3:=d32;clear d32;by_cases hq1:cq=1
 ·
  have j2:(1:Int)<=(cq:Int):=by omega
  have jb:=(xB.out.cut (g:=gn) (c:=c) (cap:=cQ) rZ.out (.slice (some ⟨gq,0,none⟩) r.length 0)).keep (AC.refl _).drew;have T3:Ak w2 _ (DY ⟨.slice aW AA.length cW,.slice aP b.AM.length cP,.slice aL b.AQ.length cL,.slice (some ⟨gn,0,none⟩) b.AH.length cQ,.slice aX b.AL.length cX,.slice aS b.sn.length cS,.slice aF b.fr.length cF,.slice aR b.rws.length cR⟩ nv rv) (DY ⟨.slice aW AA.length cW,.slice aP b.AM.length cP,.slice aL b.AQ.length cL,.slice (some ⟨gn,0,none⟩) b.AH.length cQ,.slice aX b.AL.length cX,.slice aS b.sn.length cS,.slice aF b.fr.length cF,.slice aR b.rws.length cR⟩ nv rv):=((Ak.refl w2 _).grown (Ad w2 gn c (.slice (some ⟨gq,0,none⟩) r.length 0)) (fun g hg=>⟨.AH,trivial,by simp,hg⟩)).keep (AC.refl _).drew;have Bh:=(T3.block w.heap.size (by omega) (fun q=>by have:=NB.out _ q;omega)).trans xC.out;have lC:=(T3.block (w.heap.size+1) (by omega) (fun q=>by have:=NB.out _ q;omega)).trans XN2.out;have YJ:=Lib.hid jb;have YL:=Lib.hid T3;have jh:=Lib.hid Bh;have YK:=Lib.hid lC;clear jb T3 Bh lC;go_region
  go_upto_region 3 with fail
  obtain⟨w3,hw3⟩:∃W:World,W=(w2.setCell ⟨gn,c,none⟩ (.slice (some ⟨gq,0,none⟩) r.length 0)).drew:=⟨_,rfl⟩;rw[<-hw3] at YJ YL jh YK ⊢;clear hw3;have Bh:=jh.out;have m0:w3.cell? ⟨w.heap.size+1,0,none⟩=some (.int .i64 (p:Int)):=by rw[cell_of_row w3 _ 0 _ _ _ YK.out];rfl
  have m1:w3.cell? ⟨w.heap.size+1,1,none⟩=some (.int .i64 x1):=by rw[cell_of_row w3 _ 1 _ _ _ YK.out];rfl
  have m2:w3.cell? ⟨w.heap.size+1,2,none⟩=some (.int .i64 x2):=by rw[cell_of_row w3 _ 2 _ _ _ YK.out];rfl
  have s3:=YL.out.size;have PV:=Oy w3 m ⟨.slice aW AA.length cW,.slice aP b.AM.length cP,.slice aL b.AQ.length cL,.slice (some ⟨gn,0,none⟩) b.AH.length cQ,.slice aX b.AL.length cX,.slice aS b.sn.length cS,.slice aF b.fr.length cF,.slice aR b.rws.length cR⟩ rv b p x1 x2 YJ.out.UK xL.out (by omega) lp ll lr (by have:=XS.out.rl p;omega);clear d3 f3 c3;go_wp2_with (first|refine wpList_load_row rfl 30 _ rfl w.heap.size rfl 30 _ (0,0) _ Bh Tryz.underlying30 rfl AF ?_|fail)
  refine PV.mono ?_;rintro e w4 ⟨rfl,rv',O4,T4⟩;have jc:=YJ.out.turn O4 T4 rfl rfl rfl rfl;have FR:=Lib.hid (jc.free hcv HZ1.out HZ2.out (.inl ⟨hq1,rfl⟩));have B4:=Lib.hid ((T02.out.trans YL.out).trans (⟨T4.os,T4.tape,T4.output,T4.size,fun g h1 h2=>T4.block g h1 (fun q=>h2 (Vb q)),fun g h=>h⟩:Ak w3 w4 (DY ⟨.slice aW AA.length cW,.slice aP b.AM.length cP,.slice aL b.AQ.length cL,.slice (some ⟨gn,0,none⟩) b.AH.length cQ,.slice aX b.AL.length cX,.slice aS b.sn.length cS,.slice aF b.fr.length cF,.slice aR b.rws.length cR⟩ nv rv) (fun g=>DY ⟨.slice aW AA.length cW,.slice aP b.AM.length cP,.slice aL b.AQ.length cL,.slice (some ⟨gn,0,none⟩) b.AH.length cQ,.slice aX b.AL.length cX,.slice aS b.sn.length cS,.slice aF b.fr.length cF,.slice aR b.rws.length cR⟩ nv rv g\/w3.heap.size<=g)));clear O4 T4 jc PV Bh m0 m1 m2;go_wp2;go_end0;exact⟨rfl,by rw[HM.out];exact FR.out,_,B4.out⟩
 ·
  have j2:(1:Int)<(cq:Int):=by omega
  have jb:=(xB.out.cut (g:=gn) (c:=c) (cap:=cQ) rZ.out (.slice (some ⟨gq,3,none⟩) r.length (cq-1))).keep (AC.refl _).drew;have T3:Ak w2 _ (DY ⟨.slice aW AA.length cW,.slice aP b.AM.length cP,.slice aL b.AQ.length cL,.slice (some ⟨gn,0,none⟩) b.AH.length cQ,.slice aX b.AL.length cX,.slice aS b.sn.length cS,.slice aF b.fr.length cF,.slice aR b.rws.length cR⟩ nv rv) (DY ⟨.slice aW AA.length cW,.slice aP b.AM.length cP,.slice aL b.AQ.length cL,.slice (some ⟨gn,0,none⟩) b.AH.length cQ,.slice aX b.AL.length cX,.slice aS b.sn.length cS,.slice aF b.fr.length cF,.slice aR b.rws.length cR⟩ nv rv):=((Ak.refl w2 _).grown (Ad w2 gn c (.slice (some ⟨gq,3,none⟩) r.length (cq-1))) (fun g hg=>⟨.AH,trivial,by simp,hg⟩)).keep (AC.refl _).drew;have Bh:=(T3.block w.heap.size (by omega) (fun q=>by have:=NB.out _ q;omega)).trans xC.out;have lC:=(T3.block (w.heap.size+1) (by omega) (fun q=>by have:=NB.out _ q;omega)).trans XN2.out;have YJ:=Lib.hid jb;have YL:=Lib.hid T3;have jh:=Lib.hid Bh;have YK:=Lib.hid lC;clear jb T3 Bh lC;go_region
  go_upto_region 3 with fail
  obtain⟨w3,hw3⟩:∃W:World,W=(w2.setCell ⟨gn,c,none⟩ (.slice (some ⟨gq,3,none⟩) r.length (cq-1))).drew:=⟨_,rfl⟩;rw[<-hw3] at YJ YL jh YK ⊢;clear hw3;have Bh:=jh.out;have m0:w3.cell? ⟨w.heap.size+1,0,none⟩=some (.int .i64 (p:Int)):=by rw[cell_of_row w3 _ 0 _ _ _ YK.out];rfl
  have m1:w3.cell? ⟨w.heap.size+1,1,none⟩=some (.int .i64 x1):=by rw[cell_of_row w3 _ 1 _ _ _ YK.out];rfl
  have m2:w3.cell? ⟨w.heap.size+1,2,none⟩=some (.int .i64 x2):=by rw[cell_of_row w3 _ 2 _ _ _ YK.out];rfl
  have s3:=YL.out.size;have PV:=Oy w3 m ⟨.slice aW AA.length cW,.slice aP b.AM.length cP,.slice aL b.AQ.length cL,.slice (some ⟨gn,0,none⟩) b.AH.length cQ,.slice aX b.AL.length cX,.slice aS b.sn.length cS,.slice aF b.fr.length cF,.slice aR b.rws.length cR⟩ rv b p x1 x2 YJ.out.UK xL.out (by omega) lp ll lr (by have:=XS.out.rl p;omega);clear d3 f3 c3;go_wp2_with (first|refine wpList_load_row rfl 30 _ rfl w.heap.size rfl 30 _ (0,0) _ Bh Tryz.underlying30 rfl AF ?_|fail)
  refine PV.mono ?_;rintro e w4 ⟨rfl,rv',O4,T4⟩;have jc:=YJ.out.turn O4 T4 rfl rfl rfl rfl;have FR:=Lib.hid (jc.free hcv HZ1.out HZ2.out (.inr rfl));have B4:=Lib.hid ((T02.out.trans YL.out).trans (⟨T4.os,T4.tape,T4.output,T4.size,fun g h1 h2=>T4.block g h1 (fun q=>h2 (Vb q)),fun g h=>h⟩:Ak w3 w4 (DY ⟨.slice aW AA.length cW,.slice aP b.AM.length cP,.slice aL b.AQ.length cL,.slice (some ⟨gn,0,none⟩) b.AH.length cQ,.slice aX b.AL.length cX,.slice aS b.sn.length cS,.slice aF b.fr.length cF,.slice aR b.rws.length cR⟩ nv rv) (fun g=>DY ⟨.slice aW AA.length cW,.slice aP b.AM.length cP,.slice aL b.AQ.length cL,.slice (some ⟨gn,0,none⟩) b.AH.length cQ,.slice aX b.AL.length cX,.slice aS b.sn.length cS,.slice aF b.fr.length cF,.slice aR b.rws.length cR⟩ nv rv g\/w3.heap.size<=g)));clear O4 T4 jc PV Bh m0 m1 m2;go_wp2;go_end0;exact⟨rfl,by rw[HM.out];exact FR.out,_,B4.out⟩
def SH (k:Nat):Bd:=⟨List.replicate k 0,(List.range k).map (fun (i:Nat)=>(i:Int)),[],[],[],[],(List.range k).map (fun (i:Nat)=>[(i:Int)])⟩
def U4 (k:Nat):Bd:=⟨[0,0,0],[0,1,2],List.replicate k [],List.replicate k 0,[],[],[[0],[1],[2]]⟩
def SI (n k:Nat):Bd:=⟨[0,0,0],[0,1,2],List.replicate n [],List.replicate n 0,List.replicate k (-1),List.replicate k (-1),[[0],[1],[2]]⟩
theorem Wf (k:Nat):SH (k+1)={ { { SH k with AM:=(SH k).AM++[0] } with AQ:=(SH k).AQ++[(k:Int)] } with rws:=(SH k).rws++[[(k:Int)]] }:=by
 unfold SH;simp only[List.range_succ,List.map_append,List.map_cons,List.map_nil,List.replicate_succ']
theorem Wg (k:Nat):U4 (k+1)={ { U4 k with AH:=(U4 k).AH++[[]] } with AL:=(U4 k).AL++[0] }:=by
 unfold U4;simp only[List.replicate_succ']
theorem Wh (n k:Nat):SI n (k+1)={ { SI n k with sn:=(SI n k).sn++[-1] } with fr:=(SI n k).fr++[-1] }:=by
 unfold SI;simp only[List.replicate_succ']
theorem MT (w:World)(x:Int):Rd (w.alloc (.cells #[.int .i64 x] 2)) (.slice (some ⟨w.heap.size,0,none⟩) 1 1) [x]:=
 ⟨_,1,rfl,.inr ⟨w.heap.size,0,rfl,by rw[AD];omega,fun i hi=>by
  obtain rfl:i=0:=by simpa using hi
  rw[cell_of_row _ _ _ _ _ _ (heap_alloc_new w _)];rfl⟩⟩
theorem Op (w:World)(v:Value)(AA:List (List Dd))(h:Ic w v AA)(hb:AW AA=true)(hx:AA.length<=1048576)(hm:∀i,i<AA.length->(AA.getD i []).length<=1048576):
  Calls Tryz.prog 35 #[v] w fun e w'=>∃bv nv rv wv,e = .returned (BV.agg bv)/\Ek w' w.heap.size bv nv rv wv AA (Bq AA)/\AC w w':=by
 have CW:=fun (W:World) (kW:AC w W)=>Cx W _ AA (h.keep kW) hx hm
 have CC:=fun (W:World) (kW:AC w W)=>Hd W _ AA (h.keep kW) hx hm
 have CE:=fun (W:World) (kW:AC w W)=>EB W _ AA (h.keep kW) hx hm
 rw[hb] at CW;have u1:=(As hb).1;obtain⟨aD,kM,rfl,-⟩:=id h;clear h hm hb;obtain⟨ng0,ngi,uJ,uK,uM⟩:=info_parts Tryz.Oi;obtain⟨ig0,igi,tq,tu,uD⟩:=info_parts Tryz.Ry;obtain⟨w1,hw1⟩:∃W:World,W=w.alloc (.cells #[AE,AE,AE,AE,AE,AE,AE,AE] 30):=⟨_,rfl⟩;have K1:AC w w1:=by rw[hw1];exact (AC.refl w).alloc _
 have s1:w1.heap.size=w.heap.size+1:=by rw[hw1,AD]
 have hR1:w1.heap[w.heap.size]? = some (.cells #[AE,AE,AE,AE,AE,AE,AE,AE] 30 (0,0)):=by rw[hw1];exact heap_alloc_new _ _
 go_enter Tryz.func35,Tryz.ntmps35
 go_upto_region 1 with fail
 rw[<-hw1];clear hw1;go_wp2_with fail
 refine (CW _ K1).mono ?_;rintro e w2 ⟨rfl,k2⟩;go_wp2_with fail
 refine (C1 _).mono ?_;rintro e w2 ⟨rfl,rfl⟩;have K2:=K1.trans k2;go_wp2_with fail
 refine (CC _ K2).mono ?_;rintro e w3 ⟨v3,V,rfl,X3,k3⟩;have s2:=k2.size;have s3:=k3.size;have wY:=X3.Z3;have O3:=(Qb X3.qc.upto (Nat.le_refl _) w1.heap.size).box (by omega);obtain⟨a3,c3,hv3,-⟩:=id X3.zL;subst hv3;obtain⟨w4,hw4⟩:∃W:World,W=w3.alloc (.cells #[.slice a3 AA.length c3,AE,AE,AE,AE,AE,AE,AE] 30):=⟨_,rfl⟩;have k4:AC w3 w4:=by rw[hw4];exact (AC.refl w3).alloc _
 have s4:w4.heap.size=w3.heap.size+1:=by rw[hw4,AD]
 replace O3:AR w4 w1.heap.size w3.heap.size ⟨.slice a3 AA.length c3,AE,AE,AE,AE,AE,AE,AE⟩ [] [] w2.heap.size w3.heap.size AA ⟨[],[],[],[],[],[],[]⟩:=by rw[hw4];exact O3
 clear X3;go_upto_region 3 with fail
 rw[<-hw4];clear hw4;go_wp2_with fail
 refine (Ha w4).mono ?_;rintro e w5 ⟨v5,rfl,A5,k5⟩;have s5:=k5.size;have N5:=NB.start (O3.keep k5);have wZ:=Lib.hid (wY.keep (k4.trans k5));have hR5:=Lib.hid ((Below.block ((k2.trans k3).trans (k4.trans k5)) w.heap.size (by omega)).trans hR1);have K5:=K2.trans (k3.trans (k4.trans k5));have hD:w1.heap.size<=w3.heap.size/\w3.heap.size<w4.heap.size:=by omega
 have hbs:w1.heap.size<=w2.heap.size:=s2;have hD5:w3.heap.size<w5.heap.size:=by omega
 obtain⟨ae,ce,hv5,-⟩:=id A5.rd;rw[show B5.length=3 from rfl] at hv5;subst hv5;clear wY O3 CW CC hR1 k2 k3 k4 k5 K1 K2;have hmw:w.heap.size<w1.heap.size:=by omega
 clear s1 s4 s3 s2 s5;generalize w1.heap.size=m at *;generalize w2.heap.size=bs at *;generalize w3.heap.size=D at *;go_wp2;go_loopw [4,14] (fun _ i wr=>∃(k:Nat) (bv:BV) (rv:List Value),k<=3/\i = .int .i64 k/\Hid (bv.W = .slice a3 AA.length c3)/\NB w5 wr m D bv [] rv bs D AA (SH k)) (fun _ i _=>3-(intOf i).toNat)
 case atStart=>exact⟨0,_,[],Nat.zero_le _,rfl,Lib.hid rfl,N5⟩
 case round=>
  obtain⟨k,bv,rv,hk,rfl,hW,NR⟩:=hrel;by_cases hlt:k<3
  ·
   have vv:IR wr w4.heap.size (.slice ae 3 (3+ce)) B5:=World.ownsRow.kept A5 NR.sm (CU (fun q hq=>(World.ownsRow.lt A5 q hq).1) hD.2);obtain⟨a',c',he',hE⟩:=vv.rd;rw[show B5.length=3 from rfl] at he';simp only[Value.slice.injEq,true_and] at he';obtain⟨rfl,hce⟩:=he';rcases hE with h0|⟨bq,oq,rfl,hbq,hcq⟩
   . exact absurd h0 (by simp[B5])
   have hev:B5[k]? = some ((-1:Int),(-1:Int),false,(k:Int),(0:Int),(k:Int)):=by
    have:k=0\/k=1\/k=2:=by omega
    rcases this with rfl|rfl|rfl<;>rfl
   obtain⟨q0,q1,q2,q3,q4,q5⟩:=ig (hcq k _ hev);have i1:(0:Int)<=(k:Int):=Int.natCast_nonneg _;have i2:(k:Int)<3:=by omega
   obtain⟨w6,hw6⟩:∃W:World,W=wr.alloc (eO (-1) (-1) false k 0 k):=⟨_,rfl⟩;have k6:AC wr w6:=by rw[hw6];exact (AC.refl wr).alloc _
   have f4:w6.cell? ⟨wr.heap.size,4,none⟩=some (.int .i64 0):=by rw[hw6,cell_of_row _ _ 4 _ _ _ (heap_alloc_new wr _)];rfl
   have N6:=NR.keep k6;clear hcq vv NR hev hce k6;go_upto_region 6 with fail
   rw[<-hw6];clear hw6 q0 q1 q2 q3 q4 q5;have Aa:=N6.keep ((AC.refl w6).alloc (.cells #[.int .i64 (0:Int)] 2));obtain⟨nu,ny,oC,oG,oH,oI,oJ,oK⟩:=N6.ob.cells;go_wp2_with (at_builtin;refine Bx rfl _ _ rfl m _ _ rfl Aa.ob.oP _ rfl [(0:Int)] (MT w6 (0:Int)) (by unfold SH;simp;omega) (by simp) (Nat.le_of_lt (Nat.lt_of_le_of_lt Aa.ob.base.1 Aa.ob.base.2)) ?_)
   intro ua xa Oa Ga Ba;obtain⟨la,Xj⟩:∃l,Hid (l=(SH k).AM++[(0:Int)]):=⟨_,Lib.hid rfl⟩;replace Oa:A8 xa m ua ((SH k).AM++[(0:Int)]):=Oa;rw[<-Xj.out] at Oa;obtain⟨Na,Ca,Fa⟩:=Aa.WE Ga (by rw[AD];exact Ba) Oa;obtain⟨jm,kU,l7,-⟩:=id Oa.rd;subst l7;clear nu ny oC oG oH oI oJ oK Aa N6 Oa Ga Ba;go_upto_region 7 with fail
   generalize xa.setCell ⟨D,1,none⟩ (.slice jm la.length kU)=ya at *;clear Ca Fa;have Ab:=Na.keep ((AC.refl ya).alloc (.cells #[.int .i64 (k:Int)] 2));obtain⟨oM,oO,oQ,oU,oV,oZ,og,oh⟩:=Na.ob.cells;go_wp2_with (at_builtin;refine Bx rfl _ _ rfl m _ _ rfl Ab.ob.oL _ rfl [(k:Int)] (MT ya (k:Int)) (by unfold SH;simp;omega) (by simp) (Nat.le_of_lt (Nat.lt_of_le_of_lt Ab.ob.base.1 Ab.ob.base.2)) ?_)
   intro ub xb Ob Gb Bb;obtain⟨lb,VD⟩:∃l,Hid (l=(SH k).AQ++[(k:Int)]):=⟨_,Lib.hid rfl⟩;replace Ob:A8 xb m ub ((SH k).AQ++[(k:Int)]):=Ob;rw[<-VD.out] at Ob;obtain⟨Nb,Cb,Fb⟩:=Ab.WD Gb (by rw[AD];exact Bb) Ob;obtain⟨jo,Zs,hub,-⟩:=id Ob.rd;subst hub;clear oM oO oQ oU oV oZ og oh Ab Na Ob Gb Bb;go_upto_region 8 with fail
   generalize xb.setCell ⟨D,2,none⟩ (.slice jo lb.length Zs)=yb at *;clear Cb Fb;obtain⟨zc0,zc1,zc2,zc3,zc4,zc5,zc6,zc7⟩:=Nb.ob.cells;have yu:AC yb (yb.alloc (.cells #[.int .i64 (k:Int)] 2)):=(AC.refl yb).alloc _;have uH:AC (yb.alloc (.cells #[.int .i64 (k:Int)] 2)) ((yb.alloc (.cells #[.int .i64 (k:Int)] 2)).alloc (.cells #[(Value.slice (some ⟨yb.heap.size,0,none⟩) 1 1)] 26)):=(AC.refl _).alloc _;have kc:=yu.trans uH;have hmc:m<=yb.heap.size:=Nat.le_of_lt (Nat.lt_of_le_of_lt Nb.ob.base.1 Nb.ob.base.2);have zF:A8 (yb.alloc (.cells #[.int .i64 (k:Int)] 2)) m (.slice (some ⟨yb.heap.size,0,none⟩) 1 1) [(k:Int)]:=World.ownsRow_lit yb #[.int .i64 (k:Int)] 1 hmc (by decide) rfl;have oc:=World.ownsRow.kept zF uH.grownBy (by cases (Value.ownBlock (Value.slice (some ⟨yb.heap.size,0,none⟩) 1 1))<;>simp);have Rc:World.ownsRow _ m 26 1 bv.R rv.length rv:=(Nb.keep kc).ob.Al.own .rws trivial;have hnc:rv.length<=3:=by rw[(Nb.ob).lr];unfold SH;simp;omega
   go_wp2_with (at_builtin;refine wpList_append_own_at _ rfl _ _ 28 rfl m 26 ig0 (.slice none 0 0) 1 24 Tryz.underlying28 igi tq tu uD rfl (by decide) _ _ _ rfl Rc ⟨_,0,none⟩ 1 1 [(Value.slice (some ⟨yb.heap.size,0,none⟩) 1 1)] rfl rfl (by intro j q hj;match j,hj with|0,hj=>(simp at hj;subst hj;simp[Addr.add])) (by intro q hq;simp at hq;subst hq;rfl) (by unfold maxLen;omega) (by omega) (by simp;omega) ?_)
   intro uc xc Pc Gc _ Bc;obtain⟨hc,wO⟩:∃l,Hid (l=rv++[(Value.slice (some ⟨yb.heap.size,0,none⟩) 1 1)]):=⟨_,Lib.hid rfl⟩
   have Qc:(EH 26 (rv++[(Value.slice (some ⟨yb.heap.size,0,none⟩) 1 1)]) uc).own xc m:=by
    show xc.ownsRow m 26 1 uc (rv++[(Value.slice (some ⟨yb.heap.size,0,none⟩) 1 1)]).length (rv++[(Value.slice (some ⟨yb.heap.size,0,none⟩) 1 1)]);rw[List.length_append];exact Pc
   obtain⟨Nc,Cc,Fc⟩:=Nb.Ta (u:=(Value.slice (some ⟨yb.heap.size,0,none⟩) 1 1)) kc (fun q hq=>Nat.le_of_eq (Option.some.inj hq)) oc Gc (by rw[AD,AD];exact Bc) Qc;rw[<-wO.out] at Nc Qc;obtain⟨auc,cuc,huc,-⟩:=Bn Qc;subst huc;clear zc0 zc1 zc2 zc3 zc4 zc5 zc6 zc7 Nb Rc Pc Qc Gc Bc oc zF kc yu uH hnc hmc;go_upto_region 9 with fail
   generalize xc.setCell ⟨D,7,none⟩ (.slice auc hc.length cuc)=yc at *;clear Cc Fc
   obtain⟨bz,hZ,NZ⟩:∃bz:BV,Hid (bz.W = .slice a3 AA.length c3)/\NB w5 yc m D bz [] hc bs D AA (SH (k+1)):=by
    rw[Wf,<-Xj.out,<-VD.out];refine⟨_,?_,Nc⟩;exact hW
   clear Nc Xj VD wO;go_wp2;go_roundw;case rel=>exact⟨k+1,bz,hc,by omega,by go_num,hZ,NZ⟩
   case measure=>simp[intOf];omega
  obtain rfl:k=3:=by omega
  have N7:NB w5 wr m D bv [] rv bs D AA (U4 0):=NR;clear NR A5 hlt hk;rw[show ((3:Nat):Int)=3 from rfl];go_wp2;obtain⟨wo,rfl⟩:∃wo:World,wo=wr:=⟨_,rfl⟩;go_loopw [42] (fun i wr=>∃(k:Nat) (bv:BV) (nv:List Value),k<=AA.length/\i = .int .i64 k/\Hid (bv.W = .slice a3 AA.length c3)/\NB w5 wr m D bv nv rv bs D AA (U4 k)) (fun i _=>AA.length-(intOf i).toNat)
  case atStart=>exact⟨0,bv,[],Nat.zero_le _,rfl,hW,N7⟩
  case round=>
   clear N7 hW;obtain⟨k,bv,nv,hk,rfl,hW,NR⟩:=hrel;by_cases hlt:k<AA.length
   ·
    have i1:(0:Int)<=(k:Int):=Int.natCast_nonneg _;have i2:(k:Int)<(AA.length:Int):=by omega
    obtain⟨nu,ny,oC,oG,oH,oI,oJ,oK⟩:=NR.ob.cells;have yt:AC wr (wr.alloc (.cells #[] 44)):=(AC.refl wr).alloc _;have uG:AC (wr.alloc (.cells #[] 44)) ((wr.alloc (.cells #[] 44)).alloc (.cells #[(Value.slice (some ⟨wr.heap.size,0,none⟩) 0 0)] 42)):=(AC.refl _).alloc _;have ka:=yt.trans uG;have hma:m<=wr.heap.size:=Nat.le_of_lt (Nat.lt_of_le_of_lt NR.ob.base.1 NR.ob.base.2);have zC:BW cN 44 3 (wr.alloc (.cells #[] 44)) m (.slice (some ⟨wr.heap.size,0,none⟩) 0 0) []:=World.ownsRow_lit wr #[] 0 hma (by decide) rfl;have oa:=World.ownsRow.kept zC uG.grownBy (by cases (Value.ownBlock (Value.slice (some ⟨wr.heap.size,0,none⟩) 0 0))<;>simp);have Ra:World.ownsRow _ m 42 1 bv.N nv.length nv:=(NR.keep ka).ob.Al.own .AH trivial;have hna:nv.length<=3:=by rw[(NR.ob).ln];unfold U4;simp;omega
    go_wp2_with (at_builtin;refine wpList_append_own_at _ rfl _ _ 27 rfl m 42 ng0 (.slice none 0 0) 1 24 Tryz.underlying27 ngi uJ uK uM rfl (by decide) _ _ _ rfl Ra ⟨_,0,none⟩ 1 1 [(Value.slice (some ⟨wr.heap.size,0,none⟩) 0 0)] rfl rfl (by intro j q hj;match j,hj with|0,hj=>(simp at hj;subst hj;simp[Addr.add])) (by intro q hq;simp at hq;subst hq;rfl) (by unfold maxLen;omega) (by omega) (by simp;omega) ?_)
    intro ua xa Pa Ga _ Ba;obtain⟨ha,Xj⟩:∃l,Hid (l=nv++[(Value.slice (some ⟨wr.heap.size,0,none⟩) 0 0)]):=⟨_,Lib.hid rfl⟩
    have Qa:(EH 42 (nv++[(Value.slice (some ⟨wr.heap.size,0,none⟩) 0 0)]) ua).own xa m:=by
     show xa.ownsRow m 42 1 ua (nv++[(Value.slice (some ⟨wr.heap.size,0,none⟩) 0 0)]).length (nv++[(Value.slice (some ⟨wr.heap.size,0,none⟩) 0 0)]);rw[List.length_append];exact Pa
    obtain⟨Na,Ca,Fa⟩:=NR.Qf (u:=(Value.slice (some ⟨wr.heap.size,0,none⟩) 0 0)) ka (fun q hq=>Nat.le_of_eq (Option.some.inj hq)) oa Ga (by rw[AD,AD];exact Ba) Qa;rw[<-Xj.out] at Na Qa;obtain⟨jm,kU,l7,-⟩:=Bn Qa;subst l7;clear nu ny oC oG oH oI oJ oK NR Ra Pa Qa Ga Ba oa zC ka yt uG hna hma;go_upto_region 13 with fail
    generalize xa.setCell ⟨D,3,none⟩ (.slice jm ha.length kU)=ya at *;clear Ca Fa;have Ab:=Na.keep ((AC.refl ya).alloc (.cells #[.int .i64 (0:Int)] 2));obtain⟨oM,oO,oQ,oU,oV,oZ,og,oh⟩:=Na.ob.cells;go_wp2_with (at_builtin;refine Bx rfl _ _ rfl m _ _ rfl Ab.ob.oX _ rfl [(0:Int)] (MT ya (0:Int)) (by unfold U4;simp;omega) (by simp) (Nat.le_of_lt (Nat.lt_of_le_of_lt Ab.ob.base.1 Ab.ob.base.2)) ?_)
    intro ub xb Ob Gb Bb;obtain⟨lb,VD⟩:∃l,Hid (l=(U4 k).AL++[(0:Int)]):=⟨_,Lib.hid rfl⟩;replace Ob:A8 xb m ub ((U4 k).AL++[(0:Int)]):=Ob;rw[<-VD.out] at Ob;obtain⟨Nb,Cb,Fb⟩:=Ab.WF Gb (by rw[AD];exact Bb) Ob;obtain⟨jo,Zs,hub,-⟩:=id Ob.rd;subst hub;clear oM oO oQ oU oV oZ og oh Ab Na Ob Gb Bb;go_upto_region 14 with fail
    generalize xb.setCell ⟨D,4,none⟩ (.slice jo lb.length Zs)=yb at *;clear Cb Fb
    obtain⟨bz,hZ,NZ⟩:∃bz:BV,Hid (bz.W = .slice a3 AA.length c3)/\NB w5 yb m D bz ha rv bs D AA (U4 (k+1)):=by
     rw[Wg,<-VD.out];refine⟨_,?_,Nb⟩;exact hW
    clear Nb Xj VD;go_wp2;go_roundw;case rel=>exact⟨k+1,bz,ha,by omega,by go_num,hZ,NZ⟩
    case measure=>simp[intOf];omega
   have N8:NB w5 wr m D bv nv rv bs D AA (SI AA.length 0):=by
    rw[show k=AA.length by omega] at NR;exact NR
   have K8:AC w wr:=K5.grown NR.sm (fun q hq=>by have:=Option.some.inj hq;omega);obtain rfl:k=AA.length:=by omega
   clear NR hlt hk;go_wp2_with fail
   refine (CE _ K8).mono ?_;rintro e w9 ⟨v9,rfl,A9,k9⟩;have N9:=N8.keep k9;have CR:=Ea w9 _ _ A9.rd (by have:=Di AA;omega);obtain⟨a9,c9,hv9,-⟩:=id A9.rd;subst hv9;clear A9 N8;go_wp2_with fail
   refine CR.mono ?_;rintro e w10 ⟨v10,rfl,O10,k10⟩;have N10:=N9.keep k10;have HN:Hid (Bq AA=SI AA.length (AX Aj (AB AA)).length):=Lib.hid rfl;have ln:=Hh Aj (AB AA);obtain⟨a10,c10,hv10,-⟩:=id O10.rd;subst hv10;clear O10 N9 CR CE;generalize (AX Aj (AB AA)).length=R at *;go_wp2;go_loopw [60] (fun i wr=>∃(k:Nat) (bv:BV),k<=R/\i = .int .i64 k/\Hid (bv.W = .slice a3 AA.length c3)/\NB w5 wr m D bv nv rv bs D AA (SI AA.length k)) (fun i _=>R-(intOf i).toNat)
   case atStart=>exact⟨0,bv,Nat.zero_le _,rfl,hW,N10⟩
   case round=>
    clear N10 hW;obtain⟨k,bv,hk,rfl,hW,NR⟩:=hrel;by_cases hlt:k<R
    ·
     have i1:(0:Int)<=(k:Int):=Int.natCast_nonneg _;have i2:(k:Int)<(R:Int):=by omega
     have Aa:=NR.keep ((AC.refl wr).alloc (.cells #[.int .i64 (-1:Int)] 2));obtain⟨nu,ny,oC,oG,oH,oI,oJ,oK⟩:=NR.ob.cells;go_wp2_with (at_builtin;refine Bx rfl _ _ rfl m _ _ rfl Aa.ob.oS _ rfl [(-1:Int)] (MT wr (-1:Int)) (by unfold SI;simp;omega) (by simp) (Nat.le_of_lt (Nat.lt_of_le_of_lt Aa.ob.base.1 Aa.ob.base.2)) ?_)
     intro ua xa Oa Ga Ba;obtain⟨la,Xj⟩:∃l,Hid (l=(SI AA.length k).sn++[(-1:Int)]):=⟨_,Lib.hid rfl⟩;replace Oa:A8 xa m ua ((SI AA.length k).sn++[(-1:Int)]):=Oa;rw[<-Xj.out] at Oa;obtain⟨Na,Ca,Fa⟩:=Aa.P8 Ga (by rw[AD];exact Ba) Oa;obtain⟨jm,kU,l7,-⟩:=id Oa.rd;subst l7;clear nu ny oC oG oH oI oJ oK Aa NR Oa Ga Ba;go_upto_region 18 with fail
     generalize xa.setCell ⟨D,5,none⟩ (.slice jm la.length kU)=ya at *;clear Ca Fa;have Ab:=Na.keep ((AC.refl ya).alloc (.cells #[.int .i64 (-1:Int)] 2));obtain⟨oM,oO,oQ,oU,oV,oZ,og,oh⟩:=Na.ob.cells;go_wp2_with (at_builtin;refine Bx rfl _ _ rfl m _ _ rfl Ab.ob.oF _ rfl [(-1:Int)] (MT ya (-1:Int)) (by unfold SI;simp;omega) (by simp) (Nat.le_of_lt (Nat.lt_of_le_of_lt Ab.ob.base.1 Ab.ob.base.2)) ?_)
     intro ub xb Ob Gb Bb;obtain⟨lb,VD⟩:∃l,Hid (l=(SI AA.length k).fr++[(-1:Int)]):=⟨_,Lib.hid rfl⟩;replace Ob:A8 xb m ub ((SI AA.length k).fr++[(-1:Int)]):=Ob;rw[<-VD.out] at Ob;obtain⟨Nb,Cb,Fb⟩:=Ab.TD Gb (by rw[AD];exact Bb) Ob;obtain⟨jo,Zs,hub,-⟩:=id Ob.rd;subst hub;clear oM oO oQ oU oV oZ og oh Ab Na Ob Gb Bb;go_upto_region 19 with fail
     generalize xb.setCell ⟨D,6,none⟩ (.slice jo lb.length Zs)=yb at *;clear Cb Fb
     obtain⟨bz,hZ,NZ⟩:∃bz:BV,Hid (bz.W = .slice a3 AA.length c3)/\NB w5 yb m D bz nv rv bs D AA (SI AA.length (k+1)):=by
      rw[Wh,<-Xj.out,<-VD.out];refine⟨_,?_,Nb⟩;exact hW
     clear Nb Xj VD;go_wp2;go_roundw;case rel=>exact⟨k+1,bz,by omega,by go_num,hZ,NZ⟩
     case measure=>simp[intOf];omega
    obtain rfl:k=R:=by omega
    have KZ:AC w wr:=K5.grown NR.sm (fun q hq=>by have:=Option.some.inj hq;omega);have LZ:=wZ.out.kept NR.sm NR.ob.nD;rw[<-hW.out] at LZ;have OA:=NR.ob.all LZ hbs;have QB:=(NR.sm.block w.heap.size (by have:=K5.size;omega) (fun e=>by have:=Option.some.inj e;omega)).trans hR5.out;have Bh:=NR.ob.B6;rw[<-HN.out] at OA;clear NR LZ;obtain⟨nb,hnb⟩:∃nb,nb=Bq AA:=⟨_,rfl⟩;rw[<-hnb] at OA;have YB:=Lib.hid hnb;clear hnb;obtain⟨vW,vP,vL,vN,vX,vS,vF,vR⟩:=bv;obtain⟨bW,bP,bL,bN,bX,bS,bF,bR,dW,dP,dL,dN,dX,dS,dF,dR,hsh⟩:=OA.rd.shapes;injection hsh with e1 e2 e3 e4 e5 e6 e7 e8;subst e1 e2 e3 e4 e5 e6 e7 e8;have HG:=Lib.hid (AV wr w.heap.size #[.slice bW AA.length dW,.slice bP nb.AM.length dP,.slice bL nb.AQ.length dL,.slice bN nb.AH.length dN,.slice bX nb.AL.length dX,.slice bS nb.sn.length dS,.slice bF nb.fr.length dF,.slice bR nb.rws.length dR]);have HZ:=Lib.hid (setRow_heap wr w.heap.size _ #[.slice bW AA.length dW,.slice bP nb.AM.length dP,.slice bL nb.AQ.length dL,.slice bN nb.AH.length dN,.slice bX nb.AL.length dX,.slice bS nb.sn.length dS,.slice bF nb.fr.length dF,.slice bR nb.rws.length dR] _ _ QB);have HO:=Lib.hid (OA.far HG.out hmw);have HK:=Lib.hid (KZ.grown HG.out (fun q hq=>Nat.le_of_eq (Option.some.inj hq)));simp only[BV.arr] at Bh;clear OA KZ hD hD5 hbs wZ hW hlt hk;go_wp2_with (first|refine wpList_load_row rfl 30 _ rfl D rfl 30 _ (0,0) _ Bh Tryz.underlying30 rfl AF ?_|refine wpList_store_row rfl 30 _ _ rfl w.heap.size _ rfl rfl 30 _ QB AF rfl (by simp[Value.oneCell']) ?_|fail)
    refine bodyPost_ret (Ac (by rfl) _ _ w.heap.size _ _ (0,0) _ rfl HZ.out Tryz.underlying30 rfl AF) rfl ?_;exact⟨⟨.slice bW AA.length dW,.slice bP nb.AM.length dP,.slice bL nb.AQ.length dL,.slice bN nb.AH.length dN,.slice bX nb.AL.length dX,.slice bS nb.sn.length dS,.slice bF nb.fr.length dF,.slice bR nb.rws.length dR⟩,nv,rv,_,rfl,by rw[<-YB.out];exact⟨HO.out.Al.Pl (Nat.le_of_lt hmw),HO.out.ln,HO.out.lr,HO.out.lw⟩,HK.out⟩
theorem QV (w:World)(v:Value)(AA:List (List Dd))(h:Ic w v AA)(hb:AW AA=false)(hx:AA.length<=1048576)(hm:∀i,i<AA.length->(AA.getD i []).length<=1048576):
  Calls Tryz.prog 35 #[v] w fun e w'=>e=PN/\AC w w':=by
 have CW:=fun (W:World) (kW:AC w W)=>Cx W _ AA (h.keep kW) hx hm
 rw[hb] at CW;obtain⟨aD,kM,rfl,-⟩:=id h;clear h hm hb;go_enter Tryz.func35,Tryz.ntmps35
 go_wp2_with fail
 refine (CW _ ((AC.refl w).alloc _)).mono ?_;rintro e w2 ⟨rfl,k2⟩;go_wp2_with fail
 refine (Gg _).mono ?_;rintro e w3 ⟨rfl,rfl⟩;go_wp2;exact⟨rfl,rfl,((AC.refl w).alloc _).trans k2⟩
theorem Wm (p0 p1:Addr)(w:World):CallsD Tryz.prog 34 #[.pointer (some p0),.pointer (some p1)] .returning w fun e u' w'=>e = .returned (.tuple #[])/\u' = .returning/\w'=w:=by
 refine callsD_of_wpS Tryz.func34 rfl fun c₀ cs hu=>?_
 apply wpS_seq;apply wpS_region;have hn:∀w:World,(binOp BinOp.neq 20 .nilIface .nilIface).run Tryz.prog w = .ok (.bool false) w:=fun _=>by kernel_rfl
 simp[wpOpsS,go_sem,recoverD,hu,Tryz.ntmps34,Exit.thenS,hn];refine wpS_cond (t:=false) (by simp[Act.eval,Array.replicate]) ?_;simp only[Bool.false_eq_true,if_false];refine wpS_of_wp (wp_skip ?_);cases c₀;simp_all [bodyPostS,results,Tryz.results34]
theorem ZE (g g':Nat)(hne:g'≠g)(w:World)(old:Array Value)(ho:old.size=8)(x':Value)(hg:w.heap[g]? = some (.cells old 30 (0,0)))(hg':w.heap[g']? = some (.cells #[x'] 4 (0,0))):
  CallsD Tryz.prog 34 #[.pointer (some ⟨g,0,none⟩),.pointer (some ⟨g',0,none⟩)] (.panicking [{ v:=Xw,recovered:=false }]) w fun e u' w'=>e = .returned (.tuple #[])/\u' = .panicking [{ v:=Xw,recovered:=true }]/\w'=(w.setRow g #[AE,AE,AE,AE,AE,AE,AE,AE]).setCell ⟨g',0,none⟩ (.bool false):=by
 have hg2:(w.setRow g #[AE,AE,AE,AE,AE,AE,AE,AE]).heap[g']? = some (.cells #[x'] 4 (0,0)):=((AV w g #[AE,AE,AE,AE,AE,AE,AE,AE]).block g' (Array.getElem?_eq_some_iff.1 hg').1 (fun e=>hne (Option.some.inj e))).trans hg';have hc2:(w.setRow g #[AE,AE,AE,AE,AE,AE,AE,AE]).cell? ⟨g',0,none⟩=some x':=by rw[cell_of_row _ g' 0 _ _ _ hg2];rfl
 have hf2:(w.setRow g #[AE,AE,AE,AE,AE,AE,AE,AE]).frozen? ⟨g',0,none⟩=false:=frozen_of_row _ g' 0 _ _ hg2;have hv:∀w:World,(binOp BinOp.neq 20 Xw .nilIface).run Tryz.prog w = .ok (.bool true) w:=fun _=>by kernel_rfl
 refine callsD_of_wpS Tryz.func34 rfl fun c₀ cs hu=>?_
 apply wpS_seq;apply wpS_region;simp[wpOpsS,go_sem,recoverD,hu,Tryz.ntmps34,Exit.thenS,hv];refine wpS_cond (t:=true) (by simp[Act.eval,Array.replicate]) ?_;simp only[if_true];refine wpS_of_wp ?_;go_wp2_with (first|refine wpList_store_row rfl 30 _ _ rfl g _ rfl rfl 30 _ hg AF ho (by simp[Value.oneCell']) ?_|fail)
 cases c₀;simp_all [bodyPostS,results,Tryz.results34]
theorem Gu {P:Program}{fn:Func}{p q:Tmp}{ty ty':TypeId}(h:fn.results=#[.cell p ty,.cell q ty'])(tmps:Array Value)(w:World)(g g':Nat)(t:TypeId)(cs:Array Value)(fr:Nat×Nat)(d:TypeDesc){x:Value}
  (hp:tmps.getD p undef = .pointer (some ⟨g,0,none⟩)) (hg:w.heap[g]? = some (.cells cs t fr)) (hq:tmps.getD q undef = .pointer (some ⟨g',0,none⟩)) (hc:w.cell? ⟨g',0,none⟩=some x)
  (hu:P.underlying ty=some d) (hd:(match d with | .struct _ | .array _ _=>true|_=>false)=true) (hi:(P.info? ty).map (·.size)=some cs.size) (hagg:(isAgg ty').run P w = .ok false w):
  (results fn tmps).run P w = .ok (.tuple #[.agg cs,x]) w:=by
 have hp':tmps[p]?.getD undef = .pointer (some ⟨g,0,none⟩):=by simpa using hp
 have hq':tmps[q]?.getD undef = .pointer (some ⟨g',0,none⟩):=by simpa using hq
 have hl:(loadVar ty' ⟨g',0,none⟩).run P w = .ok x w:=by
  simp[Sem.run_bind,Result.andThen,loadVar,load,hagg];simp[Sem.run,hc]
 simp[results,h,hp',hq',asAddr,run_loadVar_row w g t ty cs fr d hg hu hd hi,hl]
theorem IK (w:World)(m:Nat):Ek w m Ts [] [] [] [] PR:=by
 have hv:∀i,Eg [] [] [] i->(IV Ts [] [] [] [] PR i).v.ownBlock=none:=fun i hi=>by
  cases i with
  |wk=>rfl
  |wd c=>exact absurd (show c<0 from hi) (by omega)
  |b i=>
   cases i with
   |bd=>exact absurd rfl hi.2
   |nt c=>exact absurd (show c<0 from hi.1) (by omega)
   |rw c=>exact absurd (show c<0 from hi.1) (by omega)
   |_=>rfl
 refine⟨⟨fun i hi=>?_,fun i j hi _ _ => .inl (hv i hi)⟩,rfl,rfl,rfl⟩
 cases i with
 |wk=>exact⟨rfl,.inl ⟨rfl,rfl⟩⟩
 |wd c=>exact absurd (show c<0 from hi) (by omega)
 |b i=>
  cases i with
  |bd=>exact absurd rfl hi.2
  |nt c=>exact absurd (show c<0 from hi.1) (by omega)
  |rw c=>exact absurd (show c<0 from hi.1) (by omega)
  |_=>exact⟨rfl,.inl ⟨rfl,rfl⟩⟩
theorem Jv (w:World)(v:Value)(AA:List (List Dd))(h:Ic w v AA)(hx:AA.length<=1048576)(hm:∀i,i<AA.length->(AA.getD i []).length<=1048576):
  Calls Tryz.prog 8 #[v] w fun e w'=>∃bv:BV,e = .returned (.tuple #[bv.agg,.bool (AW AA)])/\Ct w' w.heap.size w'.heap.size bv (MG AA) (Dn AA)/\AC w w':=by
 have CN:=fun (W:World) (kW:AC w W) (e:AW AA=false)=>QV W _ AA (h.keep kW) e hx hm
 have CY:=fun (W:World) (kW:AC w W) (e:AW AA=true)=>Op W _ AA (h.keep kW) e hx hm
 have HD:Hid (MG AA=if AW AA=true then AA else []):=Lib.hid rfl;have HB:Hid (Dn AA=if AW AA=true then Bq AA else PR):=Lib.hid rfl;obtain⟨aD,kM,rfl,-⟩:=id h;clear h hm;have yU:∀(fn:Fn) (first cap:Array Value) (w:World),(Instr.makeFunc fn first cap).run Tryz.prog w = .ok (.func fn first cap) w:=fun _ _ _ _=>rfl
 obtain⟨w1,hw1⟩:∃W:World,W=((w.alloc (.cells #[AE,AE,AE,AE,AE,AE,AE,AE] 30)).alloc (.cells #[.bool false] 4)):=⟨_,rfl⟩;have K1:AC w w1:=by rw[hw1];exact ((AC.refl w).alloc _).alloc _
 have s1:w1.heap.size=w.heap.size+2:=by rw[hw1,AD,AD]
 have hV1:w1.heap[w.heap.size+1]? = some (.cells #[.bool false] 4 (0,0)):=by
  rw[hw1,Bj,if_pos (by rw[AD])]
 have hR1:w1.heap[w.heap.size]? = some (.cells #[AE,AE,AE,AE,AE,AE,AE,AE] 30 (0,0)):=by rw[hw1];exact (Below.block ((AC.refl _).alloc _) _ (by rw[AD];omega)).trans (heap_alloc_new _ _)
 go_enter_defers Tryz.func8,Tryz.ntmps8
 go_upto_region 2 with fail
 rw[<-hw1];clear hw1;cases hb:AW AA
 ·
  have C:=CN _ K1 hb;have ql:Hid (MG AA=[]):=Lib.hid (by rw[HD.out,hb];rfl);have o8:Hid (Dn AA=PR):=Lib.hid (by rw[HB.out,hb];rfl);clear CN CY HD HB;go_wp2_with fail
  refine C.mono ?_;rintro e w2 ⟨rfl,k2⟩;have K2:=K1.trans k2;have z2:=k2.size;have hR2:=(Below.block k2 w.heap.size (by omega)).trans hR1;have hV2:=(Below.block k2 (w.heap.size+1) (by omega)).trans hV1;have g3:=AV w2 w.heap.size #[AE,AE,AE,AE,AE,AE,AE,AE];have h3:=setRow_heap w2 w.heap.size _ #[AE,AE,AE,AE,AE,AE,AE,AE] _ _ hR2;have v3:=(g3.block (w.heap.size+1) (by omega) (fun e=>by have:=Option.some.inj e;omega)).trans hV2;have v4:=heap_setCell_same _ (w.heap.size+1) 0 _ _ (.bool false) v3;have h4:=(heap_setCell_other (w2.setRow w.heap.size #[AE,AE,AE,AE,AE,AE,AE,AE]) ⟨w.heap.size+1,0,none⟩ w.heap.size (.bool false) (by show w.heap.size≠w.heap.size+1;omega)).trans h3;have g4:=Ad (w2.setRow w.heap.size #[AE,AE,AE,AE,AE,AE,AE,AE]) (w.heap.size+1) 0 (.bool false);have HR3:=Lib.hid h4;have HC3:Hid (((w2.setRow w.heap.size #[AE,AE,AE,AE,AE,AE,AE,AE]).setCell ⟨w.heap.size+1,0,none⟩ (.bool false)).cell? ⟨w.heap.size+1,0,none⟩=some (.bool false)):=Lib.hid (by rw[cell_of_row _ _ 0 _ _ _ v4];rfl);have KZ:=Lib.hid ((K2.grown g3 (fun k hk=>by have:=Option.some.inj hk;omega)).grown g4 (fun k hk=>by have:=Option.some.inj hk;omega));have c3:(w2.setRow w.heap.size #[AE,AE,AE,AE,AE,AE,AE,AE]).cell? ⟨w.heap.size+1,0,none⟩=some (.bool false):=by rw[cell_of_row _ _ 0 _ _ _ v3];rfl
  have f3:=frozen_of_row (w2.setRow w.heap.size #[AE,AE,AE,AE,AE,AE,AE,AE]) (w.heap.size+1) 0 _ _ v3;clear g3 h3 v3 v4 h4 g4 c3 f3 hR1 hV1;go_wp2;refine leaves_cons (f:=34) (args:=#[.pointer (some ⟨w.heap.size,0,none⟩),.pointer (some ⟨w.heap.size+1,0,none⟩)]) (by simp) (by simp[go_sem]) ?_;refine (ZE _ _ (by omega) _ _ rfl _ hR2 hV2).mono ?_;rintro e u' w9 ⟨rfl,rfl,rfl⟩;have hres:=fun (tmps:Array Value) (h0:tmps.getD 2 undef = .pointer (some ⟨w.heap.size,0,none⟩)) (h1:tmps.getD 3 undef = .pointer (some ⟨w.heap.size+1,0,none⟩))=>Gu (P:=Tryz.prog) (fn:=Tryz.f8) (by rfl) tmps _ w.heap.size (w.heap.size+1) 30 _ (0,0) _ h0 HR3.out h1 HC3.out Tryz.underlying30 rfl AF (by kernel_rfl)
  show ∃v,(results _ _).run Tryz.prog _ = .ok v _/\_;refine⟨_,hres _ rfl rfl,?_⟩;exact⟨Ts,by rw[hb],by rw[ql.out,o8.out];exact (IK _ _).free,KZ.out⟩
 ·
  have C:=CY _ K1 hb;have ql:Hid (MG AA=AA):=Lib.hid (by rw[HD.out,hb];rfl);have o8:Hid (Dn AA=Bq AA):=Lib.hid (by rw[HB.out,hb];rfl);clear CN CY HD HB;go_wp2_with fail
  refine C.mono ?_;rintro e w2 ⟨bv,nv,rv,wv,rfl,OA,k2⟩;have K2:=K1.trans k2;have z2:=k2.size;have hR2:=(Below.block k2 w.heap.size (by omega)).trans hR1;have hV2:=(Below.block k2 (w.heap.size+1) (by omega)).trans hV1;obtain⟨nb,hnb⟩:∃nb,nb=Bq AA:=⟨_,rfl⟩;rw[<-hnb] at OA o8;clear hnb C;obtain⟨vW,vP,vL,vN,vX,vS,vF,vR⟩:=bv;obtain⟨bW,bP,bL,bN,bX,bS,bF,bR,dW,dP,dL,dN,dX,dS,dF,dR,hsh⟩:=OA.rd.shapes;injection hsh with e1 e2 e3 e4 e5 e6 e7 e8;subst e1 e2 e3 e4 e5 e6 e7 e8;have g3:=AV w2 w.heap.size #[.slice bW AA.length dW,.slice bP nb.AM.length dP,.slice bL nb.AQ.length dL,.slice bN nb.AH.length dN,.slice bX nb.AL.length dX,.slice bS nb.sn.length dS,.slice bF nb.fr.length dF,.slice bR nb.rws.length dR];have h3:=setRow_heap w2 w.heap.size _ #[.slice bW AA.length dW,.slice bP nb.AM.length dP,.slice bL nb.AQ.length dL,.slice bN nb.AH.length dN,.slice bX nb.AL.length dX,.slice bS nb.sn.length dS,.slice bF nb.fr.length dF,.slice bR nb.rws.length dR] _ _ hR2;have v3:=(g3.block (w.heap.size+1) (by omega) (fun e=>by have:=Option.some.inj e;omega)).trans hV2;have v4:=heap_setCell_same _ (w.heap.size+1) 0 _ _ (.bool true) v3;have h4:=(heap_setCell_other (w2.setRow w.heap.size #[.slice bW AA.length dW,.slice bP nb.AM.length dP,.slice bL nb.AQ.length dL,.slice bN nb.AH.length dN,.slice bX nb.AL.length dX,.slice bS nb.sn.length dS,.slice bF nb.fr.length dF,.slice bR nb.rws.length dR]) ⟨w.heap.size+1,0,none⟩ w.heap.size (.bool true) (by show w.heap.size≠w.heap.size+1;omega)).trans h3;have g4:=Ad (w2.setRow w.heap.size #[.slice bW AA.length dW,.slice bP nb.AM.length dP,.slice bL nb.AQ.length dL,.slice bN nb.AH.length dN,.slice bX nb.AL.length dX,.slice bS nb.sn.length dS,.slice bF nb.fr.length dF,.slice bR nb.rws.length dR]) (w.heap.size+1) 0 (.bool true);have HR3:=Lib.hid h4;have HC3:Hid (((w2.setRow w.heap.size #[.slice bW AA.length dW,.slice bP nb.AM.length dP,.slice bL nb.AQ.length dL,.slice bN nb.AH.length dN,.slice bX nb.AL.length dX,.slice bS nb.sn.length dS,.slice bF nb.fr.length dF,.slice bR nb.rws.length dR]).setCell ⟨w.heap.size+1,0,none⟩ (.bool true)).cell? ⟨w.heap.size+1,0,none⟩=some (.bool true)):=Lib.hid (by rw[cell_of_row _ _ 0 _ _ _ v4];rfl);have KZ:=Lib.hid ((K2.grown g3 (fun k hk=>by have:=Option.some.inj hk;omega)).grown g4 (fun k hk=>by have:=Option.some.inj hk;omega));have c3:(w2.setRow w.heap.size #[.slice bW AA.length dW,.slice bP nb.AM.length dP,.slice bL nb.AQ.length dL,.slice bN nb.AH.length dN,.slice bX nb.AL.length dX,.slice bS nb.sn.length dS,.slice bF nb.fr.length dF,.slice bR nb.rws.length dR]).cell? ⟨w.heap.size+1,0,none⟩=some (.bool false):=by rw[cell_of_row _ _ 0 _ _ _ v3];rfl
  have f3:=frozen_of_row (w2.setRow w.heap.size #[.slice bW AA.length dW,.slice bP nb.AM.length dP,.slice bL nb.AQ.length dL,.slice bN nb.AH.length dN,.slice bX nb.AL.length dX,.slice bS nb.sn.length dS,.slice bF nb.fr.length dF,.slice bR nb.rws.length dR]) (w.heap.size+1) 0 _ _ v3;have O4:=Lib.hid ((OA.far g3 (by omega)).far g4 (by omega));clear g3 h3 v3 v4 h4 g4 hR1 hV1 OA;go_wp2_with (first|refine wpList_store_row rfl 30 _ _ rfl w.heap.size _ rfl rfl 30 _ hR2 AF rfl (by simp[Value.oneCell']) ?_|fail)
  refine leaves_cons (f:=34) (args:=#[.pointer (some ⟨w.heap.size,0,none⟩),.pointer (some ⟨w.heap.size+1,0,none⟩)]) (by simp) (by simp[go_sem]) ?_;refine (Wm _ _ _).mono ?_;rintro e u' w9 ⟨rfl,rfl,rfl⟩;have hres:=fun (tmps:Array Value) (h0:tmps.getD 2 undef = .pointer (some ⟨w.heap.size,0,none⟩)) (h1:tmps.getD 3 undef = .pointer (some ⟨w.heap.size+1,0,none⟩))=>Gu (P:=Tryz.prog) (fn:=Tryz.f8) (by rfl) tmps _ w.heap.size (w.heap.size+1) 30 _ (0,0) _ h0 HR3.out h1 HC3.out Tryz.underlying30 rfl AF (by kernel_rfl)
  show ∃v,(results _ _).run Tryz.prog _ = .ok v _/\_;refine⟨_,hres _ rfl rfl,?_⟩;exact⟨⟨_,_,_,_,_,_,_,_⟩,by rw[hb],by rw[ql.out,o8.out];exact Ek.free ⟨O4.out.Al.Pl (by omega),O4.out.ln,O4.out.lr,O4.out.lw⟩,KZ.out⟩
end Go.Proofs.YtgakfkjjkobpiaaGreat
