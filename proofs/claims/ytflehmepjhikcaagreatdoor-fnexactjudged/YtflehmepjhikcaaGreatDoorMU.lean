/- Gathered texts. -/
import Derived.Test.YtflehmepjhikcaaGreatDoorMT
import Derived.BigQuiet
import Derived.Deep.Cut
import Derived.RegionTactic
import Derived.Test.YtflehmepjhikcaaGreatDoorMR
import Derived.Maps.AppendAt
import Derived.Defers
import Derived.Recover
import Derived.Lib.Hide
import Derived.Laws.Rows
set_option maxRecDepth 100000
set_option maxHeartbeats 8000000
namespace Go.Proofs.YtflehmepjhikcaaGreatDoor
open Go.ChangeShapes Go.WideShapes Go.ChangeAt Go.RowKit
theorem ZO (w:World)(m:Nat)(v:BV)(nv rv:List Value)(bs N:Nat)(AA:List (List Dd))(b:Bd)(n c:Nat)(h:BL w m v nv rv bs N AA b)(S:Dq AA b n)(hn:n<=900)(hm:m<=w.heap.size)(hc:c<AA.length)(h0:0<=b.AK.getD c 0)(hk:Aj b c<(AA.getD c []).length)(h3:(Ai AA c (Aj b c)).1=3->b.AJ.getD c []=[]):
  Calls Tryz.prog 150 #[v.agg,.int .i64 c] w fun e w'=>e = .returned (.tuple #[])/\∃nv' rv',BL w' m v nv' rv' bs N AA (Ao AA (AB AA) b (c:Int))/\Ah w w' (DT v nv rv) (DT v nv' rv'):=by
 have hd3:AA.length<=3:=(BH S.work).1;have wY:=Lib.hid (WK.start S hn hc h0 hk (by omega));obtain⟨T,hT⟩:∃T,T=Ao AA (AB AA) b (c:Int):=⟨_,rfl⟩;obtain⟨g,hg⟩:∃g,g=BE AA c (Aj b c):=⟨_,rfl⟩;rw[<-hT,<-hg] at wY;have h5:=DS S.work hc;have sV:=Lib.hid (Bu S.work hc);have lX:c<b.AK.length:=by rw[S.AK];exact hc
 have XS:=Lib.hid S;obtain⟨aW,aP,aL,aN,aX,aS,aF,aR,cW,cP,cL,cQ,cX,cS,cF,cR,rfl⟩:=h.rd0.shapes;have O1:=h.box hm;obtain⟨gx,cx,ex,-⟩:=O1.oX.lit lX;simp only[Value.slice.injEq] at ex;obtain⟨rfl,-,rfl⟩:=ex;obtain⟨a',c',ew,hW⟩:=O1.rd.W;simp only[Value.slice.injEq] at ew;obtain⟨rfl,-,rfl⟩:=ew;rcases hW with q|⟨bw,ow,rfl,hbw,hcw⟩
 . exfalso;rw[q] at hc;simp at hc
 obtain⟨vd,dw,rd⟩:=hcw c hc;obtain⟨ds,hds⟩:∃ds,ds=AA.getD c []:=⟨_,rfl⟩;rw[<-hds] at rd h5;obtain⟨ad,cd,rfl,-⟩:=id rd;have CN:=Ih w;obtain⟨w1,hw1⟩:∃W:World,W=w.alloc (.cells #[.slice (some ⟨bw,ow,none⟩) AA.length cW,.slice aP b.AM.length cP,.slice aL b.AO.length cL,.slice aN b.AJ.length cQ,.slice (some ⟨gx,0,none⟩) b.AK.length cX,.slice aS b.sn.length cS,.slice aF b.fr.length cF,.slice aR b.rws.length cR] 103):=⟨_,rfl⟩;have rQ:w1.heap.size=w.heap.size+1:=by rw[hw1,AD]
 have K01:AC w w1:=by rw[hw1];exact (AC.refl w).alloc _
 replace O1:AU w1 m w.heap.size ⟨.slice (some ⟨bw,ow,none⟩) AA.length cW,.slice aP b.AM.length cP,.slice aL b.AO.length cL,.slice aN b.AJ.length cQ,.slice (some ⟨gx,0,none⟩) b.AK.length cX,.slice aS b.sn.length cS,.slice aF b.fr.length cF,.slice aR b.rws.length cR⟩ nv rv bs N AA b:=by rw[hw1];exact O1
 replace dw:w1.cell? ⟨bw,ow+c,none⟩=some (.slice ad ds.length (ds.length+cd)):=by rw[hw1];exact dw
 have XO:=Lib.hid O1
 have XL:Hid (∀(W:World) (F':Nat->Prop),Ah w1 W (DT ⟨.slice (some ⟨bw,ow,none⟩) AA.length cW,.slice aP b.AM.length cP,.slice aL b.AO.length cL,.slice aN b.AJ.length cQ,.slice (some ⟨gx,0,none⟩) b.AK.length cX,.slice aS b.sn.length cS,.slice aF b.fr.length cF,.slice aR b.rws.length cR⟩ nv rv) F'->IY W (.slice ad ds.length (ds.length+cd)) ds):=Lib.hid (fun W F' t=>by
  obtain⟨a2,c2,e2,hx⟩:=O1.work;simp only[Value.slice.injEq,true_and] at e2;rcases hx with q|⟨b2,o2,q1,q2,q3,q4,q5⟩
  . exfalso;rw[q] at hc;simp at hc
  rw[q1] at e2;simp only[Option.some.injEq,Addr.mk.injEq,and_true] at e2;obtain⟨⟨rfl,rfl⟩,-⟩:=e2;obtain⟨vi,u1,u2,u3⟩:=q5 c hc;rw[dw] at u1;have u4:=Option.some.inj u1;subst u4;rw[<-hds] at u2
  exact (C7.Vi (D6 (r:=Rk ds _) u2 (fun g hg=>t.block g (World.ownsRow.lt u2 g hg).2 (fun hB=>by
   have:=(XO.out.blk g (Wz hB)).2.2;have:=(World.ownsRow.lt u2 g hg).1;have:=u3 g hg
   omega)))).rd)
 have XV:=Lib.hid (h.keep K01);have NB:Hid (∀q,DT ⟨.slice (some ⟨bw,ow,none⟩) AA.length cW,.slice aP b.AM.length cP,.slice aL b.AO.length cL,.slice aN b.AJ.length cQ,.slice (some ⟨gx,0,none⟩) b.AK.length cX,.slice aS b.sn.length cS,.slice aF b.fr.length cF,.slice aR b.rws.length cR⟩ nv rv q->q<w.heap.size):=Lib.hid (fun q hq=>(h.blk q hq).2.1);have c0:w1.cell? ⟨w.heap.size,0,none⟩=some (.slice (some ⟨bw,ow,none⟩) AA.length cW):=O1.cells.1;have i1:(0:Int)<=(c:Int):=Int.natCast_nonneg _;have i2:(c:Int)<(AA.length:Int):=by omega
 have IK:=O1.Kb;simp only[BV.arr] at IK;have Kq:=Lib.hid hds;have zT:=Lib.hid IK;have HT:=Lib.hid hT;have hm1:m<=w1.heap.size:=by omega
 have CD:=Ih w1 m _ nv rv bs N AA b n c XV.out S (by omega) hm1 hc h0 hk h3;clear hcw O1 h S h3 hds hT hg rd CN hk;go_enter Tryz.func150,Tryz.ntmps150
 go_upto_region 1 with fail
 rw[<-hw1];clear hw1;go_wp2_with (first|refine wpList_load_row rfl 103 _ rfl w.heap.size rfl 103 _ (0,0) _ IK Tryz.underlying103 rfl AQ ?_|fail)
 refine CD.mono ?_;rintro e w2 ⟨rfl,nv2,rv2,V2,T2⟩;have kT:=Lib.hid V2;have xI:=Lib.hid T2;have nD:∀F',Ah w1 w2 (DT ⟨.slice (some ⟨bw,ow,none⟩) AA.length cW,.slice aP b.AM.length cP,.slice aL b.AO.length cL,.slice aN b.AJ.length cQ,.slice (some ⟨gx,0,none⟩) b.AK.length cX,.slice aS b.sn.length cS,.slice aF b.fr.length cF,.slice aR b.rws.length cR⟩ nv rv) F'->w2.heap[w.heap.size]? = w1.heap[w.heap.size]?:=fun F' t=>t.block _ (by omega) (fun q=>by have:=NB.out _ q;omega)
 have hD2:=(nD _ T2).trans IK;clear V2 T2 nD CD dw c0 IK XV XO;go_wp2;go_loopw [] (fun wr=>∃(nv' rv':List Value) (b':Bd) (n':Nat),BL wr m ⟨.slice (some ⟨bw,ow,none⟩) AA.length cW,.slice aP b.AM.length cP,.slice aL b.AO.length cL,.slice aN b.AJ.length cQ,.slice (some ⟨gx,0,none⟩) b.AK.length cX,.slice aS b.sn.length cS,.slice aF b.fr.length cF,.slice aR b.rws.length cR⟩ nv' rv' bs N AA b'/\Ah w1 wr (DT ⟨.slice (some ⟨bw,ow,none⟩) AA.length cW,.slice aP b.AM.length cP,.slice aL b.AO.length cL,.slice aN b.AJ.length cQ,.slice (some ⟨gx,0,none⟩) b.AK.length cX,.slice aS b.sn.length cS,.slice aF b.fr.length cF,.slice aR b.rws.length cR⟩ nv rv) (DT ⟨.slice (some ⟨bw,ow,none⟩) AA.length cW,.slice aP b.AM.length cP,.slice aL b.AO.length cL,.slice aN b.AJ.length cQ,.slice (some ⟨gx,0,none⟩) b.AK.length cX,.slice aS b.sn.length cS,.slice aF b.fr.length cF,.slice aR b.rws.length cR⟩ nv' rv')/\WK AA c g T b' n') (fun wr=>match wr.cell? ⟨gx,c,none⟩ with|some x=>ds.length-(intOf x).toNat|none=>0)
 case atStart=>exact⟨nv2,rv2,_,_,kT.out,xI.out,wY.out⟩
 case round=>
  obtain⟨nv',rv',b',n',VJ,TJ,KJ⟩:=hrel;clear kT xI hD2;have pM:c<b'.AK.length:=by rw[KJ.WR.AK];exact hc
  obtain⟨gx',cx',ex',lgx,kY,-⟩:=(show A7 wr m (BV.X ⟨.slice (some ⟨bw,ow,none⟩) AA.length cW,.slice aP b.AM.length cP,.slice aL b.AO.length cL,.slice aN b.AJ.length cQ,.slice (some ⟨gx,0,none⟩) b.AK.length cX,.slice aS b.sn.length cS,.slice aF b.fr.length cF,.slice aR b.rws.length cR⟩) b'.AK from VJ.Af.own .AK ⟨trivial,by simp⟩).lit pM;have ex2:Value.slice (some ⟨gx,0,none⟩) b.AK.length cX = .slice (some ⟨gx',0,none⟩) b'.AK.length cx':=ex';simp only[Value.slice.injEq,Option.some.injEq,Addr.mk.injEq,and_true] at ex2;obtain⟨k,hkz⟩:=Int.eq_ofNat_of_zero_le KJ.z;have hkn:Aj b' c=k:=by unfold Aj;rw[hkz];rfl
  have gB:wr.cell? ⟨gx,c,none⟩=some (.int .i64 (k:Int)):=by rw[ex2.1,<-hkz];exact kY c pM
  have iL:=Lib.hid KJ;have hle:=KJ.le;rw[hkn,<-Kq.out] at hle;have yG:wr.heap[w.heap.size]? = some (.cells #[.slice (some ⟨bw,ow,none⟩) AA.length cW,.slice aP b.AM.length cP,.slice aL b.AO.length cL,.slice aN b.AJ.length cQ,.slice (some ⟨gx,0,none⟩) b.AK.length cX,.slice aS b.sn.length cS,.slice aF b.fr.length cF,.slice aR b.rws.length cR] 103 (0,0)):=(TJ.block _ (by omega) (fun q=>by have:=NB.out _ q;omega)).trans zT.out;have c4:wr.cell? ⟨w.heap.size,4,none⟩=some (.slice (some ⟨gx,0,none⟩) b.AK.length cX):=by rw[cell_of_row wr _ 4 _ _ _ yG];rfl
  have xM:=Lib.hid VJ;have sw:=Lib.hid TJ;have xB:=Lib.hid (XL.out wr _ TJ);have i3:(c:Int)<(b.AK.length:Int):=by omega
  have i4:(0:Int)<=(k:Int):=Int.natCast_nonneg _
  have WY:Hid (¬(k<ds.length/\Fw ds k=true)->∃nv'' rv'',BL wr m ⟨.slice (some ⟨bw,ow,none⟩) AA.length cW,.slice aP b.AM.length cP,.slice aL b.AO.length cL,.slice aN b.AJ.length cQ,.slice (some ⟨gx,0,none⟩) b.AK.length cX,.slice aS b.sn.length cS,.slice aF b.fr.length cF,.slice aR b.rws.length cR⟩ nv'' rv'' bs N AA T/\Ah w wr (DT ⟨.slice (some ⟨bw,ow,none⟩) AA.length cW,.slice aP b.AM.length cP,.slice aL b.AO.length cL,.slice aN b.AJ.length cQ,.slice (some ⟨gx,0,none⟩) b.AK.length cX,.slice aS b.sn.length cS,.slice aF b.fr.length cF,.slice aR b.rws.length cR⟩ nv rv) (DT ⟨.slice (some ⟨bw,ow,none⟩) AA.length cW,.slice aP b.AM.length cP,.slice aL b.AO.length cL,.slice aN b.AJ.length cQ,.slice (some ⟨gx,0,none⟩) b.AK.length cX,.slice aS b.sn.length cS,.slice aF b.fr.length cF,.slice aR b.rws.length cR⟩ nv'' rv'')):=Lib.hid (fun hno=>by
   obtain⟨mm,-,hT⟩:=iL.out.go;rw[hkn,<-Kq.out,if_neg hno] at hT
   exact⟨nv',rv',by rw[hT];exact xM.out,((Ah.refl w _).keep K01).trans sw.out⟩)
  clear VJ TJ KJ ex' ex2 kY;by_cases hl:k<ds.length
  ·
   have hd:decide ((k:Int)<(ds.length:Int))=true:=decide_eq_true (by omega)
   cases hgo:Fw ds k with
   |true=>
    have qW:∀q,Calls Tryz.prog 119 #[.slice ad ds.length (ds.length+cd),.int .i64 (k:Int)] (wr.drewN q) fun e w'=>e = .returned (.bool true)/\∃r,w'=(wr.drewN q).drewN r:=fun q=>by
     rw[<-hgo];exact JV (wr.drewN q) _ ds (xB.out.keep ((AC.refl wr).drewN q)) k hl (by omega)
    obtain⟨g1,g2⟩:=iL.out.gg (by rw[hkn,<-Kq.out];exact hl) (by rw[hkn,<-Kq.out];exact hgo);rw[hkn] at g1;have CD:=fun (W:World) (kW:AC wr W)=>Ih W m _ nv' rv' bs N AA b' n' c (xM.out.keep kW) iL.out.WR (by have:=iL.out.nt;omega) (Nat.le_trans (show m<=wr.heap.size by have:=sw.out.size;omega) kW.size) hc iL.out.z (by rw[hkn,<-Kq.out];exact hl) (fun q3=>absurd q3 (ER sV.out (by rw[hkn,<-Kq.out];exact hl) (by rw[hkn,g1];exact g2)).2.1)
    clear hle WY;go_upto_region 3 with fail
    go_quiet ((first|(go_at_call 101;exact Calls.quiet_of_same (C8 _ _ _ _))|(go_at_call 119;exact Calls.quiet_of (qW _))))
    have IK:(wr.drewN nq).heap[w.heap.size]? = some (.cells #[.slice (some ⟨bw,ow,none⟩) AA.length cW,.slice aP b.AM.length cP,.slice aL b.AO.length cL,.slice aN b.AJ.length cQ,.slice (some ⟨gx,0,none⟩) b.AK.length cX,.slice aS b.sn.length cS,.slice aF b.fr.length cF,.slice aR b.rws.length cR] 103 (0,0)):=yG;go_wp2_with (first|refine wpList_load_row rfl 103 _ rfl w.heap.size rfl 103 _ (0,0) _ IK Tryz.underlying103 rfl AQ ?_|fail)
    refine (CD _ ((AC.refl wr).drewN _)).mono ?_;rintro e w5 ⟨rfl,nv5,rv5,V5,T5⟩;have HS:=iL.out.step hc (by rw[hkn,<-Kq.out];exact hl) (by rw[hkn,<-Kq.out];exact hgo);have T6:=(sw.out.keep ((AC.refl wr).drewN _)).trans T5;obtain⟨e1,e2⟩:=PT (AA:=AA) (es:=AB AA) pM iL.out.z;obtain⟨gx',cx',ex',-,xk,-⟩:=(show A7 w5 m (BV.X ⟨.slice (some ⟨bw,ow,none⟩) AA.length cW,.slice aP b.AM.length cP,.slice aL b.AO.length cL,.slice aN b.AJ.length cQ,.slice (some ⟨gx,0,none⟩) b.AK.length cX,.slice aS b.sn.length cS,.slice aF b.fr.length cF,.slice aR b.rws.length cR⟩) _ from V5.Af.own .AK ⟨trivial,by simp⟩).lit (show c<(Ag AA (AB AA) b' c).AK.length by rw[HS.WR.AK];exact hc);have ex2:Value.slice (some ⟨gx,0,none⟩) b.AK.length cX = .slice (some ⟨gx',0,none⟩) (Ag AA (AB AA) b' c).AK.length cx':=ex';simp only[Value.slice.injEq,Option.some.injEq,Addr.mk.injEq,and_true] at ex2
    have zw:w5.cell? ⟨gx,c,none⟩=some (.int .i64 ((k:Int)+1)):=by
     have:=xk c (by rw[HS.WR.AK];exact hc);rw[e1,hkz,<-ex2.1] at this;exact this
    have HV5:=Lib.hid V5;have HT6:=Lib.hid T6;have zI:=Lib.hid HS;clear V5 T5 T6 HS xk ex' ex2 IK qW CD;go_wp2;go_roundw;case rel=>exact⟨nv5,rv5,_,_,HV5.out,HT6.out,zI.out⟩
    case measure=>simp only[zw,gB,intOf];omega
   |false=>
    have qW:∀q,Calls Tryz.prog 119 #[.slice ad ds.length (ds.length+cd),.int .i64 (k:Int)] (wr.drewN q) fun e w'=>e = .returned (.bool false)/\∃r,w'=(wr.drewN q).drewN r:=fun q=>by
     rw[<-hgo];exact JV (wr.drewN q) _ ds (xB.out.keep ((AC.refl wr).drewN q)) k hl (by omega)
    obtain⟨nz,rz,VZ,TZ⟩:=WY.out (fun q=>by rw[hgo] at q;simp at q);have HV:=Lib.hid VZ;have HZ:=Lib.hid TZ;clear hle WY VZ TZ;go_upto_region 3 with fail
    go_quiet ((first|(go_at_call 101;exact Calls.quiet_of_same (C8 _ _ _ _))|(go_at_call 119;exact Calls.quiet_of (qW _))))
    go_wp2;go_end0;exact⟨rfl,nz,rz,by rw[<-HT.out];exact HV.out.keep ((AC.refl wr).drewN _),HZ.out.keep ((AC.refl wr).drewN _)⟩
  ·
   have hd:decide ((k:Int)<(ds.length:Int))=false:=decide_eq_false (by omega);obtain⟨nz,rz,VZ,TZ⟩:=WY.out (fun q=>hl q.1);have HV:=Lib.hid VZ;have HZ:=Lib.hid TZ;clear hle WY VZ TZ;go_upto_region 3 with fail
   go_quiet ((first|(go_at_call 101;exact Calls.quiet_of_same (C8 _ _ _ _))|fail))
   go_wp2;go_end0;exact⟨rfl,nz,rz,by rw[<-HT.out];exact HV.out.keep ((AC.refl wr).drewN _),HZ.out.keep ((AC.refl wr).drewN _)⟩
theorem Wy {v:BV}{nv rv:List Value}{g:Nat}(h:Ec v rv g):DT v nv rv g:=by
 obtain⟨i,hi,e⟩:=h
 cases i with
 |AM=>exact⟨.AM,trivial,by simp,e⟩
 |AO=>exact⟨.AO,trivial,by simp,e⟩
 |rws=>exact⟨.rws,trivial,by simp,e⟩
 |rw p=>exact⟨.rw p,hi,by simp,e⟩
 |bd=>exact hi.elim
 |AJ=>exact hi.elim
 |AK=>exact hi.elim
 |sn=>exact hi.elim
 |fr=>exact hi.elim
 |nt c=>exact hi.elim
theorem Uy (w:World)(m:Nat)(v:BV)(nv rv wv:List Value)(bs N:Nat)(AA:List (List Dd))(b:Bd)(n c:Nat)(x:Nt)(r:List Nt)(h:BL w m v nv rv bs N AA b)(lw:DW w bs N v.W wv AA)(hbs:m<=bs)(S:Dq AA b n)(hn:n<=1000)(hm:m<=w.heap.size)(hc:c<AA.length)(hz:b.AJ.getD c []=x::r)(hx:0<=x.1/\x.1<=2):
  Calls Tryz.prog 152 #[v.agg,.int .i64 c] w fun e w'=>e = .returned (.tuple #[])/\DB w' m w'.heap.size v AA (BG b c)/\∃F',Ah w w' (DT v nv rv) F':=by
 have hcn:c<b.AJ.length:=by rw[S.AJ];exact hc
 obtain⟨x0,x1,x2⟩:=x;simp only at hx;obtain⟨p,rfl⟩:=Int.eq_ofNat_of_zero_le hx.1;have hp3:p<3:=by omega
 have HM:Hid (BG b c=Db { b with AJ:=b.AJ.set c r } p x1 x2):=Lib.hid (by unfold BG;rw[hz];simp);have XS:=Lib.hid S;have lp:p<b.AM.length:=by rw[S.AM];exact hp3
 have ll:p<b.AO.length:=by rw[S.AO];exact hp3
 have lr:p<b.rws.length:=by rw[S.rws];exact hp3
 obtain⟨aW,aP,aL,aN,aX,aS,aF,aR,cW,cP,cL,cQ,cX,cS,cF,cR,rfl⟩:=h.rd0.shapes;have xG:=Lib.hid h.rd0.sl;have O1:=h.box hm;obtain⟨a',c',eN,hN⟩:=O1.hN;simp only[Value.slice.injEq,true_and] at eN;obtain⟨rfl,rfl⟩:=eN;rcases hN with q|⟨gn,rfl,jR,dn⟩
 . exfalso;rw[q] at hcn;simp at hcn
 obtain⟨w1,hw1⟩:∃W:World,W=w.alloc (.cells #[.slice aW AA.length cW,.slice aP b.AM.length cP,.slice aL b.AO.length cL,.slice (some ⟨gn,0,none⟩) b.AJ.length cQ,.slice aX b.AK.length cX,.slice aS b.sn.length cS,.slice aF b.fr.length cF,.slice aR b.rws.length cR] 103):=⟨_,rfl⟩;have rQ:w1.heap.size=w.heap.size+1:=by rw[hw1,AD]
 have K01:AC w w1:=by rw[hw1];exact (AC.refl w).alloc _
 replace O1:AU w1 m w.heap.size ⟨.slice aW AA.length cW,.slice aP b.AM.length cP,.slice aL b.AO.length cL,.slice (some ⟨gn,0,none⟩) b.AJ.length cQ,.slice aX b.AK.length cX,.slice aS b.sn.length cS,.slice aF b.fr.length cF,.slice aR b.rws.length cR⟩ nv rv bs N AA b:=by rw[hw1];exact O1
 replace dn:∀i,i<b.AJ.length->w1.cell? ⟨gn,i,none⟩=some (nv.getD i AF):=by rw[hw1];exact dn
 have oq:=O1.oN hcn;rw[hz] at oq
 obtain⟨gq,cq,hq,yU⟩:∃gq cq,nv.getD c AF = .slice (some ⟨gq,0,none⟩) (r.length+1) cq/\gq<w1.heap.size:=by
  have hlt:=World.ownsRow.lt oq;rcases oq.2 with ⟨_,hz'⟩|⟨g,cap,cur,e,_⟩
  . simp at hz'
  . exact⟨g,cap,e,(hlt g (by rw[e];rfl)).2⟩
 have hcq:r.length+1<=cq:=by
  rcases oq.2 with ⟨_,hz'⟩|⟨g,cap,cur,e,_,_,hcap,_⟩
  . simp at hz'
  ·
   rw[hq] at e;simp only[Value.slice.injEq] at e;rw[e.2.2];simpa using hcap
 rw[hq] at oq;have q0:w1.cell? ⟨gq,0,none⟩=some (.int .i64 (p:Int)):=World.ownsRow.cellAt oq 0 (by simp);have q1:w1.cell? ⟨gq,1,none⟩=some (.int .i64 x1):=World.ownsRow.cellAt oq 1 (by show 1<(r.length+1)*3;omega);have q2:w1.cell? ⟨gq,2,none⟩=some (.int .i64 x2):=World.ownsRow.cellAt oq 2 (by show 2<(r.length+1)*3;omega);have d3:=dn c hcn;rw[hq] at d3;have hcv:c<nv.length:=by rw[O1.ln];exact hcn
 obtain⟨w2,hw2⟩:∃W:World,W=w1.alloc (Nz (p:Int) x1 x2):=⟨_,rfl⟩;have k2:AC w1 w2:=by rw[hw2];exact (AC.refl w1).alloc _
 have y2w:w2.heap.size=w.heap.size+2:=by rw[hw2,AD,rQ]
 have XN2:Hid (w2.heap[w.heap.size+1]? = some (.cells #[.int .i64 (p:Int),.int .i64 x1,.int .i64 x2] 155 (0,0))):=Lib.hid (by rw[hw2,<-rQ];exact heap_alloc_new _ _);have O2:=O1.keep k2;have wm:Hid (w2.heap[w.heap.size]? = some (.cells #[.slice aW AA.length cW,.slice aP b.AM.length cP,.slice aL b.AO.length cL,.slice (some ⟨gn,0,none⟩) b.AJ.length cQ,.slice aX b.AK.length cX,.slice aS b.sn.length cS,.slice aF b.fr.length cF,.slice aR b.rws.length cR] 103 (0,0))):=Lib.hid (by have:=O2.Kb;simp only[BV.arr] at this;exact this);have wZ:Hid (FF w2 m ⟨.slice aW AA.length cW,.slice aP b.AM.length cP,.slice aL b.AO.length cL,.slice (some ⟨gn,0,none⟩) b.AJ.length cQ,.slice aX b.AK.length cX,.slice aS b.sn.length cS,.slice aF b.fr.length cF,.slice aR b.rws.length cR⟩ nv rv wv AA b):=Lib.hid (O2.all ((lw.keep K01).keep k2) hbs);have tH:Hid (BV.N ⟨.slice aW AA.length cW,.slice aP b.AM.length cP,.slice aL b.AO.length cL,.slice (some ⟨gn,0,none⟩) b.AJ.length cQ,.slice aX b.AK.length cX,.slice aS b.sn.length cS,.slice aF b.fr.length cF,.slice aR b.rws.length cR⟩ = .slice (some ⟨gn,0,none⟩) nv.length cQ):=Lib.hid (by rw[O1.ln]);have NB:Hid (∀q,DT ⟨.slice aW AA.length cW,.slice aP b.AM.length cP,.slice aL b.AO.length cL,.slice (some ⟨gn,0,none⟩) b.AJ.length cQ,.slice aX b.AK.length cX,.slice aS b.sn.length cS,.slice aF b.fr.length cF,.slice aR b.rws.length cR⟩ nv rv q->q<w.heap.size):=Lib.hid (fun q hq=>(h.blk q hq).2.1);have T02:Hid (Ah w w2 (DT ⟨.slice aW AA.length cW,.slice aP b.AM.length cP,.slice aL b.AO.length cL,.slice (some ⟨gn,0,none⟩) b.AJ.length cQ,.slice aX b.AK.length cX,.slice aS b.sn.length cS,.slice aF b.fr.length cF,.slice aR b.rws.length cR⟩ nv rv) (DT ⟨.slice aW AA.length cW,.slice aP b.AM.length cP,.slice aL b.AO.length cL,.slice (some ⟨gn,0,none⟩) b.AJ.length cQ,.slice aX b.AK.length cX,.slice aS b.sn.length cS,.slice aF b.fr.length cF,.slice aR b.rws.length cR⟩ nv rv)):=Lib.hid (((Ah.refl w _).keep K01).keep k2);have c31:w1.cell? ⟨w.heap.size,3,none⟩=some (.slice (some ⟨gn,0,none⟩) b.AJ.length cQ):=O1.cells.2.2.2.1;have c3:w2.cell? ⟨w.heap.size,3,none⟩=some (.slice (some ⟨gn,0,none⟩) b.AJ.length cQ):=O2.cells.2.2.2.1;have d32:=(k2.cell (show gn<w1.heap.size from (O1.Af.lt (i:= .AJ) trivial gn rfl).2)).trans d3;have f3:w2.frozen? ⟨gn,c,none⟩=false:=(Rw.put (r:=Dx 151 nv (BV.N ⟨.slice aW AA.length cW,.slice aP b.AM.length cP,.slice aL b.AO.length cL,.slice (some ⟨gn,0,none⟩) b.AJ.length cQ,.slice aX b.AK.length cX,.slice aS b.sn.length cS,.slice aF b.fr.length cF,.slice aR b.rws.length cR⟩)) (O2.Af.own .AJ trivial) (g:=gn) (cap:=cQ) (k:=c) tH.out (.bool true)).2.2;have i1:(0:Int)<=(c:Int):=Int.natCast_nonneg _;have i3:(c:Int)<(b.AJ.length:Int):=by omega
 have i5:((r.length+1:Nat):Int)=(r.length:Int)+1:=by omega
 have j1:(1:Int)<=(r.length:Int)+1:=by omega
 have hz':=hz;have hq':=hq;have HZ1:=Lib.hid hz';have HZ2:=Lib.hid hq';clear O1 O2 oq dn h lw hz hq hz' hq' S hx;go_enter Tryz.func152,Tryz.ntmps152
 go_upto_region 1 with fail
 rw[<-hw1];clear hw1;go_upto_region 2 with fail
 rw[<-hw2];clear hw2 q0 q1 q2 c31 d3;have hz':=HZ1;have hq':=HZ2;have d3:=d32;clear d32;by_cases hq1:cq=1
 ·
  have j2:(1:Int)<=(cq:Int):=by omega
  have mJ:=(wZ.out.cut (g:=gn) (c:=c) (cap:=cQ) tH.out (.slice (some ⟨gq,0,none⟩) r.length 0)).keep (AC.refl _).drew;have T3:Ah w2 _ (DT ⟨.slice aW AA.length cW,.slice aP b.AM.length cP,.slice aL b.AO.length cL,.slice (some ⟨gn,0,none⟩) b.AJ.length cQ,.slice aX b.AK.length cX,.slice aS b.sn.length cS,.slice aF b.fr.length cF,.slice aR b.rws.length cR⟩ nv rv) (DT ⟨.slice aW AA.length cW,.slice aP b.AM.length cP,.slice aL b.AO.length cL,.slice (some ⟨gn,0,none⟩) b.AJ.length cQ,.slice aX b.AK.length cX,.slice aS b.sn.length cS,.slice aF b.fr.length cF,.slice aR b.rws.length cR⟩ nv rv):=((Ah.refl w2 _).grown (Ac w2 gn c (.slice (some ⟨gq,0,none⟩) r.length 0)) (fun g hg=>⟨.AJ,trivial,by simp,hg⟩)).keep (AC.refl _).drew;have IK:=(T3.block w.heap.size (by omega) (fun q=>by have:=NB.out _ q;omega)).trans wm.out;have oI:=(T3.block (w.heap.size+1) (by omega) (fun q=>by have:=NB.out _ q;omega)).trans XN2.out;have Zq:=Lib.hid mJ;have Zu:=Lib.hid T3;have mV:=Lib.hid IK;have Zr:=Lib.hid oI;clear mJ T3 IK oI;go_region
  go_upto_region 3 with fail
  obtain⟨w3,hw3⟩:∃W:World,W=(w2.setCell ⟨gn,c,none⟩ (.slice (some ⟨gq,0,none⟩) r.length 0)).drew:=⟨_,rfl⟩;rw[<-hw3] at Zq Zu mV Zr ⊢;clear hw3;have IK:=mV.out;have m0:w3.cell? ⟨w.heap.size+1,0,none⟩=some (.int .i64 (p:Int)):=by rw[cell_of_row w3 _ 0 _ _ _ Zr.out];rfl
  have m1:w3.cell? ⟨w.heap.size+1,1,none⟩=some (.int .i64 x1):=by rw[cell_of_row w3 _ 1 _ _ _ Zr.out];rfl
  have m2:w3.cell? ⟨w.heap.size+1,2,none⟩=some (.int .i64 x2):=by rw[cell_of_row w3 _ 2 _ _ _ Zr.out];rfl
  have s3:=Zu.out.size;have P8:=PV w3 m ⟨.slice aW AA.length cW,.slice aP b.AM.length cP,.slice aL b.AO.length cL,.slice (some ⟨gn,0,none⟩) b.AJ.length cQ,.slice aX b.AK.length cX,.slice aS b.sn.length cS,.slice aF b.fr.length cF,.slice aR b.rws.length cR⟩ rv b p x1 x2 Zq.out.YK xG.out (by omega) lp ll lr (by have:=XS.out.rl p;omega);clear d3 f3 c3;go_wp2_with (first|refine wpList_load_row rfl 103 _ rfl w.heap.size rfl 103 _ (0,0) _ IK Tryz.underlying103 rfl AQ ?_|fail)
  refine P8.mono ?_;rintro e w4 ⟨rfl,rv',O4,T4⟩;have mM:=Zq.out.turn O4 T4 rfl rfl rfl rfl;have FR:=Lib.hid (mM.free hcv HZ1.out HZ2.out (.inl ⟨hq1,rfl⟩));have B4:=Lib.hid ((T02.out.trans Zu.out).trans (⟨T4.os,T4.tape,T4.output,T4.size,fun g h1 h2=>T4.block g h1 (fun q=>h2 (Wy q)),fun g h=>h⟩:Ah w3 w4 (DT ⟨.slice aW AA.length cW,.slice aP b.AM.length cP,.slice aL b.AO.length cL,.slice (some ⟨gn,0,none⟩) b.AJ.length cQ,.slice aX b.AK.length cX,.slice aS b.sn.length cS,.slice aF b.fr.length cF,.slice aR b.rws.length cR⟩ nv rv) (fun g=>DT ⟨.slice aW AA.length cW,.slice aP b.AM.length cP,.slice aL b.AO.length cL,.slice (some ⟨gn,0,none⟩) b.AJ.length cQ,.slice aX b.AK.length cX,.slice aS b.sn.length cS,.slice aF b.fr.length cF,.slice aR b.rws.length cR⟩ nv rv g\/w3.heap.size<=g)));clear O4 T4 mM P8 IK m0 m1 m2;go_wp2;go_end0;exact⟨rfl,by rw[HM.out];exact FR.out,_,B4.out⟩
 ·
  have j2:(1:Int)<(cq:Int):=by omega
  have mJ:=(wZ.out.cut (g:=gn) (c:=c) (cap:=cQ) tH.out (.slice (some ⟨gq,3,none⟩) r.length (cq-1))).keep (AC.refl _).drew;have T3:Ah w2 _ (DT ⟨.slice aW AA.length cW,.slice aP b.AM.length cP,.slice aL b.AO.length cL,.slice (some ⟨gn,0,none⟩) b.AJ.length cQ,.slice aX b.AK.length cX,.slice aS b.sn.length cS,.slice aF b.fr.length cF,.slice aR b.rws.length cR⟩ nv rv) (DT ⟨.slice aW AA.length cW,.slice aP b.AM.length cP,.slice aL b.AO.length cL,.slice (some ⟨gn,0,none⟩) b.AJ.length cQ,.slice aX b.AK.length cX,.slice aS b.sn.length cS,.slice aF b.fr.length cF,.slice aR b.rws.length cR⟩ nv rv):=((Ah.refl w2 _).grown (Ac w2 gn c (.slice (some ⟨gq,3,none⟩) r.length (cq-1))) (fun g hg=>⟨.AJ,trivial,by simp,hg⟩)).keep (AC.refl _).drew;have IK:=(T3.block w.heap.size (by omega) (fun q=>by have:=NB.out _ q;omega)).trans wm.out;have oI:=(T3.block (w.heap.size+1) (by omega) (fun q=>by have:=NB.out _ q;omega)).trans XN2.out;have Zq:=Lib.hid mJ;have Zu:=Lib.hid T3;have mV:=Lib.hid IK;have Zr:=Lib.hid oI;clear mJ T3 IK oI;go_region
  go_upto_region 3 with fail
  obtain⟨w3,hw3⟩:∃W:World,W=(w2.setCell ⟨gn,c,none⟩ (.slice (some ⟨gq,3,none⟩) r.length (cq-1))).drew:=⟨_,rfl⟩;rw[<-hw3] at Zq Zu mV Zr ⊢;clear hw3;have IK:=mV.out;have m0:w3.cell? ⟨w.heap.size+1,0,none⟩=some (.int .i64 (p:Int)):=by rw[cell_of_row w3 _ 0 _ _ _ Zr.out];rfl
  have m1:w3.cell? ⟨w.heap.size+1,1,none⟩=some (.int .i64 x1):=by rw[cell_of_row w3 _ 1 _ _ _ Zr.out];rfl
  have m2:w3.cell? ⟨w.heap.size+1,2,none⟩=some (.int .i64 x2):=by rw[cell_of_row w3 _ 2 _ _ _ Zr.out];rfl
  have s3:=Zu.out.size;have P8:=PV w3 m ⟨.slice aW AA.length cW,.slice aP b.AM.length cP,.slice aL b.AO.length cL,.slice (some ⟨gn,0,none⟩) b.AJ.length cQ,.slice aX b.AK.length cX,.slice aS b.sn.length cS,.slice aF b.fr.length cF,.slice aR b.rws.length cR⟩ rv b p x1 x2 Zq.out.YK xG.out (by omega) lp ll lr (by have:=XS.out.rl p;omega);clear d3 f3 c3;go_wp2_with (first|refine wpList_load_row rfl 103 _ rfl w.heap.size rfl 103 _ (0,0) _ IK Tryz.underlying103 rfl AQ ?_|fail)
  refine P8.mono ?_;rintro e w4 ⟨rfl,rv',O4,T4⟩;have mM:=Zq.out.turn O4 T4 rfl rfl rfl rfl;have FR:=Lib.hid (mM.free hcv HZ1.out HZ2.out (.inr rfl));have B4:=Lib.hid ((T02.out.trans Zu.out).trans (⟨T4.os,T4.tape,T4.output,T4.size,fun g h1 h2=>T4.block g h1 (fun q=>h2 (Wy q)),fun g h=>h⟩:Ah w3 w4 (DT ⟨.slice aW AA.length cW,.slice aP b.AM.length cP,.slice aL b.AO.length cL,.slice (some ⟨gn,0,none⟩) b.AJ.length cQ,.slice aX b.AK.length cX,.slice aS b.sn.length cS,.slice aF b.fr.length cF,.slice aR b.rws.length cR⟩ nv rv) (fun g=>DT ⟨.slice aW AA.length cW,.slice aP b.AM.length cP,.slice aL b.AO.length cL,.slice (some ⟨gn,0,none⟩) b.AJ.length cQ,.slice aX b.AK.length cX,.slice aS b.sn.length cS,.slice aF b.fr.length cF,.slice aR b.rws.length cR⟩ nv rv g\/w3.heap.size<=g)));clear O4 T4 mM P8 IK m0 m1 m2;go_wp2;go_end0;exact⟨rfl,by rw[HM.out];exact FR.out,_,B4.out⟩
def Sh (k:Nat):Bd:=⟨List.replicate k 0,(List.range k).map (fun (i:Nat)=>(i:Int)),[],[],[],[],(List.range k).map (fun (i:Nat)=>[(i:Int)])⟩
def WO (k:Nat):Bd:=⟨[0,0,0],[0,1,2],List.replicate k [],List.replicate k 0,[],[],[[0],[1],[2]]⟩
def Si (n k:Nat):Bd:=⟨[0,0,0],[0,1,2],List.replicate n [],List.replicate n 0,List.replicate k (-1),List.replicate k (-1),[[0],[1],[2]]⟩
theorem YY (k:Nat):Sh (k+1)={ { { Sh k with AM:=(Sh k).AM++[0] } with AO:=(Sh k).AO++[(k:Int)] } with rws:=(Sh k).rws++[[(k:Int)]] }:=by
 unfold Sh;simp only[List.range_succ,List.map_append,List.map_cons,List.map_nil,List.replicate_succ']
theorem YZ (k:Nat):WO (k+1)={ { WO k with AJ:=(WO k).AJ++[[]] } with AK:=(WO k).AK++[0] }:=by
 unfold WO;simp only[List.replicate_succ']
theorem Ya (n k:Nat):Si n (k+1)={ { Si n k with sn:=(Si n k).sn++[-1] } with fr:=(Si n k).fr++[-1] }:=by
 unfold Si;simp only[List.replicate_succ']
theorem MU (w:World)(x:Int):Rd (w.alloc (.cells #[.int .i64 x] 2)) (.slice (some ⟨w.heap.size,0,none⟩) 1 1) [x]:=
 ⟨_,1,rfl,.inr ⟨w.heap.size,0,rfl,by rw[AD];omega,fun i hi=>by
  obtain rfl:i=0:=by simpa using hi
  rw[cell_of_row _ _ _ _ _ _ (heap_alloc_new w _)];rfl⟩⟩
theorem PR (w:World)(v:Value)(AA:List (List Dd))(h:Fo w v AA)(hb:AL AA=true)(hx:AA.length<=1048576)(hm:∀i,i<AA.length->(AA.getD i []).length<=1048576):
  Calls Tryz.prog 104 #[v] w fun e w'=>∃bv nv rv wv,e = .returned (BV.agg bv)/\FF w' w.heap.size bv nv rv wv AA (Ci AA)/\AC w w':=by
 have CW:=fun (W:World) (kW:AC w W)=>CV W _ AA (h.keep kW) hx hm
 have CC:=fun (W:World) (kW:AC w W)=>Gq W _ AA (h.keep kW) hx hm
 have CE:=fun (W:World) (kW:AC w W)=>DA W _ AA (h.keep kW) hx hm
 rw[hb] at CW;have u1:=(BH hb).1;obtain⟨aD,qw,rfl,-⟩:=id h;clear h hm hb;obtain⟨ng0,ngi,vH,vI,vJ⟩:=info_parts Tryz.PB;obtain⟨ig0,igi,uz,vC,vD⟩:=info_parts Tryz.PA;obtain⟨w1,hw1⟩:∃W:World,W=w.alloc (.cells #[AF,AF,AF,AF,AF,AF,AF,AF] 103):=⟨_,rfl⟩;have K1:AC w w1:=by rw[hw1];exact (AC.refl w).alloc _
 have s1:w1.heap.size=w.heap.size+1:=by rw[hw1,AD]
 have hR1:w1.heap[w.heap.size]? = some (.cells #[AF,AF,AF,AF,AF,AF,AF,AF] 103 (0,0)):=by rw[hw1];exact heap_alloc_new _ _
 go_enter Tryz.func104,Tryz.ntmps104
 go_upto_region 1 with fail
 rw[<-hw1];clear hw1;go_wp2_with fail
 refine (CW _ K1).mono ?_;rintro e w2 ⟨rfl,k2⟩;go_wp2_with fail
 refine (Cy _).mono ?_;rintro e w2 ⟨rfl,rfl⟩;have K2:=K1.trans k2;go_wp2_with fail
 refine (CC _ K2).mono ?_;rintro e w3 ⟨v3,V,rfl,X3,k3⟩;have s2:=k2.size;have s3:=k3.size;have wT:=X3.gY;have O3:=(Q8 X3.vU.upto (Nat.le_refl _) w1.heap.size).box (by omega);obtain⟨a3,c3,hv3,-⟩:=id X3.yh;subst hv3;obtain⟨w4,hw4⟩:∃W:World,W=w3.alloc (.cells #[.slice a3 AA.length c3,AF,AF,AF,AF,AF,AF,AF] 103):=⟨_,rfl⟩;have k4:AC w3 w4:=by rw[hw4];exact (AC.refl w3).alloc _
 have s4:w4.heap.size=w3.heap.size+1:=by rw[hw4,AD]
 replace O3:AU w4 w1.heap.size w3.heap.size ⟨.slice a3 AA.length c3,AF,AF,AF,AF,AF,AF,AF⟩ [] [] w2.heap.size w3.heap.size AA ⟨[],[],[],[],[],[],[]⟩:=by rw[hw4];exact O3
 clear X3;go_upto_region 3 with fail
 rw[<-hw4];clear hw4;go_wp2_with fail
 refine (Gm w4).mono ?_;rintro e w5 ⟨v5,rfl,A5,k5⟩;have s5:=k5.size;have N5:=NB.start (O3.keep k5);have wU:=Lib.hid (wT.keep (k4.trans k5));have hR5:=Lib.hid ((Below.block ((k2.trans k3).trans (k4.trans k5)) w.heap.size (by omega)).trans hR1);have K5:=K2.trans (k3.trans (k4.trans k5));have hD:w1.heap.size<=w3.heap.size/\w3.heap.size<w4.heap.size:=by omega
 have hbs:w1.heap.size<=w2.heap.size:=s2;have hD5:w3.heap.size<w5.heap.size:=by omega
 obtain⟨ae,ce,hv5,-⟩:=id A5.rd;rw[show B5.length=3 from rfl] at hv5;subst hv5;clear wT O3 CW CC hR1 k2 k3 k4 k5 K1 K2;have hmw:w.heap.size<w1.heap.size:=by omega
 clear s1 s4 s3 s2 s5;generalize w1.heap.size=m at *;generalize w2.heap.size=bs at *;generalize w3.heap.size=D at *;go_wp2;go_loopw [4,14] (fun _ i wr=>∃(k:Nat) (bv:BV) (rv:List Value),k<=3/\i = .int .i64 k/\Hid (bv.W = .slice a3 AA.length c3)/\NB w5 wr m D bv [] rv bs D AA (Sh k)) (fun _ i _=>3-(intOf i).toNat)
 case atStart=>exact⟨0,_,[],Nat.zero_le _,rfl,Lib.hid rfl,N5⟩
 case round=>
  obtain⟨k,bv,rv,hk,rfl,hW,NR⟩:=hrel;by_cases hlt:k<3
  ·
   have wF:IG wr w4.heap.size (.slice ae 3 (3+ce)) B5:=World.ownsRow.kept A5 NR.sm (Yb (fun q hq=>(World.ownsRow.lt A5 q hq).1) hD.2);obtain⟨a',c',he',hE⟩:=wF.rd;rw[show B5.length=3 from rfl] at he';simp only[Value.slice.injEq,true_and] at he';obtain⟨rfl,hce⟩:=he';rcases hE with h0|⟨bq,oq,rfl,hbq,hcq⟩
   . exact absurd h0 (by simp[B5])
   have hev:B5[k]? = some ((-1:Int),(-1:Int),false,(k:Int),(0:Int),(k:Int)):=by
    have:k=0\/k=1\/k=2:=by omega
    rcases this with rfl|rfl|rfl<;>rfl
   obtain⟨q0,q1,q2,q3,q4,q5⟩:=kV (hcq k _ hev);have i1:(0:Int)<=(k:Int):=Int.natCast_nonneg _;have i2:(k:Int)<3:=by omega
   obtain⟨w6,hw6⟩:∃W:World,W=wr.alloc (eO (-1) (-1) false k 0 k):=⟨_,rfl⟩;have k6:AC wr w6:=by rw[hw6];exact (AC.refl wr).alloc _
   have f4:w6.cell? ⟨wr.heap.size,4,none⟩=some (.int .i64 0):=by rw[hw6,cell_of_row _ _ 4 _ _ _ (heap_alloc_new wr _)];rfl
   have N6:=NR.keep k6;clear hcq wF NR hev hce k6;go_upto_region 6 with fail
   rw[<-hw6];clear hw6 q0 q1 q2 q3 q4 q5;have Aa:=N6.keep ((AC.refl w6).alloc (.cells #[.int .i64 (0:Int)] 2));obtain⟨qE,qF,qG,qH,qI,qJ,qK,qL⟩:=N6.ob.cells;go_wp2_with (at_builtin;refine Az rfl _ _ rfl m _ _ rfl Aa.ob.oP _ rfl [(0:Int)] (MU w6 (0:Int)) (by unfold Sh;simp;omega) (by simp) (Nat.le_of_lt (Nat.lt_of_le_of_lt Aa.ob.base.1 Aa.ob.base.2)) ?_)
   intro ua xa Oa Ga Ba;obtain⟨la,ZQ⟩:∃l,Hid (l=(Sh k).AM++[(0:Int)]):=⟨_,Lib.hid rfl⟩;replace Oa:A7 xa m ua ((Sh k).AM++[(0:Int)]):=Oa;rw[<-ZQ.out] at Oa;obtain⟨Na,Ca,Fa⟩:=Aa.X5 Ga (by rw[AD];exact Ba) Oa;obtain⟨mg,nV,oZ,-⟩:=id Oa.rd;subst oZ;clear qE qF qG qH qI qJ qK qL Aa N6 Oa Ga Ba;go_upto_region 7 with fail
   generalize xa.setCell ⟨D,1,none⟩ (.slice mg la.length nV)=ya at *;clear Ca Fa;have Ab:=Na.keep ((AC.refl ya).alloc (.cells #[.int .i64 (k:Int)] 2));obtain⟨qM,qN,qO,qP,qQ,qR,qU,qV⟩:=Na.ob.cells;go_wp2_with (at_builtin;refine Az rfl _ _ rfl m _ _ rfl Ab.ob.oL _ rfl [(k:Int)] (MU ya (k:Int)) (by unfold Sh;simp;omega) (by simp) (Nat.le_of_lt (Nat.lt_of_le_of_lt Ab.ob.base.1 Ab.ob.base.2)) ?_)
   intro ub xb Ob Gb Bb;obtain⟨lb,Wa⟩:∃l,Hid (l=(Sh k).AO++[(k:Int)]):=⟨_,Lib.hid rfl⟩;replace Ob:A7 xb m ub ((Sh k).AO++[(k:Int)]):=Ob;rw[<-Wa.out] at Ob;obtain⟨Nb,Cb,Fb⟩:=Ab.X0 Gb (by rw[AD];exact Bb) Ob;obtain⟨mh,nY,hub,-⟩:=id Ob.rd;subst hub;clear qM qN qO qP qQ qR qU qV Ab Na Ob Gb Bb;go_upto_region 8 with fail
   generalize xb.setCell ⟨D,2,none⟩ (.slice mh lb.length nY)=yb at *;clear Cb Fb;obtain⟨zc0,zc1,zc2,zc3,zc4,zc5,zc6,zc7⟩:=Nb.ob.cells;have yT:AC yb (yb.alloc (.cells #[.int .i64 (k:Int)] 2)):=(AC.refl yb).alloc _;have vG:AC (yb.alloc (.cells #[.int .i64 (k:Int)] 2)) ((yb.alloc (.cells #[.int .i64 (k:Int)] 2)).alloc (.cells #[(Value.slice (some ⟨yb.heap.size,0,none⟩) 1 1)] 25)):=(AC.refl _).alloc _;have kc:=yT.trans vG;have hmc:m<=yb.heap.size:=Nat.le_of_lt (Nat.lt_of_le_of_lt Nb.ob.base.1 Nb.ob.base.2);have yg:A7 (yb.alloc (.cells #[.int .i64 (k:Int)] 2)) m (.slice (some ⟨yb.heap.size,0,none⟩) 1 1) [(k:Int)]:=World.ownsRow_lit yb #[.int .i64 (k:Int)] 1 hmc (by decide) rfl;have oc:=World.ownsRow.kept yg vG.grownBy (by cases (Value.ownBlock (Value.slice (some ⟨yb.heap.size,0,none⟩) 1 1))<;>simp);have Rc:World.ownsRow _ m 25 1 bv.R rv.length rv:=(Nb.keep kc).ob.Af.own .rws trivial;have hnc:rv.length<=3:=by rw[(Nb.ob).lr];unfold Sh;simp;omega
   go_wp2_with (at_builtin;refine wpList_append_own_at _ rfl _ _ 36 rfl m 25 ig0 (.slice none 0 0) 1 24 Tryz.underlying36 igi uz vC vD rfl (by decide) _ _ _ rfl Rc ⟨_,0,none⟩ 1 1 [(Value.slice (some ⟨yb.heap.size,0,none⟩) 1 1)] rfl rfl (by intro j q hj;match j,hj with|0,hj=>(simp at hj;subst hj;simp[Addr.add])) (by intro q hq;simp at hq;subst hq;rfl) (by unfold maxLen;omega) (by omega) (by simp;omega) ?_)
   intro uc xc Pc Gc _ Bc;obtain⟨hc,wO⟩:∃l,Hid (l=rv++[(Value.slice (some ⟨yb.heap.size,0,none⟩) 1 1)]):=⟨_,Lib.hid rfl⟩
   have Qc:(Dx 25 (rv++[(Value.slice (some ⟨yb.heap.size,0,none⟩) 1 1)]) uc).own xc m:=by
    show xc.ownsRow m 25 1 uc (rv++[(Value.slice (some ⟨yb.heap.size,0,none⟩) 1 1)]).length (rv++[(Value.slice (some ⟨yb.heap.size,0,none⟩) 1 1)]);rw[List.length_append];exact Pc
   obtain⟨Nc,Cc,Fc⟩:=Nb.UK (u:=(Value.slice (some ⟨yb.heap.size,0,none⟩) 1 1)) kc (fun q hq=>Nat.le_of_eq (Option.some.inj hq)) oc Gc (by rw[AD,AD];exact Bc) Qc;rw[<-wO.out] at Nc Qc;obtain⟨zi,zn,huc,-⟩:=Bj Qc;subst huc;clear zc0 zc1 zc2 zc3 zc4 zc5 zc6 zc7 Nb Rc Pc Qc Gc Bc oc yg kc yT vG hnc hmc;go_upto_region 9 with fail
   generalize xc.setCell ⟨D,7,none⟩ (.slice zi hc.length zn)=yc at *;clear Cc Fc
   obtain⟨bz,hZ,NZ⟩:∃bz:BV,Hid (bz.W = .slice a3 AA.length c3)/\NB w5 yc m D bz [] hc bs D AA (Sh (k+1)):=by
    rw[YY,<-ZQ.out,<-Wa.out];refine⟨_,?_,Nc⟩;exact hW
   clear Nc ZQ Wa wO;go_wp2;go_roundw;case rel=>exact⟨k+1,bz,hc,by omega,by go_num,hZ,NZ⟩
   case measure=>simp[intOf];omega
  obtain rfl:k=3:=by omega
  have N7:NB w5 wr m D bv [] rv bs D AA (WO 0):=NR;clear NR A5 hlt hk;rw[show ((3:Nat):Int)=3 from rfl];go_wp2;obtain⟨wo,rfl⟩:∃wo:World,wo=wr:=⟨_,rfl⟩;go_loopw [42] (fun i wr=>∃(k:Nat) (bv:BV) (nv:List Value),k<=AA.length/\i = .int .i64 k/\Hid (bv.W = .slice a3 AA.length c3)/\NB w5 wr m D bv nv rv bs D AA (WO k)) (fun i _=>AA.length-(intOf i).toNat)
  case atStart=>exact⟨0,bv,[],Nat.zero_le _,rfl,hW,N7⟩
  case round=>
   clear N7 hW;obtain⟨k,bv,nv,hk,rfl,hW,NR⟩:=hrel;by_cases hlt:k<AA.length
   ·
    have i1:(0:Int)<=(k:Int):=Int.natCast_nonneg _;have i2:(k:Int)<(AA.length:Int):=by omega
    obtain⟨qE,qF,qG,qH,qI,qJ,qK,qL⟩:=NR.ob.cells;have yQ:AC wr (wr.alloc (.cells #[] 155)):=(AC.refl wr).alloc _;have vE:AC (wr.alloc (.cells #[] 155)) ((wr.alloc (.cells #[] 155)).alloc (.cells #[(Value.slice (some ⟨wr.heap.size,0,none⟩) 0 0)] 151)):=(AC.refl _).alloc _;have ka:=yQ.trans vE;have hma:m<=wr.heap.size:=Nat.le_of_lt (Nat.lt_of_le_of_lt NR.ob.base.1 NR.ob.base.2);have yZ:Bp cN 155 3 (wr.alloc (.cells #[] 155)) m (.slice (some ⟨wr.heap.size,0,none⟩) 0 0) []:=World.ownsRow_lit wr #[] 0 hma (by decide) rfl;have oa:=World.ownsRow.kept yZ vE.grownBy (by cases (Value.ownBlock (Value.slice (some ⟨wr.heap.size,0,none⟩) 0 0))<;>simp);have Ra:World.ownsRow _ m 151 1 bv.N nv.length nv:=(NR.keep ka).ob.Af.own .AJ trivial;have hna:nv.length<=3:=by rw[(NR.ob).ln];unfold WO;simp;omega
    go_wp2_with (at_builtin;refine wpList_append_own_at _ rfl _ _ 101 rfl m 151 ng0 (.slice none 0 0) 1 24 Tryz.underlying101 ngi vH vI vJ rfl (by decide) _ _ _ rfl Ra ⟨_,0,none⟩ 1 1 [(Value.slice (some ⟨wr.heap.size,0,none⟩) 0 0)] rfl rfl (by intro j q hj;match j,hj with|0,hj=>(simp at hj;subst hj;simp[Addr.add])) (by intro q hq;simp at hq;subst hq;rfl) (by unfold maxLen;omega) (by omega) (by simp;omega) ?_)
    intro ua xa Pa Ga _ Ba;obtain⟨ha,ZQ⟩:∃l,Hid (l=nv++[(Value.slice (some ⟨wr.heap.size,0,none⟩) 0 0)]):=⟨_,Lib.hid rfl⟩
    have Qa:(Dx 151 (nv++[(Value.slice (some ⟨wr.heap.size,0,none⟩) 0 0)]) ua).own xa m:=by
     show xa.ownsRow m 151 1 ua (nv++[(Value.slice (some ⟨wr.heap.size,0,none⟩) 0 0)]).length (nv++[(Value.slice (some ⟨wr.heap.size,0,none⟩) 0 0)]);rw[List.length_append];exact Pa
    obtain⟨Na,Ca,Fa⟩:=NR.RA (u:=(Value.slice (some ⟨wr.heap.size,0,none⟩) 0 0)) ka (fun q hq=>Nat.le_of_eq (Option.some.inj hq)) oa Ga (by rw[AD,AD];exact Ba) Qa;rw[<-ZQ.out] at Na Qa;obtain⟨mg,nV,oZ,-⟩:=Bj Qa;subst oZ;clear qE qF qG qH qI qJ qK qL NR Ra Pa Qa Ga Ba oa yZ ka yQ vE hna hma;go_upto_region 13 with fail
    generalize xa.setCell ⟨D,3,none⟩ (.slice mg ha.length nV)=ya at *;clear Ca Fa;have Ab:=Na.keep ((AC.refl ya).alloc (.cells #[.int .i64 (0:Int)] 2));obtain⟨qM,qN,qO,qP,qQ,qR,qU,qV⟩:=Na.ob.cells;go_wp2_with (at_builtin;refine Az rfl _ _ rfl m _ _ rfl Ab.ob.oX _ rfl [(0:Int)] (MU ya (0:Int)) (by unfold WO;simp;omega) (by simp) (Nat.le_of_lt (Nat.lt_of_le_of_lt Ab.ob.base.1 Ab.ob.base.2)) ?_)
    intro ub xb Ob Gb Bb;obtain⟨lb,Wa⟩:∃l,Hid (l=(WO k).AK++[(0:Int)]):=⟨_,Lib.hid rfl⟩;replace Ob:A7 xb m ub ((WO k).AK++[(0:Int)]):=Ob;rw[<-Wa.out] at Ob;obtain⟨Nb,Cb,Fb⟩:=Ab.X6 Gb (by rw[AD];exact Bb) Ob;obtain⟨mh,nY,hub,-⟩:=id Ob.rd;subst hub;clear qM qN qO qP qQ qR qU qV Ab Na Ob Gb Bb;go_upto_region 14 with fail
    generalize xb.setCell ⟨D,4,none⟩ (.slice mh lb.length nY)=yb at *;clear Cb Fb
    obtain⟨bz,hZ,NZ⟩:∃bz:BV,Hid (bz.W = .slice a3 AA.length c3)/\NB w5 yb m D bz ha rv bs D AA (WO (k+1)):=by
     rw[YZ,<-Wa.out];refine⟨_,?_,Nb⟩;exact hW
    clear Nb ZQ Wa;go_wp2;go_roundw;case rel=>exact⟨k+1,bz,ha,by omega,by go_num,hZ,NZ⟩
    case measure=>simp[intOf];omega
   have N8:NB w5 wr m D bv nv rv bs D AA (Si AA.length 0):=by
    rw[show k=AA.length by omega] at NR;exact NR
   have K8:AC w wr:=K5.grown NR.sm (fun q hq=>by have:=Option.some.inj hq;omega);obtain rfl:k=AA.length:=by omega
   clear NR hlt hk;go_wp2_with fail
   refine (CE _ K8).mono ?_;rintro e w9 ⟨v9,rfl,A9,k9⟩;have N9:=N8.keep k9;have CR:=DJ w9 _ _ A9.rd (by have:=Bg AA;omega);obtain⟨a9,c9,hv9,-⟩:=id A9.rd;subst hv9;clear A9 N8;go_wp2_with fail
   refine CR.mono ?_;rintro e w10 ⟨v10,rfl,O10,k10⟩;have N10:=N9.keep k10;have HN:Hid (Ci AA=Si AA.length (AX Ae (AB AA)).length):=Lib.hid rfl;have ln:=Fd Ae (AB AA);obtain⟨a10,c10,hv10,-⟩:=id O10.rd;subst hv10;clear O10 N9 CR CE;generalize (AX Ae (AB AA)).length=R at *;go_wp2;go_loopw [60] (fun i wr=>∃(k:Nat) (bv:BV),k<=R/\i = .int .i64 k/\Hid (bv.W = .slice a3 AA.length c3)/\NB w5 wr m D bv nv rv bs D AA (Si AA.length k)) (fun i _=>R-(intOf i).toNat)
   case atStart=>exact⟨0,bv,Nat.zero_le _,rfl,hW,N10⟩
   case round=>
    clear N10 hW;obtain⟨k,bv,hk,rfl,hW,NR⟩:=hrel;by_cases hlt:k<R
    ·
     have i1:(0:Int)<=(k:Int):=Int.natCast_nonneg _;have i2:(k:Int)<(R:Int):=by omega
     have Aa:=NR.keep ((AC.refl wr).alloc (.cells #[.int .i64 (-1:Int)] 2));obtain⟨qE,qF,qG,qH,qI,qJ,qK,qL⟩:=NR.ob.cells;go_wp2_with (at_builtin;refine Az rfl _ _ rfl m _ _ rfl Aa.ob.oS _ rfl [(-1:Int)] (MU wr (-1:Int)) (by unfold Si;simp;omega) (by simp) (Nat.le_of_lt (Nat.lt_of_le_of_lt Aa.ob.base.1 Aa.ob.base.2)) ?_)
     intro ua xa Oa Ga Ba;obtain⟨la,ZQ⟩:∃l,Hid (l=(Si AA.length k).sn++[(-1:Int)]):=⟨_,Lib.hid rfl⟩;replace Oa:A7 xa m ua ((Si AA.length k).sn++[(-1:Int)]):=Oa;rw[<-ZQ.out] at Oa;obtain⟨Na,Ca,Fa⟩:=Aa.Tq Ga (by rw[AD];exact Ba) Oa;obtain⟨mg,nV,oZ,-⟩:=id Oa.rd;subst oZ;clear qE qF qG qH qI qJ qK qL Aa NR Oa Ga Ba;go_upto_region 18 with fail
     generalize xa.setCell ⟨D,5,none⟩ (.slice mg la.length nV)=ya at *;clear Ca Fa;have Ab:=Na.keep ((AC.refl ya).alloc (.cells #[.int .i64 (-1:Int)] 2));obtain⟨qM,qN,qO,qP,qQ,qR,qU,qV⟩:=Na.ob.cells;go_wp2_with (at_builtin;refine Az rfl _ _ rfl m _ _ rfl Ab.ob.oF _ rfl [(-1:Int)] (MU ya (-1:Int)) (by unfold Si;simp;omega) (by simp) (Nat.le_of_lt (Nat.lt_of_le_of_lt Ab.ob.base.1 Ab.ob.base.2)) ?_)
     intro ub xb Ob Gb Bb;obtain⟨lb,Wa⟩:∃l,Hid (l=(Si AA.length k).fr++[(-1:Int)]):=⟨_,Lib.hid rfl⟩;replace Ob:A7 xb m ub ((Si AA.length k).fr++[(-1:Int)]):=Ob;rw[<-Wa.out] at Ob;obtain⟨Nb,Cb,Fb⟩:=Ab.Tp Gb (by rw[AD];exact Bb) Ob;obtain⟨mh,nY,hub,-⟩:=id Ob.rd;subst hub;clear qM qN qO qP qQ qR qU qV Ab Na Ob Gb Bb;go_upto_region 19 with fail
     generalize xb.setCell ⟨D,6,none⟩ (.slice mh lb.length nY)=yb at *;clear Cb Fb
     obtain⟨bz,hZ,NZ⟩:∃bz:BV,Hid (bz.W = .slice a3 AA.length c3)/\NB w5 yb m D bz nv rv bs D AA (Si AA.length (k+1)):=by
      rw[Ya,<-ZQ.out,<-Wa.out];refine⟨_,?_,Nb⟩;exact hW
     clear Nb ZQ Wa;go_wp2;go_roundw;case rel=>exact⟨k+1,bz,by omega,by go_num,hZ,NZ⟩
     case measure=>simp[intOf];omega
    obtain rfl:k=R:=by omega
    have KZ:AC w wr:=K5.grown NR.sm (fun q hq=>by have:=Option.some.inj hq;omega);have LZ:=wU.out.kept NR.sm NR.ob.nD;rw[<-hW.out] at LZ;have OA:=NR.ob.all LZ hbs;have gI:=(NR.sm.block w.heap.size (by have:=K5.size;omega) (fun e=>by have:=Option.some.inj e;omega)).trans hR5.out;have IK:=NR.ob.Kb;rw[<-HN.out] at OA;clear NR LZ;obtain⟨nb,hnb⟩:∃nb,nb=Ci AA:=⟨_,rfl⟩;rw[<-hnb] at OA;have kM:=Lib.hid hnb;clear hnb;obtain⟨vW,vP,vL,vN,vX,vS,vF,vR⟩:=bv;obtain⟨bW,bP,bL,bN,bX,bS,bF,bR,dW,dP,dL,dN,dX,dS,dF,dR,hsh⟩:=OA.rd.shapes;injection hsh with e1 e2 e3 e4 e5 e6 e7 e8;subst e1 e2 e3 e4 e5 e6 e7 e8;have HG:=Lib.hid (Ap wr w.heap.size #[.slice bW AA.length dW,.slice bP nb.AM.length dP,.slice bL nb.AO.length dL,.slice bN nb.AJ.length dN,.slice bX nb.AK.length dX,.slice bS nb.sn.length dS,.slice bF nb.fr.length dF,.slice bR nb.rws.length dR]);have HZ:=Lib.hid (setRow_heap wr w.heap.size _ #[.slice bW AA.length dW,.slice bP nb.AM.length dP,.slice bL nb.AO.length dL,.slice bN nb.AJ.length dN,.slice bX nb.AK.length dX,.slice bS nb.sn.length dS,.slice bF nb.fr.length dF,.slice bR nb.rws.length dR] _ _ gI);have HO:=Lib.hid (OA.far HG.out hmw);have HK:=Lib.hid (KZ.grown HG.out (fun q hq=>Nat.le_of_eq (Option.some.inj hq)));simp only[BV.arr] at IK;clear OA KZ hD hD5 hbs wU hW hlt hk;go_wp2_with (first|refine wpList_load_row rfl 103 _ rfl D rfl 103 _ (0,0) _ IK Tryz.underlying103 rfl AQ ?_|refine wpList_store_row rfl 103 _ _ rfl w.heap.size _ rfl rfl 103 _ gI AQ rfl (by simp[Value.oneCell']) ?_|fail)
    refine bodyPost_ret (Bn (by rfl) _ _ w.heap.size _ _ (0,0) _ rfl HZ.out Tryz.underlying103 rfl AQ) rfl ?_;exact⟨⟨.slice bW AA.length dW,.slice bP nb.AM.length dP,.slice bL nb.AO.length dL,.slice bN nb.AJ.length dN,.slice bX nb.AK.length dX,.slice bS nb.sn.length dS,.slice bF nb.fr.length dF,.slice bR nb.rws.length dR⟩,nv,rv,_,rfl,by rw[<-kM.out];exact⟨HO.out.Af.QL (Nat.le_of_lt hmw),HO.out.ln,HO.out.lr,HO.out.lw⟩,HK.out⟩
theorem Qy (w:World)(v:Value)(AA:List (List Dd))(h:Fo w v AA)(hb:AL AA=false)(hx:AA.length<=1048576)(hm:∀i,i<AA.length->(AA.getD i []).length<=1048576):
  Calls Tryz.prog 104 #[v] w fun e w'=>e=PN/\AC w w':=by
 have CW:=fun (W:World) (kW:AC w W)=>CV W _ AA (h.keep kW) hx hm
 rw[hb] at CW;obtain⟨aD,qw,rfl,-⟩:=id h;clear h hm hb;go_enter Tryz.func104,Tryz.ntmps104
 go_wp2_with fail
 refine (CW _ ((AC.refl w).alloc _)).mono ?_;rintro e w2 ⟨rfl,k2⟩;go_wp2_with fail
 refine (GF _).mono ?_;rintro e w3 ⟨rfl,rfl⟩;go_wp2;exact⟨rfl,rfl,((AC.refl w).alloc _).trans k2⟩
theorem Yi (p0 p1:Addr)(w:World):CallsD Tryz.prog 103 #[.pointer (some p0),.pointer (some p1)] .returning w fun e u' w'=>e = .returned (.tuple #[])/\u' = .returning/\w'=w:=by
 refine callsD_of_wpS Tryz.func103 rfl fun c₀ cs hu=>?_
 apply wpS_seq;apply wpS_region;have hn:∀w:World,(binOp BinOp.neq 20 .nilIface .nilIface).run Tryz.prog w = .ok (.bool false) w:=fun _=>by kernel_rfl
 simp[wpOpsS,go_sem,recoverD,hu,Tryz.ntmps103,Exit.thenS,hn];refine wpS_cond (t:=false) (by simp[Act.eval,Array.replicate]) ?_;simp only[Bool.false_eq_true,if_false];refine wpS_of_wp (wp_skip ?_);cases c₀;simp_all [bodyPostS,results,Tryz.results103]
theorem dD (g g':Nat)(hne:g'≠g)(w:World)(old:Array Value)(ho:old.size=8)(x':Value)(hg:w.heap[g]? = some (.cells old 103 (0,0)))(hg':w.heap[g']? = some (.cells #[x'] 4 (0,0))):
  CallsD Tryz.prog 103 #[.pointer (some ⟨g,0,none⟩),.pointer (some ⟨g',0,none⟩)] (.panicking [{ v:=Vj,recovered:=false }]) w fun e u' w'=>e = .returned (.tuple #[])/\u' = .panicking [{ v:=Vj,recovered:=true }]/\w'=(w.setRow g #[AF,AF,AF,AF,AF,AF,AF,AF]).setCell ⟨g',0,none⟩ (.bool false):=by
 have hg2:(w.setRow g #[AF,AF,AF,AF,AF,AF,AF,AF]).heap[g']? = some (.cells #[x'] 4 (0,0)):=((Ap w g #[AF,AF,AF,AF,AF,AF,AF,AF]).block g' (Array.getElem?_eq_some_iff.1 hg').1 (fun e=>hne (Option.some.inj e))).trans hg';have hc2:(w.setRow g #[AF,AF,AF,AF,AF,AF,AF,AF]).cell? ⟨g',0,none⟩=some x':=by rw[cell_of_row _ g' 0 _ _ _ hg2];rfl
 have hf2:(w.setRow g #[AF,AF,AF,AF,AF,AF,AF,AF]).frozen? ⟨g',0,none⟩=false:=frozen_of_row _ g' 0 _ _ hg2;have hv:∀w:World,(binOp BinOp.neq 20 Vj .nilIface).run Tryz.prog w = .ok (.bool true) w:=fun _=>by kernel_rfl
 refine callsD_of_wpS Tryz.func103 rfl fun c₀ cs hu=>?_
 apply wpS_seq;apply wpS_region;simp[wpOpsS,go_sem,recoverD,hu,Tryz.ntmps103,Exit.thenS,hv];refine wpS_cond (t:=true) (by simp[Act.eval,Array.replicate]) ?_;simp only[if_true];refine wpS_of_wp ?_;go_wp2_with (first|refine wpList_store_row rfl 103 _ _ rfl g _ rfl rfl 103 _ hg AQ ho (by simp[Value.oneCell']) ?_|fail)
 cases c₀;simp_all [bodyPostS,results,Tryz.results103]
theorem GN {P:Program}{fn:Func}{p q:Tmp}{ty ty':TypeId}(h:fn.results=#[.cell p ty,.cell q ty'])(tmps:Array Value)(w:World)(g g':Nat)(t:TypeId)(cs:Array Value)(fr:Nat×Nat)(d:TypeDesc){x:Value}
  (hp:tmps.getD p undef = .pointer (some ⟨g,0,none⟩)) (hg:w.heap[g]? = some (.cells cs t fr)) (hq:tmps.getD q undef = .pointer (some ⟨g',0,none⟩)) (hc:w.cell? ⟨g',0,none⟩=some x)
  (hu:P.underlying ty=some d) (hd:(match d with | .struct _ | .array _ _=>true|_=>false)=true) (hi:(P.info? ty).map (·.size)=some cs.size) (hagg:(isAgg ty').run P w = .ok false w):
  (results fn tmps).run P w = .ok (.tuple #[.agg cs,x]) w:=by
 have hp':tmps[p]?.getD undef = .pointer (some ⟨g,0,none⟩):=by simpa using hp
 have hq':tmps[q]?.getD undef = .pointer (some ⟨g',0,none⟩):=by simpa using hq
 have hl:(loadVar ty' ⟨g',0,none⟩).run P w = .ok x w:=by
  simp[Sem.run_bind,Result.andThen,loadVar,load,hagg];simp[Sem.run,hc]
 simp[results,h,hp',hq',asAddr,run_loadVar_row w g t ty cs fr d hg hu hd hi,hl]
theorem N4 (w:World)(m:Nat):FF w m QM [] [] [] [] Mj:=by
 have hv:∀i,EN [] [] [] i->(IJ QM [] [] [] [] Mj i).v.ownBlock=none:=fun i hi=>by
  cases i with
  |wk=>rfl
  |wd c=>exact absurd (show c<0 from hi) (by omega)
  |b i=>
   cases i with
   |bd=>exact absurd rfl hi.2
   |nt c=>exact absurd (show c<0 from hi.1) (by omega)
   |rw c=>exact absurd (show c<0 from hi.1) (by omega)
   |_=>rfl
 refine⟨⟨fun i hi=>?_,fun i j hi _ _ => .inl (hv i hi)⟩,rfl,rfl,rfl⟩
 cases i with
 |wk=>exact⟨rfl,.inl ⟨rfl,rfl⟩⟩
 |wd c=>exact absurd (show c<0 from hi) (by omega)
 |b i=>
  cases i with
  |bd=>exact absurd rfl hi.2
  |nt c=>exact absurd (show c<0 from hi.1) (by omega)
  |rw c=>exact absurd (show c<0 from hi.1) (by omega)
  |_=>exact⟨rfl,.inl ⟨rfl,rfl⟩⟩
theorem J7 (w:World)(v:Value)(AA:List (List Dd))(h:Fo w v AA)(hx:AA.length<=1048576)(hm:∀i,i<AA.length->(AA.getD i []).length<=1048576):
  Calls Tryz.prog 76 #[v] w fun e w'=>∃bv:BV,e = .returned (.tuple #[bv.agg,.bool (AL AA)])/\DB w' w.heap.size w'.heap.size bv (Ky AA) (M4 AA)/\AC w w':=by
 have CN:=fun (W:World) (kW:AC w W) (e:AL AA=false)=>Qy W _ AA (h.keep kW) e hx hm
 have CY:=fun (W:World) (kW:AC w W) (e:AL AA=true)=>PR W _ AA (h.keep kW) e hx hm
 have HD:Hid (Ky AA=if AL AA=true then AA else []):=Lib.hid rfl;have HB:Hid (M4 AA=if AL AA=true then Ci AA else Mj):=Lib.hid rfl;obtain⟨aD,qw,rfl,-⟩:=id h;clear h hm;have um:∀(fn:Fn) (first cap:Array Value) (w:World),(Instr.makeFunc fn first cap).run Tryz.prog w = .ok (.func fn first cap) w:=fun _ _ _ _=>rfl
 obtain⟨w1,hw1⟩:∃W:World,W=((w.alloc (.cells #[AF,AF,AF,AF,AF,AF,AF,AF] 103)).alloc (.cells #[.bool false] 4)):=⟨_,rfl⟩;have K1:AC w w1:=by rw[hw1];exact ((AC.refl w).alloc _).alloc _
 have s1:w1.heap.size=w.heap.size+2:=by rw[hw1,AD,AD]
 have hV1:w1.heap[w.heap.size+1]? = some (.cells #[.bool false] 4 (0,0)):=by
  rw[hw1,Bt,if_pos (by rw[AD])]
 have hR1:w1.heap[w.heap.size]? = some (.cells #[AF,AF,AF,AF,AF,AF,AF,AF] 103 (0,0)):=by rw[hw1];exact (Below.block ((AC.refl _).alloc _) _ (by rw[AD];omega)).trans (heap_alloc_new _ _)
 go_enter_defers Tryz.func76,Tryz.ntmps76
 go_upto_region 2 with fail
 rw[<-hw1];clear hw1;cases hb:AL AA
 ·
  have C:=CN _ K1 hb;have rV:Hid (Ky AA=[]):=Lib.hid (by rw[HD.out,hb];rfl);have qY:Hid (M4 AA=Mj):=Lib.hid (by rw[HB.out,hb];rfl);clear CN CY HD HB;go_wp2_with fail
  refine C.mono ?_;rintro e w2 ⟨rfl,k2⟩;have K2:=K1.trans k2;have z2:=k2.size;have hR2:=(Below.block k2 w.heap.size (by omega)).trans hR1;have hV2:=(Below.block k2 (w.heap.size+1) (by omega)).trans hV1;have g3:=Ap w2 w.heap.size #[AF,AF,AF,AF,AF,AF,AF,AF];have h3:=setRow_heap w2 w.heap.size _ #[AF,AF,AF,AF,AF,AF,AF,AF] _ _ hR2;have v3:=(g3.block (w.heap.size+1) (by omega) (fun e=>by have:=Option.some.inj e;omega)).trans hV2;have v4:=heap_setCell_same _ (w.heap.size+1) 0 _ _ (.bool false) v3;have h4:=(heap_setCell_other (w2.setRow w.heap.size #[AF,AF,AF,AF,AF,AF,AF,AF]) ⟨w.heap.size+1,0,none⟩ w.heap.size (.bool false) (by show w.heap.size≠w.heap.size+1;omega)).trans h3;have g4:=Ac (w2.setRow w.heap.size #[AF,AF,AF,AF,AF,AF,AF,AF]) (w.heap.size+1) 0 (.bool false);have HR3:=Lib.hid h4;have HC3:Hid (((w2.setRow w.heap.size #[AF,AF,AF,AF,AF,AF,AF,AF]).setCell ⟨w.heap.size+1,0,none⟩ (.bool false)).cell? ⟨w.heap.size+1,0,none⟩=some (.bool false)):=Lib.hid (by rw[cell_of_row _ _ 0 _ _ _ v4];rfl);have KZ:=Lib.hid ((K2.grown g3 (fun k hk=>by have:=Option.some.inj hk;omega)).grown g4 (fun k hk=>by have:=Option.some.inj hk;omega));have c3:(w2.setRow w.heap.size #[AF,AF,AF,AF,AF,AF,AF,AF]).cell? ⟨w.heap.size+1,0,none⟩=some (.bool false):=by rw[cell_of_row _ _ 0 _ _ _ v3];rfl
  have f3:=frozen_of_row (w2.setRow w.heap.size #[AF,AF,AF,AF,AF,AF,AF,AF]) (w.heap.size+1) 0 _ _ v3;clear g3 h3 v3 v4 h4 g4 c3 f3 hR1 hV1;go_wp2;refine leaves_cons (f:=103) (args:=#[.pointer (some ⟨w.heap.size,0,none⟩),.pointer (some ⟨w.heap.size+1,0,none⟩)]) (by simp) (by simp[go_sem]) ?_;refine (dD _ _ (by omega) _ _ rfl _ hR2 hV2).mono ?_;rintro e u' w9 ⟨rfl,rfl,rfl⟩;have hres:=fun (tmps:Array Value) (h0:tmps.getD 2 undef = .pointer (some ⟨w.heap.size,0,none⟩)) (h1:tmps.getD 3 undef = .pointer (some ⟨w.heap.size+1,0,none⟩))=>GN (P:=Tryz.prog) (fn:=Tryz.f76) (by rfl) tmps _ w.heap.size (w.heap.size+1) 103 _ (0,0) _ h0 HR3.out h1 HC3.out Tryz.underlying103 rfl AQ (by kernel_rfl)
  show ∃v,(results _ _).run Tryz.prog _ = .ok v _/\_;refine⟨_,hres _ rfl rfl,?_⟩;exact⟨QM,by rw[hb],by rw[rV.out,qY.out];exact (N4 _ _).free,KZ.out⟩
 ·
  have C:=CY _ K1 hb;have rV:Hid (Ky AA=AA):=Lib.hid (by rw[HD.out,hb];rfl);have qY:Hid (M4 AA=Ci AA):=Lib.hid (by rw[HB.out,hb];rfl);clear CN CY HD HB;go_wp2_with fail
  refine C.mono ?_;rintro e w2 ⟨bv,nv,rv,wv,rfl,OA,k2⟩;have K2:=K1.trans k2;have z2:=k2.size;have hR2:=(Below.block k2 w.heap.size (by omega)).trans hR1;have hV2:=(Below.block k2 (w.heap.size+1) (by omega)).trans hV1;obtain⟨nb,hnb⟩:∃nb,nb=Ci AA:=⟨_,rfl⟩;rw[<-hnb] at OA qY;clear hnb C;obtain⟨vW,vP,vL,vN,vX,vS,vF,vR⟩:=bv;obtain⟨bW,bP,bL,bN,bX,bS,bF,bR,dW,dP,dL,dN,dX,dS,dF,dR,hsh⟩:=OA.rd.shapes;injection hsh with e1 e2 e3 e4 e5 e6 e7 e8;subst e1 e2 e3 e4 e5 e6 e7 e8;have g3:=Ap w2 w.heap.size #[.slice bW AA.length dW,.slice bP nb.AM.length dP,.slice bL nb.AO.length dL,.slice bN nb.AJ.length dN,.slice bX nb.AK.length dX,.slice bS nb.sn.length dS,.slice bF nb.fr.length dF,.slice bR nb.rws.length dR];have h3:=setRow_heap w2 w.heap.size _ #[.slice bW AA.length dW,.slice bP nb.AM.length dP,.slice bL nb.AO.length dL,.slice bN nb.AJ.length dN,.slice bX nb.AK.length dX,.slice bS nb.sn.length dS,.slice bF nb.fr.length dF,.slice bR nb.rws.length dR] _ _ hR2;have v3:=(g3.block (w.heap.size+1) (by omega) (fun e=>by have:=Option.some.inj e;omega)).trans hV2;have v4:=heap_setCell_same _ (w.heap.size+1) 0 _ _ (.bool true) v3;have h4:=(heap_setCell_other (w2.setRow w.heap.size #[.slice bW AA.length dW,.slice bP nb.AM.length dP,.slice bL nb.AO.length dL,.slice bN nb.AJ.length dN,.slice bX nb.AK.length dX,.slice bS nb.sn.length dS,.slice bF nb.fr.length dF,.slice bR nb.rws.length dR]) ⟨w.heap.size+1,0,none⟩ w.heap.size (.bool true) (by show w.heap.size≠w.heap.size+1;omega)).trans h3;have g4:=Ac (w2.setRow w.heap.size #[.slice bW AA.length dW,.slice bP nb.AM.length dP,.slice bL nb.AO.length dL,.slice bN nb.AJ.length dN,.slice bX nb.AK.length dX,.slice bS nb.sn.length dS,.slice bF nb.fr.length dF,.slice bR nb.rws.length dR]) (w.heap.size+1) 0 (.bool true);have HR3:=Lib.hid h4;have HC3:Hid (((w2.setRow w.heap.size #[.slice bW AA.length dW,.slice bP nb.AM.length dP,.slice bL nb.AO.length dL,.slice bN nb.AJ.length dN,.slice bX nb.AK.length dX,.slice bS nb.sn.length dS,.slice bF nb.fr.length dF,.slice bR nb.rws.length dR]).setCell ⟨w.heap.size+1,0,none⟩ (.bool true)).cell? ⟨w.heap.size+1,0,none⟩=some (.bool true)):=Lib.hid (by rw[cell_of_row _ _ 0 _ _ _ v4];rfl);have KZ:=Lib.hid ((K2.grown g3 (fun k hk=>by have:=Option.some.inj hk;omega)).grown g4 (fun k hk=>by have:=Option.some.inj hk;omega));have c3:(w2.setRow w.heap.size #[.slice bW AA.length dW,.slice bP nb.AM.length dP,.slice bL nb.AO.length dL,.slice bN nb.AJ.length dN,.slice bX nb.AK.length dX,.slice bS nb.sn.length dS,.slice bF nb.fr.length dF,.slice bR nb.rws.length dR]).cell? ⟨w.heap.size+1,0,none⟩=some (.bool false):=by rw[cell_of_row _ _ 0 _ _ _ v3];rfl
  have f3:=frozen_of_row (w2.setRow w.heap.size #[.slice bW AA.length dW,.slice bP nb.AM.length dP,.slice bL nb.AO.length dL,.slice bN nb.AJ.length dN,.slice bX nb.AK.length dX,.slice bS nb.sn.length dS,.slice bF nb.fr.length dF,.slice bR nb.rws.length dR]) (w.heap.size+1) 0 _ _ v3;have O4:=Lib.hid ((OA.far g3 (by omega)).far g4 (by omega));clear g3 h3 v3 v4 h4 g4 hR1 hV1 OA;go_wp2_with (first|refine wpList_store_row rfl 103 _ _ rfl w.heap.size _ rfl rfl 103 _ hR2 AQ rfl (by simp[Value.oneCell']) ?_|fail)
  refine leaves_cons (f:=103) (args:=#[.pointer (some ⟨w.heap.size,0,none⟩),.pointer (some ⟨w.heap.size+1,0,none⟩)]) (by simp) (by simp[go_sem]) ?_;refine (Yi _ _ _).mono ?_;rintro e u' w9 ⟨rfl,rfl,rfl⟩;have hres:=fun (tmps:Array Value) (h0:tmps.getD 2 undef = .pointer (some ⟨w.heap.size,0,none⟩)) (h1:tmps.getD 3 undef = .pointer (some ⟨w.heap.size+1,0,none⟩))=>GN (P:=Tryz.prog) (fn:=Tryz.f76) (by rfl) tmps _ w.heap.size (w.heap.size+1) 103 _ (0,0) _ h0 HR3.out h1 HC3.out Tryz.underlying103 rfl AQ (by kernel_rfl)
  show ∃v,(results _ _).run Tryz.prog _ = .ok v _/\_;refine⟨_,hres _ rfl rfl,?_⟩;exact⟨⟨_,_,_,_,_,_,_,_⟩,by rw[hb],by rw[rV.out,qY.out];exact FF.free ⟨O4.out.Af.QL (by omega),O4.out.ln,O4.out.lr,O4.out.lw⟩,KZ.out⟩
end Go.Proofs.YtflehmepjhikcaaGreatDoor
