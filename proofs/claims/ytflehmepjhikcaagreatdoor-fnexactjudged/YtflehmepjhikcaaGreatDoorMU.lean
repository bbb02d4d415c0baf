/- Gathered texts. -/
import Derived.Test.YtflehmepjhikcaaGreatDoorMT
import Derived.BigQuiet
import Derived.Deep.Cut
import Derived.RegionTactic
import Derived.Test.YtflehmepjhikcaaGreatDoorMR
import Derived.Maps.AppendAt
import Derived.Defers
import Derived.Recover
import Derived.Lib.Hide
import Derived.Laws.Rows
set_option maxRecDepth 100000
set_option maxHeartbeats 8000000
namespace Go.Proofs.YtflehmepjhikcaaGreatDoor
open Go.ChangeShapes Go.WideShapes Go.ChangeAt Go.RowKit
abbrev KCD:=@List.replicate_succ'
theorem fV (w:World)(m:Nat)(v:BV)(nv rv:List Value)(bs N:Nat)(AA:List (List Dd))(b:Bd)(n c:Nat)(h:BT w m v nv rv bs N AA b)(S:Ee AA b n)(hn:n<=900)(hm:m<=w.heap.size)(hc:c<AA.length)(h0:0<=b.AK.getD c 0)(hk:Am b c<(AA.getD c []).length)(h3:(Aj AA c (Am b c)).1=3->b.AJ.getD c []=[]):
  Calls Tryz.prog 150 #[v.agg,.int .i64 c] w fun e w'=>e = .returned (.tuple #[])/\∃nv' rv',BT w' m v nv' rv' bs N AA (Ar AA (AB AA) b (c:Int))/\Ai w w' (Dz v nv rv) (Dz v nv' rv'):=by
 have hd3:AA.length<=3:=(BM S.work).1;have WK0:=AI (WK.start S hn hc h0 hk (by omega));obtain⟨T,hT⟩:∃T,T=Ar AA (AB AA) b (c:Int):=⟨_,rfl⟩;obtain⟨g,hg⟩:∃g,g=BP AA c (Am b c):=⟨_,rfl⟩;rw[<-hT,<-hg] at WK0;have h5:=Dy S.work hc;have zX:=AI (CV S.work hc);have lX:c<b.AK.length:=by rw[S.AK];exact hc
 have XS:=AI S;obtain⟨aW,aP,aL,aN,aX,aS,aF,aR,cW,cP,cL,cQ,cX,cS,cF,cR,rfl⟩:=h.rd0.shapes;have O1:=h.box hm;obtain⟨gx,cx,ex,-⟩:=O1.oX.lit lX;simp only[KAT] at ex;obtain⟨rfl,-,rfl⟩:=ex;obtain⟨a',c',ew,hW⟩:=O1.rd.W;simp only[KAT] at ew;obtain⟨rfl,-,rfl⟩:=ew;rcases hW with q|⟨bw,ow,rfl,hbw,hcw⟩
 . exfalso;rw[q] at hc;simp at hc
 obtain⟨vd,dw,rd⟩:=hcw c hc;obtain⟨ds,hds⟩:∃ds,ds=AA.getD c []:=⟨_,rfl⟩;rw[<-hds] at rd h5;obtain⟨ad,cd,rfl,-⟩:=id rd;have CN:=Jn w;obtain⟨w1,hw1⟩:∃W:World,W=w.alloc (.cells #[.slice (some ⟨bw,ow,none⟩) AA.length cW,.slice aP b.AM.length cP,.slice aL b.AQ.length cL,.slice aN b.AJ.length cQ,.slice (some ⟨gx,0,none⟩) b.AK.length cX,.slice aS b.sn.length cS,.slice aF b.fr.length cF,.slice aR b.rws.length cR] 103):=⟨_,rfl⟩;have yh:w1.heap.size=w.heap.size+1:=by rw[hw1,AD]
 have K01:AC w w1:=by rw[hw1];exact (AC.refl w).alloc _
 replace O1:AU w1 m w.heap.size ⟨.slice (some ⟨bw,ow,none⟩) AA.length cW,.slice aP b.AM.length cP,.slice aL b.AQ.length cL,.slice aN b.AJ.length cQ,.slice (some ⟨gx,0,none⟩) b.AK.length cX,.slice aS b.sn.length cS,.slice aF b.fr.length cF,.slice aR b.rws.length cR⟩ nv rv bs N AA b:=by rw[hw1];exact O1
 replace dw:w1.cell? ⟨bw,ow+c,none⟩=some (.slice ad ds.length (ds.length+cd)):=by rw[hw1];exact dw
 have XO:=AI O1
 have XL:Hid (∀(W:World) (F':Nat->Prop),Ai w1 W (Dz ⟨.slice (some ⟨bw,ow,none⟩) AA.length cW,.slice aP b.AM.length cP,.slice aL b.AQ.length cL,.slice aN b.AJ.length cQ,.slice (some ⟨gx,0,none⟩) b.AK.length cX,.slice aS b.sn.length cS,.slice aF b.fr.length cF,.slice aR b.rws.length cR⟩ nv rv) F'->Jg W (.slice ad ds.length (ds.length+cd)) ds):=AI (fun W F' t=>by
  obtain⟨a2,c2,e2,hx⟩:=O1.work;simp only[KAT,KA8] at e2;rcases hx with q|⟨b2,o2,q1,q2,q3,q4,q5⟩
  . exfalso;rw[q] at hc;simp at hc
  rw[q1] at e2;simp only[KAg,KA6,KBX] at e2;obtain⟨⟨rfl,rfl⟩,-⟩:=e2;obtain⟨vi,u1,u2,u3⟩:=q5 c hc;rw[dw] at u1;have u4:=KAI u1;subst u4;rw[<-hds] at u2
  exact (Bq.S9 (E5 (r:=Th ds _) u2 (fun g hg=>t.block g (KAY u2 g hg).2 (fun hB=>by
   have:=(XO.out.blk g (ZD hB)).2.2;have:=(KAY u2 g hg).1;have:=u3 g hg
   omega)))).rd)
 have XV:=AI (h.keep K01);have NB:Hid (∀q,Dz ⟨.slice (some ⟨bw,ow,none⟩) AA.length cW,.slice aP b.AM.length cP,.slice aL b.AQ.length cL,.slice aN b.AJ.length cQ,.slice (some ⟨gx,0,none⟩) b.AK.length cX,.slice aS b.sn.length cS,.slice aF b.fr.length cF,.slice aR b.rws.length cR⟩ nv rv q->q<w.heap.size):=AI (fun q hq=>(h.blk q hq).2.1);have c0:w1.cell? ⟨w.heap.size,0,none⟩=some (.slice (some ⟨bw,ow,none⟩) AA.length cW):=O1.cells.1;have i1:(0:Int)<=(c:Int):=KAK _;have i2:(c:Int)<(AA.length:Int):=by omega
 have JU:=O1.MA;simp only[BV.arr] at JU;have MR:=AI hds;have XD1:=AI JU;have HT:=AI hT;have hm1:m<=w1.heap.size:=by omega
 have CD:=Jn w1 m _ nv rv bs N AA b n c XV.out S (by omega) hm1 hc h0 hk h3;clear hcw O1 h S h3 hds hT hg rd CN hk;go_enter Tryz.func150,Tryz.ntmps150
 go_upto_region 1 with fail
 rw[<-hw1];clear hw1;go_wp2_with (first|refine KAq rfl 103 _ rfl w.heap.size rfl 103 _ (0,0) _ JU Tryz.underlying103 rfl AR ?_|fail)
 refine CD.mono ?_;rintro e w2 ⟨rfl,nv2,rv2,V2,T2⟩;have qo:=AI V2;have XT2:=AI T2;have nD:∀F',Ai w1 w2 (Dz ⟨.slice (some ⟨bw,ow,none⟩) AA.length cW,.slice aP b.AM.length cP,.slice aL b.AQ.length cL,.slice aN b.AJ.length cQ,.slice (some ⟨gx,0,none⟩) b.AK.length cX,.slice aS b.sn.length cS,.slice aF b.fr.length cF,.slice aR b.rws.length cR⟩ nv rv) F'->w2.heap[w.heap.size]? = w1.heap[w.heap.size]?:=fun F' t=>t.block _ (by omega) (fun q=>by have:=NB.out _ q;omega)
 have hD2:=(nD _ T2).trans JU;clear V2 T2 nD CD dw c0 JU XV XO;go_wp2;go_loopw [] (fun wr=>∃(nv' rv':List Value) (b':Bd) (n':Nat),BT wr m ⟨.slice (some ⟨bw,ow,none⟩) AA.length cW,.slice aP b.AM.length cP,.slice aL b.AQ.length cL,.slice aN b.AJ.length cQ,.slice (some ⟨gx,0,none⟩) b.AK.length cX,.slice aS b.sn.length cS,.slice aF b.fr.length cF,.slice aR b.rws.length cR⟩ nv' rv' bs N AA b'/\Ai w1 wr (Dz ⟨.slice (some ⟨bw,ow,none⟩) AA.length cW,.slice aP b.AM.length cP,.slice aL b.AQ.length cL,.slice aN b.AJ.length cQ,.slice (some ⟨gx,0,none⟩) b.AK.length cX,.slice aS b.sn.length cS,.slice aF b.fr.length cF,.slice aR b.rws.length cR⟩ nv rv) (Dz ⟨.slice (some ⟨bw,ow,none⟩) AA.length cW,.slice aP b.AM.length cP,.slice aL b.AQ.length cL,.slice aN b.AJ.length cQ,.slice (some ⟨gx,0,none⟩) b.AK.length cX,.slice aS b.sn.length cS,.slice aF b.fr.length cF,.slice aR b.rws.length cR⟩ nv' rv')/\WK AA c g T b' n') (fun wr=>match wr.cell? ⟨gx,c,none⟩ with|some x=>ds.length-(intOf x).toNat|none=>0)
 case atStart=>exact⟨nv2,rv2,_,_,qo.out,XT2.out,WK0.out⟩
 case round=>
  obtain⟨nv',rv',b',n',VJ,TJ,KJ⟩:=hrel;clear qo XT2 hD2;have vT:c<b'.AK.length:=by rw[KJ.Yg.AK];exact hc
  obtain⟨gx',cx',ex',lgx,qy,-⟩:=(show A8 wr m (BV.X ⟨.slice (some ⟨bw,ow,none⟩) AA.length cW,.slice aP b.AM.length cP,.slice aL b.AQ.length cL,.slice aN b.AJ.length cQ,.slice (some ⟨gx,0,none⟩) b.AK.length cX,.slice aS b.sn.length cS,.slice aF b.fr.length cF,.slice aR b.rws.length cR⟩) b'.AK from VJ.Ag.own .AK ⟨trivial,by simp⟩).lit vT;have ex2:Value.slice (some ⟨gx,0,none⟩) b.AK.length cX = .slice (some ⟨gx',0,none⟩) b'.AK.length cx':=ex';simp only[KAT,KAg,KA6,KBX] at ex2;obtain⟨k,hkz⟩:=KAn KJ.z;have hkn:Am b' c=k:=by unfold Am;rw[hkz];rfl
  have l8:wr.cell? ⟨gx,c,none⟩=some (.int .i64 (k:Int)):=by rw[ex2.1,<-hkz];exact qy c vT
  have ng:=AI KJ;have hle:=KJ.le;rw[hkn,<-MR.out] at hle;have hDr:wr.heap[w.heap.size]? = some (.cells #[.slice (some ⟨bw,ow,none⟩) AA.length cW,.slice aP b.AM.length cP,.slice aL b.AQ.length cL,.slice aN b.AJ.length cQ,.slice (some ⟨gx,0,none⟩) b.AK.length cX,.slice aS b.sn.length cS,.slice aF b.fr.length cF,.slice aR b.rws.length cR] 103 (0,0)):=(TJ.block _ (by omega) (fun q=>by have:=NB.out _ q;omega)).trans XD1.out;have c4:wr.cell? ⟨w.heap.size,4,none⟩=some (.slice (some ⟨gx,0,none⟩) b.AK.length cX):=by rw[KAL wr _ 4 _ _ _ hDr];rfl
  have XVJ:=AI VJ;have zZ:=AI TJ;have XLJ:=AI (XL.out wr _ TJ);have i3:(c:Int)<(b.AK.length:Int):=by omega
  have i4:(0:Int)<=(k:Int):=KAK _
  have Yn:Hid (¬(k<ds.length/\G2 ds k=true)->∃nv'' rv'',BT wr m ⟨.slice (some ⟨bw,ow,none⟩) AA.length cW,.slice aP b.AM.length cP,.slice aL b.AQ.length cL,.slice aN b.AJ.length cQ,.slice (some ⟨gx,0,none⟩) b.AK.length cX,.slice aS b.sn.length cS,.slice aF b.fr.length cF,.slice aR b.rws.length cR⟩ nv'' rv'' bs N AA T/\Ai w wr (Dz ⟨.slice (some ⟨bw,ow,none⟩) AA.length cW,.slice aP b.AM.length cP,.slice aL b.AQ.length cL,.slice aN b.AJ.length cQ,.slice (some ⟨gx,0,none⟩) b.AK.length cX,.slice aS b.sn.length cS,.slice aF b.fr.length cF,.slice aR b.rws.length cR⟩ nv rv) (Dz ⟨.slice (some ⟨bw,ow,none⟩) AA.length cW,.slice aP b.AM.length cP,.slice aL b.AQ.length cL,.slice aN b.AJ.length cQ,.slice (some ⟨gx,0,none⟩) b.AK.length cX,.slice aS b.sn.length cS,.slice aF b.fr.length cF,.slice aR b.rws.length cR⟩ nv'' rv'')):=AI (fun hno=>by
   obtain⟨mm,-,hT⟩:=ng.out.go;rw[hkn,<-MR.out,KAQ hno] at hT
   exact⟨nv',rv',by rw[hT];exact XVJ.out,((Ai.refl w _).keep K01).trans zZ.out⟩)
  clear VJ TJ KJ ex' ex2 qy;by_cases hl:k<ds.length
  ·
   have hd:decide ((k:Int)<(ds.length:Int))=true:=KAl (by omega)
   cases hgo:G2 ds k with
   |true=>
    have xM:∀q,Calls Tryz.prog 119 #[.slice ad ds.length (ds.length+cd),.int .i64 (k:Int)] (wr.drewN q) fun e w'=>e = .returned (.bool true)/\∃r,w'=(wr.drewN q).drewN r:=fun q=>by
     rw[<-hgo];exact Kf (wr.drewN q) _ ds (XLJ.out.keep ((AC.refl wr).drewN q)) k hl (by omega)
    obtain⟨g1,g2⟩:=ng.out.gg (by rw[hkn,<-MR.out];exact hl) (by rw[hkn,<-MR.out];exact hgo);rw[hkn] at g1;have CD:=fun (W:World) (kW:AC wr W)=>Jn W m _ nv' rv' bs N AA b' n' c (XVJ.out.keep kW) ng.out.Yg (by have:=ng.out.nt;omega) (KAU (show m<=wr.heap.size by have:=zZ.out.size;omega) kW.size) hc ng.out.z (by rw[hkn,<-MR.out];exact hl) (fun q3=>absurd q3 (FT zX.out (by rw[hkn,<-MR.out];exact hl) (by rw[hkn,g1];exact g2)).2.1)
    clear hle Yn;go_upto_region 3 with fail
    go_quiet ((first|(go_at_call 101;exact KCz (De _ _ _ _))|(go_at_call 119;exact Calls.quiet_of (xM _))))
    have JU:(wr.drewN nq).heap[w.heap.size]? = some (.cells #[.slice (some ⟨bw,ow,none⟩) AA.length cW,.slice aP b.AM.length cP,.slice aL b.AQ.length cL,.slice aN b.AJ.length cQ,.slice (some ⟨gx,0,none⟩) b.AK.length cX,.slice aS b.sn.length cS,.slice aF b.fr.length cF,.slice aR b.rws.length cR] 103 (0,0)):=hDr;go_wp2_with (first|refine KAq rfl 103 _ rfl w.heap.size rfl 103 _ (0,0) _ JU Tryz.underlying103 rfl AR ?_|fail)
    refine (CD _ ((AC.refl wr).drewN _)).mono ?_;rintro e w5 ⟨rfl,nv5,rv5,V5,T5⟩;have HS:=ng.out.step hc (by rw[hkn,<-MR.out];exact hl) (by rw[hkn,<-MR.out];exact hgo);have T6:=(zZ.out.keep ((AC.refl wr).drewN _)).trans T5;obtain⟨e1,e2⟩:=Q5 (AA:=AA) (es:=AB AA) vT ng.out.z;obtain⟨gx',cx',ex',-,dX5,-⟩:=(show A8 w5 m (BV.X ⟨.slice (some ⟨bw,ow,none⟩) AA.length cW,.slice aP b.AM.length cP,.slice aL b.AQ.length cL,.slice aN b.AJ.length cQ,.slice (some ⟨gx,0,none⟩) b.AK.length cX,.slice aS b.sn.length cS,.slice aF b.fr.length cF,.slice aR b.rws.length cR⟩) _ from V5.Ag.own .AK ⟨trivial,by simp⟩).lit (show c<(Ah AA (AB AA) b' c).AK.length by rw[HS.Yg.AK];exact hc);have ex2:Value.slice (some ⟨gx,0,none⟩) b.AK.length cX = .slice (some ⟨gx',0,none⟩) (Ah AA (AB AA) b' c).AK.length cx':=ex';simp only[KAT,KAg,KA6,KBX] at ex2
    have dXn:w5.cell? ⟨gx,c,none⟩=some (.int .i64 ((k:Int)+1)):=by
     have:=dX5 c (by rw[HS.Yg.AK];exact hc);rw[e1,hkz,<-ex2.1] at this;exact this
    have HV5:=AI V5;have HT6:=AI T6;have HSS:=AI HS;clear V5 T5 T6 HS dX5 ex' ex2 JU xM CD;go_wp2;go_roundw;case rel=>exact⟨nv5,rv5,_,_,HV5.out,HT6.out,HSS.out⟩
    case measure=>simp only[dXn,l8,intOf];omega
   |false=>
    have xM:∀q,Calls Tryz.prog 119 #[.slice ad ds.length (ds.length+cd),.int .i64 (k:Int)] (wr.drewN q) fun e w'=>e = .returned (.bool false)/\∃r,w'=(wr.drewN q).drewN r:=fun q=>by
     rw[<-hgo];exact Kf (wr.drewN q) _ ds (XLJ.out.keep ((AC.refl wr).drewN q)) k hl (by omega)
    obtain⟨nz,rz,VZ,TZ⟩:=Yn.out (fun q=>by rw[hgo] at q;simp at q);have HV:=AI VZ;have HZ:=AI TZ;clear hle Yn VZ TZ;go_upto_region 3 with fail
    go_quiet ((first|(go_at_call 101;exact KCz (De _ _ _ _))|(go_at_call 119;exact Calls.quiet_of (xM _))))
    go_wp2;go_end0;exact⟨rfl,nz,rz,by rw[<-HT.out];exact HV.out.keep ((AC.refl wr).drewN _),HZ.out.keep ((AC.refl wr).drewN _)⟩
  ·
   have hd:decide ((k:Int)<(ds.length:Int))=false:=KAi (by omega);obtain⟨nz,rz,VZ,TZ⟩:=Yn.out (fun q=>hl q.1);have HV:=AI VZ;have HZ:=AI TZ;clear hle Yn VZ TZ;go_upto_region 3 with fail
   go_quiet ((first|(go_at_call 101;exact KCz (De _ _ _ _))|fail))
   go_wp2;go_end0;exact⟨rfl,nz,rz,by rw[<-HT.out];exact HV.out.keep ((AC.refl wr).drewN _),HZ.out.keep ((AC.refl wr).drewN _)⟩
theorem ZC {v:BV}{nv rv:List Value}{g:Nat}(h:Fg v rv g):Dz v nv rv g:=by
 obtain⟨i,hi,e⟩:=h
 cases i with
 |AM=>exact⟨.AM,trivial,by simp,e⟩
 |AQ=>exact⟨.AQ,trivial,by simp,e⟩
 |rws=>exact⟨.rws,trivial,by simp,e⟩
 |rw p=>exact⟨.rw p,hi,by simp,e⟩
 |bd=>exact hi.elim
 |AJ=>exact hi.elim
 |AK=>exact hi.elim
 |sn=>exact hi.elim
 |fr=>exact hi.elim
 |nt c=>exact hi.elim
theorem Wp (w:World)(m:Nat)(v:BV)(nv rv wv:List Value)(bs N:Nat)(AA:List (List Dd))(b:Bd)(n c:Nat)(x:Nt)(r:List Nt)(h:BT w m v nv rv bs N AA b)(lw:ED w bs N v.W wv AA)(hbs:m<=bs)(S:Ee AA b n)(hn:n<=1000)(hm:m<=w.heap.size)(hc:c<AA.length)(hz:b.AJ.getD c []=x::r)(hx:0<=x.1/\x.1<=2):
  Calls Tryz.prog 152 #[v.agg,.int .i64 c] w fun e w'=>e = .returned (.tuple #[])/\Dh w' m w'.heap.size v AA (BS b c)/\∃F',Ai w w' (Dz v nv rv) F':=by
 have hcn:c<b.AJ.length:=by rw[S.AJ];exact hc
 obtain⟨x0,x1,x2⟩:=x;simp only at hx;obtain⟨p,rfl⟩:=KAn hx.1;have hp3:p<3:=by omega
 have HM:Hid (BS b c=EJ { b with AJ:=b.AJ.set c r } p x1 x2):=AI (by unfold BS;rw[hz];simp);have XS:=AI S;have lp:p<b.AM.length:=by rw[S.AM];exact hp3
 have ll:p<b.AQ.length:=by rw[S.AQ];exact hp3
 have lr:p<b.rws.length:=by rw[S.rws];exact hp3
 obtain⟨aW,aP,aL,aN,aX,aS,aF,aR,cW,cP,cL,cQ,cX,cS,cF,cR,rfl⟩:=h.rd0.shapes;have XSL:=AI h.rd0.sl;have O1:=h.box hm;obtain⟨a',c',eN,hN⟩:=O1.hN;simp only[KAT,KA8] at eN;obtain⟨rfl,rfl⟩:=eN;rcases hN with q|⟨gn,rfl,pu,dn⟩
 . exfalso;rw[q] at hcn;simp at hcn
 obtain⟨w1,hw1⟩:∃W:World,W=w.alloc (.cells #[.slice aW AA.length cW,.slice aP b.AM.length cP,.slice aL b.AQ.length cL,.slice (some ⟨gn,0,none⟩) b.AJ.length cQ,.slice aX b.AK.length cX,.slice aS b.sn.length cS,.slice aF b.fr.length cF,.slice aR b.rws.length cR] 103):=⟨_,rfl⟩;have yh:w1.heap.size=w.heap.size+1:=by rw[hw1,AD]
 have K01:AC w w1:=by rw[hw1];exact (AC.refl w).alloc _
 replace O1:AU w1 m w.heap.size ⟨.slice aW AA.length cW,.slice aP b.AM.length cP,.slice aL b.AQ.length cL,.slice (some ⟨gn,0,none⟩) b.AJ.length cQ,.slice aX b.AK.length cX,.slice aS b.sn.length cS,.slice aF b.fr.length cF,.slice aR b.rws.length cR⟩ nv rv bs N AA b:=by rw[hw1];exact O1
 replace dn:∀i,i<b.AJ.length->w1.cell? ⟨gn,i,none⟩=some (nv.getD i AF):=by rw[hw1];exact dn
 have oq:=O1.oN hcn;rw[hz] at oq
 obtain⟨gq,cq,hq,lgq⟩:∃gq cq,nv.getD c AF = .slice (some ⟨gq,0,none⟩) (r.length+1) cq/\gq<w1.heap.size:=by
  have hlt:=KAY oq;rcases oq.2 with ⟨_,hz'⟩|⟨g,cap,cur,e,_⟩
  . simp at hz'
  . exact⟨g,cap,e,(hlt g (by rw[e];rfl)).2⟩
 have hcq:r.length+1<=cq:=by
  rcases oq.2 with ⟨_,hz'⟩|⟨g,cap,cur,e,_,_,hcap,_⟩
  . simp at hz'
  ·
   rw[hq] at e;simp only[KAT] at e;rw[e.2.2];simpa using hcap
 rw[hq] at oq;have q0:w1.cell? ⟨gq,0,none⟩=some (.int .i64 (p:Int)):=KAp oq 0 (by simp);have q1:w1.cell? ⟨gq,1,none⟩=some (.int .i64 x1):=KAp oq 1 (by show 1<(r.length+1)*3;omega);have q2:w1.cell? ⟨gq,2,none⟩=some (.int .i64 x2):=KAp oq 2 (by show 2<(r.length+1)*3;omega);have d3:=dn c hcn;rw[hq] at d3;have hcv:c<nv.length:=by rw[O1.ln];exact hcn
 obtain⟨w2,hw2⟩:∃W:World,W=w1.alloc (Pw (p:Int) x1 x2):=⟨_,rfl⟩;have k2:AC w1 w2:=by rw[hw2];exact (AC.refl w1).alloc _
 have y2w:w2.heap.size=w.heap.size+2:=by rw[hw2,AD,yh]
 have XN2:Hid (w2.heap[w.heap.size+1]? = some (.cells #[.int .i64 (p:Int),.int .i64 x1,.int .i64 x2] 155 (0,0))):=AI (by rw[hw2,<-yh];exact KAX _ _);have O2:=O1.keep k2;have XD2:Hid (w2.heap[w.heap.size]? = some (.cells #[.slice aW AA.length cW,.slice aP b.AM.length cP,.slice aL b.AQ.length cL,.slice (some ⟨gn,0,none⟩) b.AJ.length cQ,.slice aX b.AK.length cX,.slice aS b.sn.length cS,.slice aF b.fr.length cF,.slice aR b.rws.length cR] 103 (0,0))):=AI (by have:=O2.MA;simp only[BV.arr] at this;exact this);have XA2:Hid (GH w2 m ⟨.slice aW AA.length cW,.slice aP b.AM.length cP,.slice aL b.AQ.length cL,.slice (some ⟨gn,0,none⟩) b.AJ.length cQ,.slice aX b.AK.length cX,.slice aS b.sn.length cS,.slice aF b.fr.length cF,.slice aR b.rws.length cR⟩ nv rv wv AA b):=AI (O2.all ((lw.keep K01).keep k2) hbs);have zb:Hid (BV.N ⟨.slice aW AA.length cW,.slice aP b.AM.length cP,.slice aL b.AQ.length cL,.slice (some ⟨gn,0,none⟩) b.AJ.length cQ,.slice aX b.AK.length cX,.slice aS b.sn.length cS,.slice aF b.fr.length cF,.slice aR b.rws.length cR⟩ = .slice (some ⟨gn,0,none⟩) nv.length cQ):=AI (by rw[O1.ln]);have NB:Hid (∀q,Dz ⟨.slice aW AA.length cW,.slice aP b.AM.length cP,.slice aL b.AQ.length cL,.slice (some ⟨gn,0,none⟩) b.AJ.length cQ,.slice aX b.AK.length cX,.slice aS b.sn.length cS,.slice aF b.fr.length cF,.slice aR b.rws.length cR⟩ nv rv q->q<w.heap.size):=AI (fun q hq=>(h.blk q hq).2.1);have T02:Hid (Ai w w2 (Dz ⟨.slice aW AA.length cW,.slice aP b.AM.length cP,.slice aL b.AQ.length cL,.slice (some ⟨gn,0,none⟩) b.AJ.length cQ,.slice aX b.AK.length cX,.slice aS b.sn.length cS,.slice aF b.fr.length cF,.slice aR b.rws.length cR⟩ nv rv) (Dz ⟨.slice aW AA.length cW,.slice aP b.AM.length cP,.slice aL b.AQ.length cL,.slice (some ⟨gn,0,none⟩) b.AJ.length cQ,.slice aX b.AK.length cX,.slice aS b.sn.length cS,.slice aF b.fr.length cF,.slice aR b.rws.length cR⟩ nv rv)):=AI (((Ai.refl w _).keep K01).keep k2);have c31:w1.cell? ⟨w.heap.size,3,none⟩=some (.slice (some ⟨gn,0,none⟩) b.AJ.length cQ):=O1.cells.2.2.2.1;have c3:w2.cell? ⟨w.heap.size,3,none⟩=some (.slice (some ⟨gn,0,none⟩) b.AJ.length cQ):=O2.cells.2.2.2.1;have d32:=(k2.cell (show gn<w1.heap.size from (O1.Ag.lt (i:= .AJ) trivial gn rfl).2)).trans d3;have f3:w2.frozen? ⟨gn,c,none⟩=false:=(Rw.put (r:=Em 151 nv (BV.N ⟨.slice aW AA.length cW,.slice aP b.AM.length cP,.slice aL b.AQ.length cL,.slice (some ⟨gn,0,none⟩) b.AJ.length cQ,.slice aX b.AK.length cX,.slice aS b.sn.length cS,.slice aF b.fr.length cF,.slice aR b.rws.length cR⟩)) (O2.Ag.own .AJ trivial) (g:=gn) (cap:=cQ) (k:=c) zb.out (.bool true)).2.2;have i1:(0:Int)<=(c:Int):=KAK _;have i3:(c:Int)<(b.AJ.length:Int):=by omega
 have i5:((r.length+1:Nat):Int)=(r.length:Int)+1:=by omega
 have j1:(1:Int)<=(r.length:Int)+1:=by omega
 have hz':=hz;have hq':=hq;have HZ1:=AI hz';have HZ2:=AI hq';clear O1 O2 oq dn h lw hz hq hz' hq' S hx;go_enter Tryz.func152,Tryz.ntmps152
 go_upto_region 1 with fail
 rw[<-hw1];clear hw1;go_upto_region 2 with fail
 rw[<-hw2];clear hw2 q0 q1 q2 c31 d3;have hz':=HZ1;have hq':=HZ2;have d3:=d32;clear d32;by_cases hq1:cq=1
 ·
  have j2:(1:Int)<=(cq:Int):=by omega
  have sM:=(XA2.out.cut (g:=gn) (c:=c) (cap:=cQ) zb.out (.slice (some ⟨gq,0,none⟩) r.length 0)).keep (AC.refl _).drew;have T3:Ai w2 _ (Dz ⟨.slice aW AA.length cW,.slice aP b.AM.length cP,.slice aL b.AQ.length cL,.slice (some ⟨gn,0,none⟩) b.AJ.length cQ,.slice aX b.AK.length cX,.slice aS b.sn.length cS,.slice aF b.fr.length cF,.slice aR b.rws.length cR⟩ nv rv) (Dz ⟨.slice aW AA.length cW,.slice aP b.AM.length cP,.slice aL b.AQ.length cL,.slice (some ⟨gn,0,none⟩) b.AJ.length cQ,.slice aX b.AK.length cX,.slice aS b.sn.length cS,.slice aF b.fr.length cF,.slice aR b.rws.length cR⟩ nv rv):=((Ai.refl w2 _).grown (Ad w2 gn c (.slice (some ⟨gq,0,none⟩) r.length 0)) (fun g hg=>⟨.AJ,trivial,by simp,hg⟩)).keep (AC.refl _).drew;have JU:=(T3.block w.heap.size (by omega) (fun q=>by have:=NB.out _ q;omega)).trans XD2.out;have uj:=(T3.block (w.heap.size+1) (by omega) (fun q=>by have:=NB.out _ q;omega)).trans XN2.out;have iB:=AI sM;have iH:=AI T3;have sw:=AI JU;have iC:=AI uj;clear sM T3 JU uj;go_region
  go_upto_region 3 with fail
  obtain⟨w3,hw3⟩:∃W:World,W=(w2.setCell ⟨gn,c,none⟩ (.slice (some ⟨gq,0,none⟩) r.length 0)).drew:=⟨_,rfl⟩;rw[<-hw3] at iB iH sw iC ⊢;clear hw3;have JU:=sw.out;have m0:w3.cell? ⟨w.heap.size+1,0,none⟩=some (.int .i64 (p:Int)):=by rw[KAL w3 _ 0 _ _ _ iC.out];rfl
  have m1:w3.cell? ⟨w.heap.size+1,1,none⟩=some (.int .i64 x1):=by rw[KAL w3 _ 1 _ _ _ iC.out];rfl
  have m2:w3.cell? ⟨w.heap.size+1,2,none⟩=some (.int .i64 x2):=by rw[KAL w3 _ 2 _ _ _ iC.out];rfl
  have s3:=iH.out.size;have Rj:=Q7 w3 m ⟨.slice aW AA.length cW,.slice aP b.AM.length cP,.slice aL b.AQ.length cL,.slice (some ⟨gn,0,none⟩) b.AJ.length cQ,.slice aX b.AK.length cX,.slice aS b.sn.length cS,.slice aF b.fr.length cF,.slice aR b.rws.length cR⟩ rv b p x1 x2 iB.out.Z9 XSL.out (by omega) lp ll lr (by have:=XS.out.rl p;omega);clear d3 f3 c3;go_wp2_with (first|refine KAq rfl 103 _ rfl w.heap.size rfl 103 _ (0,0) _ JU Tryz.underlying103 rfl AR ?_|fail)
  refine Rj.mono ?_;rintro e w4 ⟨rfl,rv',O4,T4⟩;have sU:=iB.out.turn O4 T4 rfl rfl rfl rfl;have FR:=AI (sU.free hcv HZ1.out HZ2.out (.inl ⟨hq1,rfl⟩));have B4:=AI ((T02.out.trans iH.out).trans (⟨T4.os,T4.tape,T4.output,T4.size,fun g h1 h2=>T4.block g h1 (fun q=>h2 (ZC q)),fun g h=>h⟩:Ai w3 w4 (Dz ⟨.slice aW AA.length cW,.slice aP b.AM.length cP,.slice aL b.AQ.length cL,.slice (some ⟨gn,0,none⟩) b.AJ.length cQ,.slice aX b.AK.length cX,.slice aS b.sn.length cS,.slice aF b.fr.length cF,.slice aR b.rws.length cR⟩ nv rv) (fun g=>Dz ⟨.slice aW AA.length cW,.slice aP b.AM.length cP,.slice aL b.AQ.length cL,.slice (some ⟨gn,0,none⟩) b.AJ.length cQ,.slice aX b.AK.length cX,.slice aS b.sn.length cS,.slice aF b.fr.length cF,.slice aR b.rws.length cR⟩ nv rv g\/w3.heap.size<=g)));clear O4 T4 sU Rj JU m0 m1 m2;go_wp2;go_end0;exact⟨rfl,by rw[HM.out];exact FR.out,_,B4.out⟩
 ·
  have j2:(1:Int)<(cq:Int):=by omega
  have sM:=(XA2.out.cut (g:=gn) (c:=c) (cap:=cQ) zb.out (.slice (some ⟨gq,3,none⟩) r.length (cq-1))).keep (AC.refl _).drew;have T3:Ai w2 _ (Dz ⟨.slice aW AA.length cW,.slice aP b.AM.length cP,.slice aL b.AQ.length cL,.slice (some ⟨gn,0,none⟩) b.AJ.length cQ,.slice aX b.AK.length cX,.slice aS b.sn.length cS,.slice aF b.fr.length cF,.slice aR b.rws.length cR⟩ nv rv) (Dz ⟨.slice aW AA.length cW,.slice aP b.AM.length cP,.slice aL b.AQ.length cL,.slice (some ⟨gn,0,none⟩) b.AJ.length cQ,.slice aX b.AK.length cX,.slice aS b.sn.length cS,.slice aF b.fr.length cF,.slice aR b.rws.length cR⟩ nv rv):=((Ai.refl w2 _).grown (Ad w2 gn c (.slice (some ⟨gq,3,none⟩) r.length (cq-1))) (fun g hg=>⟨.AJ,trivial,by simp,hg⟩)).keep (AC.refl _).drew;have JU:=(T3.block w.heap.size (by omega) (fun q=>by have:=NB.out _ q;omega)).trans XD2.out;have uj:=(T3.block (w.heap.size+1) (by omega) (fun q=>by have:=NB.out _ q;omega)).trans XN2.out;have iB:=AI sM;have iH:=AI T3;have sw:=AI JU;have iC:=AI uj;clear sM T3 JU uj;go_region
  go_upto_region 3 with fail
  obtain⟨w3,hw3⟩:∃W:World,W=(w2.setCell ⟨gn,c,none⟩ (.slice (some ⟨gq,3,none⟩) r.length (cq-1))).drew:=⟨_,rfl⟩;rw[<-hw3] at iB iH sw iC ⊢;clear hw3;have JU:=sw.out;have m0:w3.cell? ⟨w.heap.size+1,0,none⟩=some (.int .i64 (p:Int)):=by rw[KAL w3 _ 0 _ _ _ iC.out];rfl
  have m1:w3.cell? ⟨w.heap.size+1,1,none⟩=some (.int .i64 x1):=by rw[KAL w3 _ 1 _ _ _ iC.out];rfl
  have m2:w3.cell? ⟨w.heap.size+1,2,none⟩=some (.int .i64 x2):=by rw[KAL w3 _ 2 _ _ _ iC.out];rfl
  have s3:=iH.out.size;have Rj:=Q7 w3 m ⟨.slice aW AA.length cW,.slice aP b.AM.length cP,.slice aL b.AQ.length cL,.slice (some ⟨gn,0,none⟩) b.AJ.length cQ,.slice aX b.AK.length cX,.slice aS b.sn.length cS,.slice aF b.fr.length cF,.slice aR b.rws.length cR⟩ rv b p x1 x2 iB.out.Z9 XSL.out (by omega) lp ll lr (by have:=XS.out.rl p;omega);clear d3 f3 c3;go_wp2_with (first|refine KAq rfl 103 _ rfl w.heap.size rfl 103 _ (0,0) _ JU Tryz.underlying103 rfl AR ?_|fail)
  refine Rj.mono ?_;rintro e w4 ⟨rfl,rv',O4,T4⟩;have sU:=iB.out.turn O4 T4 rfl rfl rfl rfl;have FR:=AI (sU.free hcv HZ1.out HZ2.out (.inr rfl));have B4:=AI ((T02.out.trans iH.out).trans (⟨T4.os,T4.tape,T4.output,T4.size,fun g h1 h2=>T4.block g h1 (fun q=>h2 (ZC q)),fun g h=>h⟩:Ai w3 w4 (Dz ⟨.slice aW AA.length cW,.slice aP b.AM.length cP,.slice aL b.AQ.length cL,.slice (some ⟨gn,0,none⟩) b.AJ.length cQ,.slice aX b.AK.length cX,.slice aS b.sn.length cS,.slice aF b.fr.length cF,.slice aR b.rws.length cR⟩ nv rv) (fun g=>Dz ⟨.slice aW AA.length cW,.slice aP b.AM.length cP,.slice aL b.AQ.length cL,.slice (some ⟨gn,0,none⟩) b.AJ.length cQ,.slice aX b.AK.length cX,.slice aS b.sn.length cS,.slice aF b.fr.length cF,.slice aR b.rws.length cR⟩ nv rv g\/w3.heap.size<=g)));clear O4 T4 sU Rj JU m0 m1 m2;go_wp2;go_end0;exact⟨rfl,by rw[HM.out];exact FR.out,_,B4.out⟩
def Ub (k:Nat):Bd:=⟨List.replicate k 0,(List.range k).map (fun (i:Nat)=>(i:Int)),[],[],[],[],(List.range k).map (fun (i:Nat)=>[(i:Int)])⟩
def Yd (k:Nat):Bd:=⟨[0,0,0],[0,1,2],List.replicate k [],List.replicate k 0,[],[],[[0],[1],[2]]⟩
def Uc (n k:Nat):Bd:=⟨[0,0,0],[0,1,2],List.replicate n [],List.replicate n 0,List.replicate k (-1),List.replicate k (-1),[[0],[1],[2]]⟩
theorem bA (k:Nat):Ub (k+1)={ { { Ub k with AM:=(Ub k).AM++[0] } with AQ:=(Ub k).AQ++[(k:Int)] } with rws:=(Ub k).rws++[[(k:Int)]] }:=by
 unfold Ub;simp only[KBx,KBB,KBy,KCY,KCD]
theorem bB (k:Nat):Yd (k+1)={ { Yd k with AJ:=(Yd k).AJ++[[]] } with AK:=(Yd k).AK++[0] }:=by
 unfold Yd;simp only[KCD]
theorem bC (n k:Nat):Uc n (k+1)={ { Uc n k with sn:=(Uc n k).sn++[-1] } with fr:=(Uc n k).fr++[-1] }:=by
 unfold Uc;simp only[KCD]
theorem N0 (w:World)(x:Int):Rd (w.alloc (.cells #[.int .i64 x] 2)) (.slice (some ⟨w.heap.size,0,none⟩) 1 1) [x]:=
 ⟨_,1,rfl,.inr ⟨w.heap.size,0,rfl,by rw[AD];omega,fun i hi=>by
  obtain rfl:i=0:=by simpa using hi
  rw[KAL _ _ _ _ _ _ (KAX w _)];rfl⟩⟩
theorem Qy (w:World)(v:Value)(AA:List (List Dd))(h:Fw w v AA)(hb:AL AA=true)(hx:AA.length<=1048576)(hm:∀i,i<AA.length->(AA.getD i []).length<=1048576):
  Calls Tryz.prog 104 #[v] w fun e w'=>∃bv nv rv wv,e = .returned (BV.agg bv)/\GH w' w.heap.size bv nv rv wv AA (C5 AA)/\AC w w':=by
 have CW:=fun (W:World) (kW:AC w W)=>Cs W _ AA (h.keep kW) hx hm
 have CC:=fun (W:World) (kW:AC w W)=>IQ W _ AA (h.keep kW) hx hm
 have CE:=fun (W:World) (kW:AC w W)=>Dg W _ AA (h.keep kW) hx hm
 rw[hb] at CW;have u1:=(BM hb).1;obtain⟨aD,yG,rfl,-⟩:=id h;clear h hm hb;obtain⟨ng0,ngi,ngz0,ngz1,ngz2⟩:=KA3 Tryz.Ql;obtain⟨ig0,igi,igz0,igz1,igz2⟩:=KA3 Tryz.Qk;obtain⟨w1,hw1⟩:∃W:World,W=w.alloc (.cells #[AF,AF,AF,AF,AF,AF,AF,AF] 103):=⟨_,rfl⟩;have K1:AC w w1:=by rw[hw1];exact (AC.refl w).alloc _
 have s1:w1.heap.size=w.heap.size+1:=by rw[hw1,AD]
 have hR1:w1.heap[w.heap.size]? = some (.cells #[AF,AF,AF,AF,AF,AF,AF,AF] 103 (0,0)):=by rw[hw1];exact KAX _ _
 go_enter Tryz.func104,Tryz.ntmps104
 go_upto_region 1 with fail
 rw[<-hw1];clear hw1;go_wp2_with fail
 refine (CW _ K1).mono ?_;rintro e w2 ⟨rfl,k2⟩;go_wp2_with fail
 refine (DU _).mono ?_;rintro e w2 ⟨rfl,rfl⟩;have K2:=K1.trans k2;go_wp2_with fail
 refine (CC _ K2).mono ?_;rintro e w3 ⟨v3,V,rfl,X3,k3⟩;have s2:=k2.size;have s3:=k3.size;have LW3:=X3.mq;have O3:=(TA X3.yY.upto (KAM _) w1.heap.size).box (by omega);obtain⟨a3,c3,hv3,-⟩:=id X3.rdW;subst hv3;obtain⟨w4,hw4⟩:∃W:World,W=w3.alloc (.cells #[.slice a3 AA.length c3,AF,AF,AF,AF,AF,AF,AF] 103):=⟨_,rfl⟩;have k4:AC w3 w4:=by rw[hw4];exact (AC.refl w3).alloc _
 have s4:w4.heap.size=w3.heap.size+1:=by rw[hw4,AD]
 replace O3:AU w4 w1.heap.size w3.heap.size ⟨.slice a3 AA.length c3,AF,AF,AF,AF,AF,AF,AF⟩ [] [] w2.heap.size w3.heap.size AA ⟨[],[],[],[],[],[],[]⟩:=by rw[hw4];exact O3
 clear X3;go_upto_region 3 with fail
 rw[<-hw4];clear hw4;go_wp2_with fail
 refine (IK w4).mono ?_;rintro e w5 ⟨v5,rfl,A5,k5⟩;have s5:=k5.size;have N5:=NB.start (O3.keep k5);have LW5:=AI (LW3.keep (k4.trans k5));have hR5:=AI ((KAW ((k2.trans k3).trans (k4.trans k5)) w.heap.size (by omega)).trans hR1);have K5:=K2.trans (k3.trans (k4.trans k5));have hD:w1.heap.size<=w3.heap.size/\w3.heap.size<w4.heap.size:=by omega
 have hbs:w1.heap.size<=w2.heap.size:=s2;have hD5:w3.heap.size<w5.heap.size:=by omega
 obtain⟨ae,ce,hv5,-⟩:=id A5.rd;rw[show Ci.length=3 from rfl] at hv5;subst hv5;clear LW3 O3 CW CC hR1 k2 k3 k4 k5 K1 K2;have hmw:w.heap.size<w1.heap.size:=by omega
 clear s1 s4 s3 s2 s5;generalize w1.heap.size=m at *;generalize w2.heap.size=bs at *;generalize w3.heap.size=D at *;go_wp2;go_loopw [4,14] (fun _ i wr=>∃(k:Nat) (bv:BV) (rv:List Value),k<=3/\i = .int .i64 k/\Hid (bv.W = .slice a3 AA.length c3)/\NB w5 wr m D bv [] rv bs D AA (Ub k)) (fun _ i _=>3-(intOf i).toNat)
 case atStart=>exact⟨0,_,[],KAb _,rfl,AI rfl,N5⟩
 case round=>
  obtain⟨k,bv,rv,hk,rfl,hW,NR⟩:=hrel;by_cases hlt:k<3
  ·
   have A5r:GV wr w4.heap.size (.slice ae 3 (3+ce)) Ci:=KAs A5 NR.sm (Fm (fun q hq=>(KAY A5 q hq).1) hD.2);obtain⟨a',c',he',hE⟩:=A5r.rd;rw[show Ci.length=3 from rfl] at he';simp only[KAT,KA8] at he';obtain⟨rfl,hce⟩:=he';rcases hE with h0|⟨bq,oq,rfl,hbq,hcq⟩
   . exact absurd h0 (by simp[Ci])
   have hev:Ci[k]? = some ((-1:Int),(-1:Int),false,(k:Int),(0:Int),(k:Int)):=by
    have:k=0\/k=1\/k=2:=by omega
    rcases this with rfl|rfl|rfl<;>rfl
   obtain⟨q0,q1,q2,q3,q4,q5⟩:=qw (hcq k _ hev);have i1:(0:Int)<=(k:Int):=KAK _;have i2:(k:Int)<3:=by omega
   obtain⟨w6,hw6⟩:∃W:World,W=wr.alloc (eO (-1) (-1) false k 0 k):=⟨_,rfl⟩;have k6:AC wr w6:=by rw[hw6];exact (AC.refl wr).alloc _
   have f4:w6.cell? ⟨wr.heap.size,4,none⟩=some (.int .i64 0):=by rw[hw6,KAL _ _ 4 _ _ _ (KAX wr _)];rfl
   have N6:=NR.keep k6;clear hcq A5r NR hev hce k6;go_upto_region 6 with fail
   rw[<-hw6];clear hw6 q0 q1 q2 q3 q4 q5;have Aa:=N6.keep ((AC.refl w6).alloc (.cells #[.int .i64 (0:Int)] 2));obtain⟨wX,wY,wZ,wh,wm,wu,xA,xB⟩:=N6.ob.cells;go_wp2_with (at_builtin;refine BG rfl _ _ rfl m _ _ rfl Aa.ob.oP _ rfl [(0:Int)] (N0 w6 (0:Int)) (by unfold Ub;simp;omega) (by simp) (KB6 (KBv Aa.ob.base.1 Aa.ob.base.2)) ?_)
   intro ua xa Oa Ga Ba;obtain⟨la,fq⟩:∃l,Hid (l=(Ub k).AM++[(0:Int)]):=⟨_,AI rfl⟩;replace Oa:A8 xa m ua ((Ub k).AM++[(0:Int)]):=Oa;rw[<-fq.out] at Oa;obtain⟨Na,Ca,Fa⟩:=Aa.Zr Ga (by rw[AD];exact Ba) Oa;obtain⟨tK,uM,vD,-⟩:=id Oa.rd;subst vD;clear wX wY wZ wh wm wu xA xB Aa N6 Oa Ga Ba;go_upto_region 7 with fail
   generalize xa.setCell ⟨D,1,none⟩ (.slice tK la.length uM)=ya at *;clear Ca Fa;have Ab:=Na.keep ((AC.refl ya).alloc (.cells #[.int .i64 (k:Int)] 2));obtain⟨xC,xD,xE,xG,xH,xI,xJ,xK⟩:=Na.ob.cells;go_wp2_with (at_builtin;refine BG rfl _ _ rfl m _ _ rfl Ab.ob.oL _ rfl [(k:Int)] (N0 ya (k:Int)) (by unfold Ub;simp;omega) (by simp) (KB6 (KBv Ab.ob.base.1 Ab.ob.base.2)) ?_)
   intro ub xb Ob Gb Bb;obtain⟨lb,Yp⟩:∃l,Hid (l=(Ub k).AQ++[(k:Int)]):=⟨_,AI rfl⟩;replace Ob:A8 xb m ub ((Ub k).AQ++[(k:Int)]):=Ob;rw[<-Yp.out] at Ob;obtain⟨Nb,Cb,Fb⟩:=Ab.Zq Gb (by rw[AD];exact Bb) Ob;obtain⟨tL,uQ,hub,-⟩:=id Ob.rd;subst hub;clear xC xD xE xG xH xI xJ xK Ab Na Ob Gb Bb;go_upto_region 8 with fail
   generalize xb.setCell ⟨D,2,none⟩ (.slice tL lb.length uQ)=yb at *;clear Cb Fb;obtain⟨zc0,zc1,zc2,zc3,zc4,zc5,zc6,zc7⟩:=Nb.ob.cells;have kca:AC yb (yb.alloc (.cells #[.int .i64 (k:Int)] 2)):=(AC.refl yb).alloc _;have kcb:AC (yb.alloc (.cells #[.int .i64 (k:Int)] 2)) ((yb.alloc (.cells #[.int .i64 (k:Int)] 2)).alloc (.cells #[(Value.slice (some ⟨yb.heap.size,0,none⟩) 1 1)] 25)):=(AC.refl _).alloc _;have kc:=kca.trans kcb;have hmc:m<=yb.heap.size:=KB6 (KBv Nb.ob.base.1 Nb.ob.base.2);have oca:A8 (yb.alloc (.cells #[.int .i64 (k:Int)] 2)) m (.slice (some ⟨yb.heap.size,0,none⟩) 1 1) [(k:Int)]:=KAo yb #[.int .i64 (k:Int)] 1 hmc (by decide) rfl;have oc:=KAs oca kcb.grownBy (by cases (Value.ownBlock (Value.slice (some ⟨yb.heap.size,0,none⟩) 1 1))<;>simp);have Rc:World.ownsRow _ m 25 1 bv.R rv.length rv:=(Nb.keep kc).ob.Ag.own .rws trivial;have hnc:rv.length<=3:=by rw[(Nb.ob).lr];unfold Ub;simp;omega
   go_wp2_with (at_builtin;refine KAe _ rfl _ _ 36 rfl m 25 ig0 (.slice none 0 0) 1 24 Tryz.underlying36 igi igz0 igz1 igz2 rfl (by decide) _ _ _ rfl Rc ⟨_,0,none⟩ 1 1 [(Value.slice (some ⟨yb.heap.size,0,none⟩) 1 1)] rfl rfl (by intro j q hj;match j,hj with|0,hj=>(simp at hj;subst hj;simp[Addr.add])) (by intro q hq;simp at hq;subst hq;rfl) (by unfold maxLen;omega) (by omega) (by simp;omega) ?_)
   intro uc xc Pc Gc _ Bc;obtain⟨hc,HZc⟩:∃l,Hid (l=rv++[(Value.slice (some ⟨yb.heap.size,0,none⟩) 1 1)]):=⟨_,AI rfl⟩
   have Qc:(Em 25 (rv++[(Value.slice (some ⟨yb.heap.size,0,none⟩) 1 1)]) uc).own xc m:=by
    show xc.ownsRow m 25 1 uc (rv++[(Value.slice (some ⟨yb.heap.size,0,none⟩) 1 1)]).length (rv++[(Value.slice (some ⟨yb.heap.size,0,none⟩) 1 1)]);rw[KAJ];exact Pc
   obtain⟨Nc,Cc,Fc⟩:=Nb.LF (u:=(Value.slice (some ⟨yb.heap.size,0,none⟩) 1 1)) kc (fun q hq=>KBP (KAI hq)) oc Gc (by rw[AD,AD];exact Bc) Qc;rw[<-HZc.out] at Nc Qc;obtain⟨auc,cuc,huc,-⟩:=Bu Qc;subst huc;clear zc0 zc1 zc2 zc3 zc4 zc5 zc6 zc7 Nb Rc Pc Qc Gc Bc oc oca kc kca kcb hnc hmc;go_upto_region 9 with fail
   generalize xc.setCell ⟨D,7,none⟩ (.slice auc hc.length cuc)=yc at *;clear Cc Fc
   obtain⟨bz,hZ,NZ⟩:∃bz:BV,Hid (bz.W = .slice a3 AA.length c3)/\NB w5 yc m D bz [] hc bs D AA (Ub (k+1)):=by
    rw[bA,<-fq.out,<-Yp.out];refine⟨_,?_,Nc⟩;exact hW
   clear Nc fq Yp HZc;go_wp2;go_roundw;case rel=>exact⟨k+1,bz,hc,by omega,by go_num,hZ,NZ⟩
   case measure=>simp[intOf];omega
  obtain rfl:k=3:=by omega
  have N7:NB w5 wr m D bv [] rv bs D AA (Yd 0):=NR;clear NR A5 hlt hk;rw[show ((3:Nat):Int)=3 from rfl];go_wp2;obtain⟨wo,rfl⟩:∃wo:World,wo=wr:=⟨_,rfl⟩;go_loopw [42] (fun i wr=>∃(k:Nat) (bv:BV) (nv:List Value),k<=AA.length/\i = .int .i64 k/\Hid (bv.W = .slice a3 AA.length c3)/\NB w5 wr m D bv nv rv bs D AA (Yd k)) (fun i _=>AA.length-(intOf i).toNat)
  case atStart=>exact⟨0,bv,[],KAb _,rfl,hW,N7⟩
  case round=>
   clear N7 hW;obtain⟨k,bv,nv,hk,rfl,hW,NR⟩:=hrel;by_cases hlt:k<AA.length
   ·
    have i1:(0:Int)<=(k:Int):=KAK _;have i2:(k:Int)<(AA.length:Int):=by omega
    obtain⟨wX,wY,wZ,wh,wm,wu,xA,xB⟩:=NR.ob.cells;have kaa:AC wr (wr.alloc (.cells #[] 155)):=(AC.refl wr).alloc _;have kab:AC (wr.alloc (.cells #[] 155)) ((wr.alloc (.cells #[] 155)).alloc (.cells #[(Value.slice (some ⟨wr.heap.size,0,none⟩) 0 0)] 151)):=(AC.refl _).alloc _;have ka:=kaa.trans kab;have hma:m<=wr.heap.size:=KB6 (KBv NR.ob.base.1 NR.ob.base.2);have oaa:B5 cN 155 3 (wr.alloc (.cells #[] 155)) m (.slice (some ⟨wr.heap.size,0,none⟩) 0 0) []:=KAo wr #[] 0 hma (by decide) rfl;have oa:=KAs oaa kab.grownBy (by cases (Value.ownBlock (Value.slice (some ⟨wr.heap.size,0,none⟩) 0 0))<;>simp);have Ra:World.ownsRow _ m 151 1 bv.N nv.length nv:=(NR.keep ka).ob.Ag.own .AJ trivial;have hna:nv.length<=3:=by rw[(NR.ob).ln];unfold Yd;simp;omega
    go_wp2_with (at_builtin;refine KAe _ rfl _ _ 101 rfl m 151 ng0 (.slice none 0 0) 1 24 Tryz.underlying101 ngi ngz0 ngz1 ngz2 rfl (by decide) _ _ _ rfl Ra ⟨_,0,none⟩ 1 1 [(Value.slice (some ⟨wr.heap.size,0,none⟩) 0 0)] rfl rfl (by intro j q hj;match j,hj with|0,hj=>(simp at hj;subst hj;simp[Addr.add])) (by intro q hq;simp at hq;subst hq;rfl) (by unfold maxLen;omega) (by omega) (by simp;omega) ?_)
    intro ua xa Pa Ga _ Ba;obtain⟨ha,fq⟩:∃l,Hid (l=nv++[(Value.slice (some ⟨wr.heap.size,0,none⟩) 0 0)]):=⟨_,AI rfl⟩
    have Qa:(Em 151 (nv++[(Value.slice (some ⟨wr.heap.size,0,none⟩) 0 0)]) ua).own xa m:=by
     show xa.ownsRow m 151 1 ua (nv++[(Value.slice (some ⟨wr.heap.size,0,none⟩) 0 0)]).length (nv++[(Value.slice (some ⟨wr.heap.size,0,none⟩) 0 0)]);rw[KAJ];exact Pa
    obtain⟨Na,Ca,Fa⟩:=NR.TC (u:=(Value.slice (some ⟨wr.heap.size,0,none⟩) 0 0)) ka (fun q hq=>KBP (KAI hq)) oa Ga (by rw[AD,AD];exact Ba) Qa;rw[<-fq.out] at Na Qa;obtain⟨tK,uM,vD,-⟩:=Bu Qa;subst vD;clear wX wY wZ wh wm wu xA xB NR Ra Pa Qa Ga Ba oa oaa ka kaa kab hna hma;go_upto_region 13 with fail
    generalize xa.setCell ⟨D,3,none⟩ (.slice tK ha.length uM)=ya at *;clear Ca Fa;have Ab:=Na.keep ((AC.refl ya).alloc (.cells #[.int .i64 (0:Int)] 2));obtain⟨xC,xD,xE,xG,xH,xI,xJ,xK⟩:=Na.ob.cells;go_wp2_with (at_builtin;refine BG rfl _ _ rfl m _ _ rfl Ab.ob.oX _ rfl [(0:Int)] (N0 ya (0:Int)) (by unfold Yd;simp;omega) (by simp) (KB6 (KBv Ab.ob.base.1 Ab.ob.base.2)) ?_)
    intro ub xb Ob Gb Bb;obtain⟨lb,Yp⟩:∃l,Hid (l=(Yd k).AK++[(0:Int)]):=⟨_,AI rfl⟩;replace Ob:A8 xb m ub ((Yd k).AK++[(0:Int)]):=Ob;rw[<-Yp.out] at Ob;obtain⟨Nb,Cb,Fb⟩:=Ab.Zs Gb (by rw[AD];exact Bb) Ob;obtain⟨tL,uQ,hub,-⟩:=id Ob.rd;subst hub;clear xC xD xE xG xH xI xJ xK Ab Na Ob Gb Bb;go_upto_region 14 with fail
    generalize xb.setCell ⟨D,4,none⟩ (.slice tL lb.length uQ)=yb at *;clear Cb Fb
    obtain⟨bz,hZ,NZ⟩:∃bz:BV,Hid (bz.W = .slice a3 AA.length c3)/\NB w5 yb m D bz ha rv bs D AA (Yd (k+1)):=by
     rw[bB,<-Yp.out];refine⟨_,?_,Nb⟩;exact hW
    clear Nb fq Yp;go_wp2;go_roundw;case rel=>exact⟨k+1,bz,ha,by omega,by go_num,hZ,NZ⟩
    case measure=>simp[intOf];omega
   have N8:NB w5 wr m D bv nv rv bs D AA (Uc AA.length 0):=by
    rw[show k=AA.length by omega] at NR;exact NR
   have K8:AC w wr:=K5.grown NR.sm (fun q hq=>by have:=KAI hq;omega);obtain rfl:k=AA.length:=by omega
   clear NR hlt hk;go_wp2_with fail
   refine (CE _ K8).mono ?_;rintro e w9 ⟨v9,rfl,A9,k9⟩;have N9:=N8.keep k9;have CR:=Dq w9 _ _ A9.rd (by have:=BO AA;omega);obtain⟨a9,c9,hv9,-⟩:=id A9.rd;subst hv9;clear A9 N8;go_wp2_with fail
   refine CR.mono ?_;rintro e w10 ⟨v10,rfl,O10,k10⟩;have N10:=N9.keep k10;have HN:Hid (C5 AA=Uc AA.length (AW Af (AB AA)).length):=AI rfl;have ln:=Ew Af (AB AA);obtain⟨a10,c10,hv10,-⟩:=id O10.rd;subst hv10;clear O10 N9 CR CE;generalize (AW Af (AB AA)).length=R at *;go_wp2;go_loopw [60] (fun i wr=>∃(k:Nat) (bv:BV),k<=R/\i = .int .i64 k/\Hid (bv.W = .slice a3 AA.length c3)/\NB w5 wr m D bv nv rv bs D AA (Uc AA.length k)) (fun i _=>R-(intOf i).toNat)
   case atStart=>exact⟨0,bv,KAb _,rfl,hW,N10⟩
   case round=>
    clear N10 hW;obtain⟨k,bv,hk,rfl,hW,NR⟩:=hrel;by_cases hlt:k<R
    ·
     have i1:(0:Int)<=(k:Int):=KAK _;have i2:(k:Int)<(R:Int):=by omega
     have Aa:=NR.keep ((AC.refl wr).alloc (.cells #[.int .i64 (-1:Int)] 2));obtain⟨wX,wY,wZ,wh,wm,wu,xA,xB⟩:=NR.ob.cells;go_wp2_with (at_builtin;refine BG rfl _ _ rfl m _ _ rfl Aa.ob.oS _ rfl [(-1:Int)] (N0 wr (-1:Int)) (by unfold Uc;simp;omega) (by simp) (KB6 (KBv Aa.ob.base.1 Aa.ob.base.2)) ?_)
     intro ua xa Oa Ga Ba;obtain⟨la,fq⟩:∃l,Hid (l=(Uc AA.length k).sn++[(-1:Int)]):=⟨_,AI rfl⟩;replace Oa:A8 xa m ua ((Uc AA.length k).sn++[(-1:Int)]):=Oa;rw[<-fq.out] at Oa;obtain⟨Na,Ca,Fa⟩:=Aa.VY Ga (by rw[AD];exact Ba) Oa;obtain⟨tK,uM,vD,-⟩:=id Oa.rd;subst vD;clear wX wY wZ wh wm wu xA xB Aa NR Oa Ga Ba;go_upto_region 18 with fail
     generalize xa.setCell ⟨D,5,none⟩ (.slice tK la.length uM)=ya at *;clear Ca Fa;have Ab:=Na.keep ((AC.refl ya).alloc (.cells #[.int .i64 (-1:Int)] 2));obtain⟨xC,xD,xE,xG,xH,xI,xJ,xK⟩:=Na.ob.cells;go_wp2_with (at_builtin;refine BG rfl _ _ rfl m _ _ rfl Ab.ob.oF _ rfl [(-1:Int)] (N0 ya (-1:Int)) (by unfold Uc;simp;omega) (by simp) (KB6 (KBv Ab.ob.base.1 Ab.ob.base.2)) ?_)
     intro ub xb Ob Gb Bb;obtain⟨lb,Yp⟩:∃l,Hid (l=(Uc AA.length k).fr++[(-1:Int)]):=⟨_,AI rfl⟩;replace Ob:A8 xb m ub ((Uc AA.length k).fr++[(-1:Int)]):=Ob;rw[<-Yp.out] at Ob;obtain⟨Nb,Cb,Fb⟩:=Ab.VX Gb (by rw[AD];exact Bb) Ob;obtain⟨tL,uQ,hub,-⟩:=id Ob.rd;subst hub;clear xC xD xE xG xH xI xJ xK Ab Na Ob Gb Bb;go_upto_region 19 with fail
     generalize xb.setCell ⟨D,6,none⟩ (.slice tL lb.length uQ)=yb at *;clear Cb Fb
     obtain⟨bz,hZ,NZ⟩:∃bz:BV,Hid (bz.W = .slice a3 AA.length c3)/\NB w5 yb m D bz nv rv bs D AA (Uc AA.length (k+1)):=by
      rw[bC,<-fq.out,<-Yp.out];refine⟨_,?_,Nb⟩;exact hW
     clear Nb fq Yp;go_wp2;go_roundw;case rel=>exact⟨k+1,bz,by omega,by go_num,hZ,NZ⟩
     case measure=>simp[intOf];omega
    obtain rfl:k=R:=by omega
    have KZ:AC w wr:=K5.grown NR.sm (fun q hq=>by have:=KAI hq;omega);have LZ:=LW5.out.kept NR.sm NR.ob.nD;rw[<-hW.out] at LZ;have OA:=NR.ob.all LZ hbs;have mH:=(NR.sm.block w.heap.size (by have:=K5.size;omega) (fun e=>by have:=KAI e;omega)).trans hR5.out;have JU:=NR.ob.MA;rw[<-HN.out] at OA;clear NR LZ;obtain⟨nb,hnb⟩:∃nb,nb=C5 AA:=⟨_,rfl⟩;rw[<-hnb] at OA;have qh:=AI hnb;clear hnb;obtain⟨vW,vP,vL,vN,vX,vS,vF,vR⟩:=bv;obtain⟨bW,bP,bL,bN,bX,bS,bF,bR,dW,dP,dL,dN,dX,dS,dF,dR,hsh⟩:=OA.rd.shapes;injection hsh with e1 e2 e3 e4 e5 e6 e7 e8;subst e1 e2 e3 e4 e5 e6 e7 e8;have HG:=AI (As wr w.heap.size #[.slice bW AA.length dW,.slice bP nb.AM.length dP,.slice bL nb.AQ.length dL,.slice bN nb.AJ.length dN,.slice bX nb.AK.length dX,.slice bS nb.sn.length dS,.slice bF nb.fr.length dF,.slice bR nb.rws.length dR]);have HZ:=AI (KBs wr w.heap.size _ #[.slice bW AA.length dW,.slice bP nb.AM.length dP,.slice bL nb.AQ.length dL,.slice bN nb.AJ.length dN,.slice bX nb.AK.length dX,.slice bS nb.sn.length dS,.slice bF nb.fr.length dF,.slice bR nb.rws.length dR] _ _ mH);have HO:=AI (OA.far HG.out hmw);have HK:=AI (KZ.grown HG.out (fun q hq=>KBP (KAI hq)));simp only[BV.arr] at JU;clear OA KZ hD hD5 hbs LW5 hW hlt hk;go_wp2_with (first|refine KAq rfl 103 _ rfl D rfl 103 _ (0,0) _ JU Tryz.underlying103 rfl AR ?_|refine KBY rfl 103 _ _ rfl w.heap.size _ rfl rfl 103 _ mH AR rfl (by simp[Value.oneCell']) ?_|fail)
    refine KA7 (Aw (by rfl) _ _ w.heap.size _ _ (0,0) _ rfl HZ.out Tryz.underlying103 rfl AR) rfl ?_;exact⟨⟨.slice bW AA.length dW,.slice bP nb.AM.length dP,.slice bL nb.AQ.length dL,.slice bN nb.AJ.length dN,.slice bX nb.AK.length dX,.slice bS nb.sn.length dS,.slice bF nb.fr.length dF,.slice bR nb.rws.length dR⟩,nv,rv,_,rfl,by rw[<-qh.out];exact⟨HO.out.Ag.Ry (KB6 hmw),HO.out.ln,HO.out.lr,HO.out.lw⟩,HK.out⟩
theorem St (w:World)(v:Value)(AA:List (List Dd))(h:Fw w v AA)(hb:AL AA=false)(hx:AA.length<=1048576)(hm:∀i,i<AA.length->(AA.getD i []).length<=1048576):
  Calls Tryz.prog 104 #[v] w fun e w'=>e=PN/\AC w w':=by
 have CW:=fun (W:World) (kW:AC w W)=>Cs W _ AA (h.keep kW) hx hm
 rw[hb] at CW;obtain⟨aD,yG,rfl,-⟩:=id h;clear h hm hb;go_enter Tryz.func104,Tryz.ntmps104
 go_wp2_with fail
 refine (CW _ ((AC.refl w).alloc _)).mono ?_;rintro e w2 ⟨rfl,k2⟩;go_wp2_with fail
 refine (Hd _).mono ?_;rintro e w3 ⟨rfl,rfl⟩;go_wp2;exact⟨rfl,rfl,((AC.refl w).alloc _).trans k2⟩
theorem bM (p0 p1:Addr)(w:World):CallsD Tryz.prog 103 #[.pointer (some p0),.pointer (some p1)] .returning w fun e u' w'=>e = .returned (.tuple #[])/\u' = .returning/\w'=w:=by
 refine KCb Tryz.func103 rfl fun c₀ cs hu=>?_
 apply wpS_seq;apply KC1;have hn:∀w:World,(binOp BinOp.neq 20 .nilIface .nilIface).run Tryz.prog w = .ok (.bool false) w:=fun _=>by kernel_rfl
 simp[wpOpsS,go_sem,recoverD,hu,Tryz.ntmps103,Exit.thenS,hn];refine KDP (t:=false) (by simp[Act.eval,Array.replicate]) ?_;simp only[KBO,KCU];refine KDG (wp_skip ?_);cases c₀;simp_all [bodyPostS,results,Tryz.results103]
theorem jh (g g':Nat)(hne:g'≠g)(w:World)(old:Array Value)(ho:old.size=8)(x':Value)(hg:w.heap[g]? = some (.cells old 103 (0,0)))(hg':w.heap[g']? = some (.cells #[x'] 4 (0,0))):
  CallsD Tryz.prog 103 #[.pointer (some ⟨g,0,none⟩),.pointer (some ⟨g',0,none⟩)] (.panicking [{ v:=X0,recovered:=false }]) w fun e u' w'=>e = .returned (.tuple #[])/\u' = .panicking [{ v:=X0,recovered:=true }]/\w'=(w.setRow g #[AF,AF,AF,AF,AF,AF,AF,AF]).setCell ⟨g',0,none⟩ (.bool false):=by
 have hg2:(w.setRow g #[AF,AF,AF,AF,AF,AF,AF,AF]).heap[g']? = some (.cells #[x'] 4 (0,0)):=((As w g #[AF,AF,AF,AF,AF,AF,AF,AF]).block g' (KAm.1 hg').1 (fun e=>hne (KAI e))).trans hg';have hc2:(w.setRow g #[AF,AF,AF,AF,AF,AF,AF,AF]).cell? ⟨g',0,none⟩=some x':=by rw[KAL _ g' 0 _ _ _ hg2];rfl
 have hf2:(w.setRow g #[AF,AF,AF,AF,AF,AF,AF,AF]).frozen? ⟨g',0,none⟩=false:=KA1 _ g' 0 _ _ hg2;have hv:∀w:World,(binOp BinOp.neq 20 X0 .nilIface).run Tryz.prog w = .ok (.bool true) w:=fun _=>by kernel_rfl
 refine KCb Tryz.func103 rfl fun c₀ cs hu=>?_
 apply wpS_seq;apply KC1;simp[wpOpsS,go_sem,recoverD,hu,Tryz.ntmps103,Exit.thenS,hv];refine KDP (t:=true) (by simp[Act.eval,Array.replicate]) ?_;simp only[KCT];refine KDG ?_;go_wp2_with (first|refine KBY rfl 103 _ _ rfl g _ rfl rfl 103 _ hg AR ho (by simp[Value.oneCell']) ?_|fail)
 cases c₀;simp_all [bodyPostS,results,Tryz.results103]
theorem Hk {P:Program}{fn:Func}{p q:Tmp}{ty ty':TypeId}(h:fn.results=#[.cell p ty,.cell q ty'])(tmps:Array Value)(w:World)(g g':Nat)(t:TypeId)(cs:Array Value)(fr:Nat×Nat)(d:TypeDesc){x:Value}
  (hp:tmps.getD p undef = .pointer (some ⟨g,0,none⟩)) (hg:w.heap[g]? = some (.cells cs t fr)) (hq:tmps.getD q undef = .pointer (some ⟨g',0,none⟩)) (hc:w.cell? ⟨g',0,none⟩=some x)
  (hu:P.underlying ty=some d) (hd:(match d with | .struct _ | .array _ _=>true|_=>false)=true) (hi:(P.info? ty).map (·.size)=some cs.size) (hagg:(isAgg ty').run P w = .ok false w):
  (results fn tmps).run P w = .ok (.tuple #[.agg cs,x]) w:=by
 have hp':tmps[p]?.getD undef = .pointer (some ⟨g,0,none⟩):=by simpa using hp
 have hq':tmps[q]?.getD undef = .pointer (some ⟨g',0,none⟩):=by simpa using hq
 have hl:(loadVar ty' ⟨g',0,none⟩).run P w = .ok x w:=by
  simp[Sem.run_bind,Result.andThen,loadVar,load,hagg];simp[Sem.run,hc]
 simp[results,h,hp',hq',asAddr,run_loadVar_row w g t ty cs fr d hg hu hd hi,hl]
theorem P6 (w:World)(m:Nat):GH w m Rz [] [] [] [] OW:=by
 have hv:∀i,FO [] [] [] i->(JT Rz [] [] [] [] OW i).v.ownBlock=none:=fun i hi=>by
  cases i with
  |wk=>rfl
  |wd c=>exact absurd (show c<0 from hi) (by omega)
  |b i=>
   cases i with
   |bd=>exact absurd rfl hi.2
   |nt c=>exact absurd (show c<0 from hi.1) (by omega)
   |rw c=>exact absurd (show c<0 from hi.1) (by omega)
   |_=>rfl
 refine⟨⟨fun i hi=>?_,fun i j hi _ _ => .inl (hv i hi)⟩,rfl,rfl,rfl⟩
 cases i with
 |wk=>exact⟨rfl,.inl ⟨rfl,rfl⟩⟩
 |wd c=>exact absurd (show c<0 from hi) (by omega)
 |b i=>
  cases i with
  |bd=>exact absurd rfl hi.2
  |nt c=>exact absurd (show c<0 from hi.1) (by omega)
  |rw c=>exact absurd (show c<0 from hi.1) (by omega)
  |_=>exact⟨rfl,.inl ⟨rfl,rfl⟩⟩
theorem Lg (w:World)(v:Value)(AA:List (List Dd))(h:Fw w v AA)(hx:AA.length<=1048576)(hm:∀i,i<AA.length->(AA.getD i []).length<=1048576):
  Calls Tryz.prog 76 #[v] w fun e w'=>∃bv:BV,e = .returned (.tuple #[bv.agg,.bool (AL AA)])/\Dh w' w.heap.size w'.heap.size bv (MZ AA) (Ox AA)/\AC w w':=by
 have CN:=fun (W:World) (kW:AC w W) (e:AL AA=false)=>St W _ AA (h.keep kW) e hx hm
 have CY:=fun (W:World) (kW:AC w W) (e:AL AA=true)=>Qy W _ AA (h.keep kW) e hx hm
 have HD:Hid (MZ AA=if AL AA=true then AA else []):=AI rfl;have HB:Hid (Ox AA=if AL AA=true then C5 AA else OW):=AI rfl;obtain⟨aD,yG,rfl,-⟩:=id h;clear h hm;have hmf:∀(fn:Fn) (first cap:Array Value) (w:World),(Instr.makeFunc fn first cap).run Tryz.prog w = .ok (.func fn first cap) w:=fun _ _ _ _=>rfl
 obtain⟨w1,hw1⟩:∃W:World,W=((w.alloc (.cells #[AF,AF,AF,AF,AF,AF,AF,AF] 103)).alloc (.cells #[.bool false] 4)):=⟨_,rfl⟩;have K1:AC w w1:=by rw[hw1];exact ((AC.refl w).alloc _).alloc _
 have s1:w1.heap.size=w.heap.size+2:=by rw[hw1,AD,AD]
 have hV1:w1.heap[w.heap.size+1]? = some (.cells #[.bool false] 4 (0,0)):=by
  rw[hw1,Bs,KAP (by rw[AD])]
 have hR1:w1.heap[w.heap.size]? = some (.cells #[AF,AF,AF,AF,AF,AF,AF,AF] 103 (0,0)):=by rw[hw1];exact (KAW ((AC.refl _).alloc _) _ (by rw[AD];omega)).trans (KAX _ _)
 go_enter_defers Tryz.func76,Tryz.ntmps76
 go_upto_region 2 with fail
 rw[<-hw1];clear hw1;cases hb:AL AA
 ·
  have C:=CN _ K1 hb;have yu:Hid (MZ AA=[]):=AI (by rw[HD.out,hb];rfl);have xQ:Hid (Ox AA=OW):=AI (by rw[HB.out,hb];rfl);clear CN CY HD HB;go_wp2_with fail
  refine C.mono ?_;rintro e w2 ⟨rfl,k2⟩;have K2:=K1.trans k2;have z2:=k2.size;have hR2:=(KAW k2 w.heap.size (by omega)).trans hR1;have hV2:=(KAW k2 (w.heap.size+1) (by omega)).trans hV1;have g3:=As w2 w.heap.size #[AF,AF,AF,AF,AF,AF,AF,AF];have h3:=KBs w2 w.heap.size _ #[AF,AF,AF,AF,AF,AF,AF,AF] _ _ hR2;have v3:=(g3.block (w.heap.size+1) (by omega) (fun e=>by have:=KAI e;omega)).trans hV2;have v4:=KAt _ (w.heap.size+1) 0 _ _ (.bool false) v3;have h4:=(KBM (w2.setRow w.heap.size #[AF,AF,AF,AF,AF,AF,AF,AF]) ⟨w.heap.size+1,0,none⟩ w.heap.size (.bool false) (by show w.heap.size≠w.heap.size+1;omega)).trans h3;have g4:=Ad (w2.setRow w.heap.size #[AF,AF,AF,AF,AF,AF,AF,AF]) (w.heap.size+1) 0 (.bool false);have HR3:=AI h4;have HC3:Hid (((w2.setRow w.heap.size #[AF,AF,AF,AF,AF,AF,AF,AF]).setCell ⟨w.heap.size+1,0,none⟩ (.bool false)).cell? ⟨w.heap.size+1,0,none⟩=some (.bool false)):=AI (by rw[KAL _ _ 0 _ _ _ v4];rfl);have KZ:=AI ((K2.grown g3 (fun k hk=>by have:=KAI hk;omega)).grown g4 (fun k hk=>by have:=KAI hk;omega));have c3:(w2.setRow w.heap.size #[AF,AF,AF,AF,AF,AF,AF,AF]).cell? ⟨w.heap.size+1,0,none⟩=some (.bool false):=by rw[KAL _ _ 0 _ _ _ v3];rfl
  have f3:=KA1 (w2.setRow w.heap.size #[AF,AF,AF,AF,AF,AF,AF,AF]) (w.heap.size+1) 0 _ _ v3;clear g3 h3 v3 v4 h4 g4 c3 f3 hR1 hV1;go_wp2;refine KCr (f:=103) (args:=#[.pointer (some ⟨w.heap.size,0,none⟩),.pointer (some ⟨w.heap.size+1,0,none⟩)]) (by simp) (by simp[go_sem]) ?_;refine (jh _ _ (by omega) _ _ rfl _ hR2 hV2).mono ?_;rintro e u' w9 ⟨rfl,rfl,rfl⟩;have hres:=fun (tmps:Array Value) (h0:tmps.getD 2 undef = .pointer (some ⟨w.heap.size,0,none⟩)) (h1:tmps.getD 3 undef = .pointer (some ⟨w.heap.size+1,0,none⟩))=>Hk (P:=Tryz.prog) (fn:=Tryz.f76) (by rfl) tmps _ w.heap.size (w.heap.size+1) 103 _ (0,0) _ h0 HR3.out h1 HC3.out Tryz.underlying103 rfl AR (by kernel_rfl)
  show ∃v,(results _ _).run Tryz.prog _ = .ok v _/\_;refine⟨_,hres _ rfl rfl,?_⟩;exact⟨Rz,by rw[hb],by rw[yu.out,xQ.out];exact (P6 _ _).free,KZ.out⟩
 ·
  have C:=CY _ K1 hb;have yu:Hid (MZ AA=AA):=AI (by rw[HD.out,hb];rfl);have xQ:Hid (Ox AA=C5 AA):=AI (by rw[HB.out,hb];rfl);clear CN CY HD HB;go_wp2_with fail
  refine C.mono ?_;rintro e w2 ⟨bv,nv,rv,wv,rfl,OA,k2⟩;have K2:=K1.trans k2;have z2:=k2.size;have hR2:=(KAW k2 w.heap.size (by omega)).trans hR1;have hV2:=(KAW k2 (w.heap.size+1) (by omega)).trans hV1;obtain⟨nb,hnb⟩:∃nb,nb=C5 AA:=⟨_,rfl⟩;rw[<-hnb] at OA xQ;clear hnb C;obtain⟨vW,vP,vL,vN,vX,vS,vF,vR⟩:=bv;obtain⟨bW,bP,bL,bN,bX,bS,bF,bR,dW,dP,dL,dN,dX,dS,dF,dR,hsh⟩:=OA.rd.shapes;injection hsh with e1 e2 e3 e4 e5 e6 e7 e8;subst e1 e2 e3 e4 e5 e6 e7 e8;have g3:=As w2 w.heap.size #[.slice bW AA.length dW,.slice bP nb.AM.length dP,.slice bL nb.AQ.length dL,.slice bN nb.AJ.length dN,.slice bX nb.AK.length dX,.slice bS nb.sn.length dS,.slice bF nb.fr.length dF,.slice bR nb.rws.length dR];have h3:=KBs w2 w.heap.size _ #[.slice bW AA.length dW,.slice bP nb.AM.length dP,.slice bL nb.AQ.length dL,.slice bN nb.AJ.length dN,.slice bX nb.AK.length dX,.slice bS nb.sn.length dS,.slice bF nb.fr.length dF,.slice bR nb.rws.length dR] _ _ hR2;have v3:=(g3.block (w.heap.size+1) (by omega) (fun e=>by have:=KAI e;omega)).trans hV2;have v4:=KAt _ (w.heap.size+1) 0 _ _ (.bool true) v3;have h4:=(KBM (w2.setRow w.heap.size #[.slice bW AA.length dW,.slice bP nb.AM.length dP,.slice bL nb.AQ.length dL,.slice bN nb.AJ.length dN,.slice bX nb.AK.length dX,.slice bS nb.sn.length dS,.slice bF nb.fr.length dF,.slice bR nb.rws.length dR]) ⟨w.heap.size+1,0,none⟩ w.heap.size (.bool true) (by show w.heap.size≠w.heap.size+1;omega)).trans h3;have g4:=Ad (w2.setRow w.heap.size #[.slice bW AA.length dW,.slice bP nb.AM.length dP,.slice bL nb.AQ.length dL,.slice bN nb.AJ.length dN,.slice bX nb.AK.length dX,.slice bS nb.sn.length dS,.slice bF nb.fr.length dF,.slice bR nb.rws.length dR]) (w.heap.size+1) 0 (.bool true);have HR3:=AI h4;have HC3:Hid (((w2.setRow w.heap.size #[.slice bW AA.length dW,.slice bP nb.AM.length dP,.slice bL nb.AQ.length dL,.slice bN nb.AJ.length dN,.slice bX nb.AK.length dX,.slice bS nb.sn.length dS,.slice bF nb.fr.length dF,.slice bR nb.rws.length dR]).setCell ⟨w.heap.size+1,0,none⟩ (.bool true)).cell? ⟨w.heap.size+1,0,none⟩=some (.bool true)):=AI (by rw[KAL _ _ 0 _ _ _ v4];rfl);have KZ:=AI ((K2.grown g3 (fun k hk=>by have:=KAI hk;omega)).grown g4 (fun k hk=>by have:=KAI hk;omega));have c3:(w2.setRow w.heap.size #[.slice bW AA.length dW,.slice bP nb.AM.length dP,.slice bL nb.AQ.length dL,.slice bN nb.AJ.length dN,.slice bX nb.AK.length dX,.slice bS nb.sn.length dS,.slice bF nb.fr.length dF,.slice bR nb.rws.length dR]).cell? ⟨w.heap.size+1,0,none⟩=some (.bool false):=by rw[KAL _ _ 0 _ _ _ v3];rfl
  have f3:=KA1 (w2.setRow w.heap.size #[.slice bW AA.length dW,.slice bP nb.AM.length dP,.slice bL nb.AQ.length dL,.slice bN nb.AJ.length dN,.slice bX nb.AK.length dX,.slice bS nb.sn.length dS,.slice bF nb.fr.length dF,.slice bR nb.rws.length dR]) (w.heap.size+1) 0 _ _ v3;have O4:=AI ((OA.far g3 (by omega)).far g4 (by omega));clear g3 h3 v3 v4 h4 g4 hR1 hV1 OA;go_wp2_with (first|refine KBY rfl 103 _ _ rfl w.heap.size _ rfl rfl 103 _ hR2 AR rfl (by simp[Value.oneCell']) ?_|fail)
  refine KCr (f:=103) (args:=#[.pointer (some ⟨w.heap.size,0,none⟩),.pointer (some ⟨w.heap.size+1,0,none⟩)]) (by simp) (by simp[go_sem]) ?_;refine (bM _ _ _).mono ?_;rintro e u' w9 ⟨rfl,rfl,rfl⟩;have hres:=fun (tmps:Array Value) (h0:tmps.getD 2 undef = .pointer (some ⟨w.heap.size,0,none⟩)) (h1:tmps.getD 3 undef = .pointer (some ⟨w.heap.size+1,0,none⟩))=>Hk (P:=Tryz.prog) (fn:=Tryz.f76) (by rfl) tmps _ w.heap.size (w.heap.size+1) 103 _ (0,0) _ h0 HR3.out h1 HC3.out Tryz.underlying103 rfl AR (by kernel_rfl)
  show ∃v,(results _ _).run Tryz.prog _ = .ok v _/\_;refine⟨_,hres _ rfl rfl,?_⟩;exact⟨⟨_,_,_,_,_,_,_,_⟩,by rw[hb],by rw[yu.out,xQ.out];exact GH.free ⟨O4.out.Ag.Ry (by omega),O4.out.ln,O4.out.lr,O4.out.lw⟩,KZ.out⟩
end Go.Proofs.YtflehmepjhikcaaGreatDoor
