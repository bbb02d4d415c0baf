/- Gathered texts. -/
import Derived.Test.YtnmelakgmgenjaaGreatMT
import Derived.BigQuiet
import Derived.Deep.Cut
import Derived.RegionTactic
import Derived.Test.YtnmelakgmgenjaaGreatMR
import Derived.Maps.AppendAt
import Derived.Defers
import Derived.Recover
import Derived.Lib.Hide
import Derived.Laws.Rows
set_option maxRecDepth 100000
set_option maxHeartbeats 8000000
namespace Go.Proofs.YtnmelakgmgenjaaGreat
open Go.ChangeShapes Go.WideShapes Go.ChangeAt Go.RowKit
theorem gN (w:World)(m:Nat)(v:BV)(nv rv:List Value)(bs N:Nat)(AA:List (List Dd))(b:Bd)(n c:Nat)(h:A7 w m v nv rv bs N AA b)(S:Dc AA b n)(hn:n<=900)(hm:m<=w.heap.size)(hc:c<AA.length)(h0:0<=b.AK.getD c 0)(hk:Ap b c<(AA.getD c []).length)(h3:(Ak AA c (Ap b c)).1=3->b.AG.getD c []=[]):
  Calls Tryz.prog 133 #[v.agg,.int .i64 c] w fun e w'=>e = .returned (.tuple #[])/\∃nv' rv',A7 w' m v nv' rv' bs N AA (Al AA (AB AA) b (c:Int))/\Aj w w' (De v nv rv) (De v nv' rv'):=by
 have hd3:AA.length<=3:=(Ay S.work).1;have WK0:=Lib.hid (WK.start S hn hc h0 hk (by omega));obtain⟨T,hT⟩:∃T,T=Al AA (AB AA) b (c:Int):=⟨_,rfl⟩;obtain⟨g,hg⟩:∃g,g=BS AA c (Ap b c):=⟨_,rfl⟩;rw[<-hT,<-hg] at WK0;have h5:=Db S.work hc;have zm:=Lib.hid (B8 S.work hc);have lX:c<b.AK.length:=by rw[S.AK];exact hc
 have XS:=Lib.hid S;obtain⟨aW,aP,aL,aN,aX,aS,aF,aR,cW,cP,cL,cQ,cX,cS,cF,cR,rfl⟩:=h.rd0.shapes;have O1:=h.box hm;obtain⟨gx,cx,ex,-⟩:=O1.oX.lit lX;simp only[Value.slice.injEq] at ex;obtain⟨rfl,-,rfl⟩:=ex;obtain⟨a',c',ew,hW⟩:=O1.rd.W;simp only[Value.slice.injEq] at ew;obtain⟨rfl,-,rfl⟩:=ew;rcases hW with q|⟨bw,ow,rfl,hbw,hcw⟩
 . exfalso;rw[q] at hc;simp at hc
 obtain⟨vd,dw,rd⟩:=hcw c hc;obtain⟨ds,hds⟩:∃ds,ds=AA.getD c []:=⟨_,rfl⟩;rw[<-hds] at rd h5;obtain⟨ad,cd,rfl,-⟩:=id rd;have CN:=JW w;obtain⟨w1,hw1⟩:∃W:World,W=w.alloc (.cells #[.slice (some ⟨bw,ow,none⟩) AA.length cW,.slice aP b.AM.length cP,.slice aL b.AQ.length cL,.slice aN b.AG.length cQ,.slice (some ⟨gx,0,none⟩) b.AK.length cX,.slice aS b.sn.length cS,.slice aF b.fr.length cF,.slice aR b.rws.length cR] 36):=⟨_,rfl⟩;have zG:w1.heap.size=w.heap.size+1:=by rw[hw1,AD]
 have K01:AC w w1:=by rw[hw1];exact (AC.refl w).alloc _
 replace O1:AU w1 m w.heap.size ⟨.slice (some ⟨bw,ow,none⟩) AA.length cW,.slice aP b.AM.length cP,.slice aL b.AQ.length cL,.slice aN b.AG.length cQ,.slice (some ⟨gx,0,none⟩) b.AK.length cX,.slice aS b.sn.length cS,.slice aF b.fr.length cF,.slice aR b.rws.length cR⟩ nv rv bs N AA b:=by rw[hw1];exact O1
 replace dw:w1.cell? ⟨bw,ow+c,none⟩=some (.slice ad ds.length (ds.length+cd)):=by rw[hw1];exact dw
 have XO:=Lib.hid O1
 have XL:Hid (∀(W:World) (F':Nat->Prop),Aj w1 W (De ⟨.slice (some ⟨bw,ow,none⟩) AA.length cW,.slice aP b.AM.length cP,.slice aL b.AQ.length cL,.slice aN b.AG.length cQ,.slice (some ⟨gx,0,none⟩) b.AK.length cX,.slice aS b.sn.length cS,.slice aF b.fr.length cF,.slice aR b.rws.length cR⟩ nv rv) F'->JO W (.slice ad ds.length (ds.length+cd)) ds):=Lib.hid (fun W F' t=>by
  obtain⟨a2,c2,e2,hx⟩:=O1.work;simp only[Value.slice.injEq,true_and] at e2;rcases hx with q|⟨b2,o2,q1,q2,q3,q4,q5⟩
  . exfalso;rw[q] at hc;simp at hc
  rw[q1] at e2;simp only[Option.some.injEq,Addr.mk.injEq,and_true] at e2;obtain⟨⟨rfl,rfl⟩,-⟩:=e2;obtain⟨vi,u1,u2,u3⟩:=q5 c hc;rw[dw] at u1;have u4:=Option.some.inj u1;subst u4;rw[<-hds] at u2
  exact (C2.Uw (ES (r:=Tv ds _) u2 (fun g hg=>t.block g (World.ownsRow.lt u2 g hg).2 (fun hB=>by
   have:=(XO.out.blk g (ZP hB)).2.2;have:=(World.ownsRow.lt u2 g hg).1;have:=u3 g hg
   omega)))).rd)
 have XV:=Lib.hid (h.keep K01);have NB:Hid (∀q,De ⟨.slice (some ⟨bw,ow,none⟩) AA.length cW,.slice aP b.AM.length cP,.slice aL b.AQ.length cL,.slice aN b.AG.length cQ,.slice (some ⟨gx,0,none⟩) b.AK.length cX,.slice aS b.sn.length cS,.slice aF b.fr.length cF,.slice aR b.rws.length cR⟩ nv rv q->q<w.heap.size):=Lib.hid (fun q hq=>(h.blk q hq).2.1);have c0:w1.cell? ⟨w.heap.size,0,none⟩=some (.slice (some ⟨bw,ow,none⟩) AA.length cW):=O1.cells.1;have i1:(0:Int)<=(c:Int):=Int.natCast_nonneg _;have i2:(c:Int)<(AA.length:Int):=by omega
 have JD:=O1.MG;simp only[BV.arr] at JD;have MV:=Lib.hid hds;have rV:=Lib.hid JD;have HT:=Lib.hid hT;have hm1:m<=w1.heap.size:=by omega
 have CD:=JW w1 m _ nv rv bs N AA b n c XV.out S (by omega) hm1 hc h0 hk h3;clear hcw O1 h S h3 hds hT hg rd CN hk;go_enter Tryz.func133,Tryz.ntmps133
 go_upto_region 1 with fail
 rw[<-hw1];clear hw1;go_wp2_with (first|refine wpList_load_row rfl 36 _ rfl w.heap.size rfl 36 _ (0,0) _ JD Tryz.underlying36 rfl AL ?_|fail)
 refine CD.mono ?_;rintro e w2 ⟨rfl,nv2,rv2,V2,T2⟩;have rX:=Lib.hid V2;have XT2:=Lib.hid T2;have nD:∀F',Aj w1 w2 (De ⟨.slice (some ⟨bw,ow,none⟩) AA.length cW,.slice aP b.AM.length cP,.slice aL b.AQ.length cL,.slice aN b.AG.length cQ,.slice (some ⟨gx,0,none⟩) b.AK.length cX,.slice aS b.sn.length cS,.slice aF b.fr.length cF,.slice aR b.rws.length cR⟩ nv rv) F'->w2.heap[w.heap.size]? = w1.heap[w.heap.size]?:=fun F' t=>t.block _ (by omega) (fun q=>by have:=NB.out _ q;omega)
 have hD2:=(nD _ T2).trans JD;clear V2 T2 nD CD dw c0 JD XV XO;go_wp2;go_loopw [] (fun wr=>∃(nv' rv':List Value) (b':Bd) (n':Nat),A7 wr m ⟨.slice (some ⟨bw,ow,none⟩) AA.length cW,.slice aP b.AM.length cP,.slice aL b.AQ.length cL,.slice aN b.AG.length cQ,.slice (some ⟨gx,0,none⟩) b.AK.length cX,.slice aS b.sn.length cS,.slice aF b.fr.length cF,.slice aR b.rws.length cR⟩ nv' rv' bs N AA b'/\Aj w1 wr (De ⟨.slice (some ⟨bw,ow,none⟩) AA.length cW,.slice aP b.AM.length cP,.slice aL b.AQ.length cL,.slice aN b.AG.length cQ,.slice (some ⟨gx,0,none⟩) b.AK.length cX,.slice aS b.sn.length cS,.slice aF b.fr.length cF,.slice aR b.rws.length cR⟩ nv rv) (De ⟨.slice (some ⟨bw,ow,none⟩) AA.length cW,.slice aP b.AM.length cP,.slice aL b.AQ.length cL,.slice aN b.AG.length cQ,.slice (some ⟨gx,0,none⟩) b.AK.length cX,.slice aS b.sn.length cS,.slice aF b.fr.length cF,.slice aR b.rws.length cR⟩ nv' rv')/\WK AA c g T b' n') (fun wr=>match wr.cell? ⟨gx,c,none⟩ with|some x=>ds.length-(intOf x).toNat|none=>0)
 case atStart=>exact⟨nv2,rv2,_,_,rX.out,XT2.out,WK0.out⟩
 case round=>
  obtain⟨nv',rv',b',n',VJ,TJ,KJ⟩:=hrel;clear rX XT2 hD2;have wQ:c<b'.AK.length:=by rw[KJ.Yp.AK];exact hc
  obtain⟨gx',cx',ex',lgx,rq,-⟩:=(show BO wr m (BV.X ⟨.slice (some ⟨bw,ow,none⟩) AA.length cW,.slice aP b.AM.length cP,.slice aL b.AQ.length cL,.slice aN b.AG.length cQ,.slice (some ⟨gx,0,none⟩) b.AK.length cX,.slice aS b.sn.length cS,.slice aF b.fr.length cF,.slice aR b.rws.length cR⟩) b'.AK from VJ.Ag.own .AK ⟨trivial,by simp⟩).lit wQ;have ex2:Value.slice (some ⟨gx,0,none⟩) b.AK.length cX = .slice (some ⟨gx',0,none⟩) b'.AK.length cx':=ex';simp only[Value.slice.injEq,Option.some.injEq,Addr.mk.injEq,and_true] at ex2;obtain⟨k,hkz⟩:=Int.eq_ofNat_of_zero_le KJ.z;have hkn:Ap b' c=k:=by unfold Ap;rw[hkz];rfl
  have mV:wr.cell? ⟨gx,c,none⟩=some (.int .i64 (k:Int)):=by rw[ex2.1,<-hkz];exact rq c wQ
  have pI:=Lib.hid KJ;have hle:=KJ.le;rw[hkn,<-MV.out] at hle;have hDr:wr.heap[w.heap.size]? = some (.cells #[.slice (some ⟨bw,ow,none⟩) AA.length cW,.slice aP b.AM.length cP,.slice aL b.AQ.length cL,.slice aN b.AG.length cQ,.slice (some ⟨gx,0,none⟩) b.AK.length cX,.slice aS b.sn.length cS,.slice aF b.fr.length cF,.slice aR b.rws.length cR] 36 (0,0)):=(TJ.block _ (by omega) (fun q=>by have:=NB.out _ q;omega)).trans rV.out;have c4:wr.cell? ⟨w.heap.size,4,none⟩=some (.slice (some ⟨gx,0,none⟩) b.AK.length cX):=by rw[cell_of_row wr _ 4 _ _ _ hDr];rfl
  have XVJ:=Lib.hid VJ;have zo:=Lib.hid TJ;have XLJ:=Lib.hid (XL.out wr _ TJ);have i3:(c:Int)<(b.AK.length:Int):=by omega
  have i4:(0:Int)<=(k:Int):=Int.natCast_nonneg _
  have Yv:Hid (¬(k<ds.length/\GX ds k=true)->∃nv'' rv'',A7 wr m ⟨.slice (some ⟨bw,ow,none⟩) AA.length cW,.slice aP b.AM.length cP,.slice aL b.AQ.length cL,.slice aN b.AG.length cQ,.slice (some ⟨gx,0,none⟩) b.AK.length cX,.slice aS b.sn.length cS,.slice aF b.fr.length cF,.slice aR b.rws.length cR⟩ nv'' rv'' bs N AA T/\Aj w wr (De ⟨.slice (some ⟨bw,ow,none⟩) AA.length cW,.slice aP b.AM.length cP,.slice aL b.AQ.length cL,.slice aN b.AG.length cQ,.slice (some ⟨gx,0,none⟩) b.AK.length cX,.slice aS b.sn.length cS,.slice aF b.fr.length cF,.slice aR b.rws.length cR⟩ nv rv) (De ⟨.slice (some ⟨bw,ow,none⟩) AA.length cW,.slice aP b.AM.length cP,.slice aL b.AQ.length cL,.slice aN b.AG.length cQ,.slice (some ⟨gx,0,none⟩) b.AK.length cX,.slice aS b.sn.length cS,.slice aF b.fr.length cF,.slice aR b.rws.length cR⟩ nv'' rv'')):=Lib.hid (fun hno=>by
   obtain⟨mm,-,hT⟩:=pI.out.go;rw[hkn,<-MV.out,if_neg hno] at hT
   exact⟨nv',rv',by rw[hT];exact XVJ.out,((Aj.refl w _).keep K01).trans zo.out⟩)
  clear VJ TJ KJ ex' ex2 rq;by_cases hl:k<ds.length
  ·
   have hd:decide ((k:Int)<(ds.length:Int))=true:=decide_eq_true (by omega)
   cases hgo:GX ds k with
   |true=>
    have yB:∀q,Calls Tryz.prog 146 #[.slice ad ds.length (ds.length+cd),.int .i64 (k:Int)] (wr.drewN q) fun e w'=>e = .returned (.bool true)/\∃r,w'=(wr.drewN q).drewN r:=fun q=>by
     rw[<-hgo];exact KP (wr.drewN q) _ ds (XLJ.out.keep ((AC.refl wr).drewN q)) k hl (by omega)
    obtain⟨g1,g2⟩:=pI.out.gg (by rw[hkn,<-MV.out];exact hl) (by rw[hkn,<-MV.out];exact hgo);rw[hkn] at g1;have CD:=fun (W:World) (kW:AC wr W)=>JW W m _ nv' rv' bs N AA b' n' c (XVJ.out.keep kW) pI.out.Yp (by have:=pI.out.nt;omega) (Nat.le_trans (show m<=wr.heap.size by have:=zo.out.size;omega) kW.size) hc pI.out.z (by rw[hkn,<-MV.out];exact hl) (fun q3=>absurd q3 (En zm.out (by rw[hkn,<-MV.out];exact hl) (by rw[hkn,g1];exact g2)).2.1)
    clear hle Yv;go_upto_region 3 with fail
    go_quiet ((first|(go_at_call 140;exact Calls.quiet_of_same (DI _ _ _ _))|(go_at_call 146;exact Calls.quiet_of (yB _))))
    have JD:(wr.drewN nq).heap[w.heap.size]? = some (.cells #[.slice (some ⟨bw,ow,none⟩) AA.length cW,.slice aP b.AM.length cP,.slice aL b.AQ.length cL,.slice aN b.AG.length cQ,.slice (some ⟨gx,0,none⟩) b.AK.length cX,.slice aS b.sn.length cS,.slice aF b.fr.length cF,.slice aR b.rws.length cR] 36 (0,0)):=hDr;go_wp2_with (first|refine wpList_load_row rfl 36 _ rfl w.heap.size rfl 36 _ (0,0) _ JD Tryz.underlying36 rfl AL ?_|fail)
    refine (CD _ ((AC.refl wr).drewN _)).mono ?_;rintro e w5 ⟨rfl,nv5,rv5,V5,T5⟩;have HS:=pI.out.step hc (by rw[hkn,<-MV.out];exact hl) (by rw[hkn,<-MV.out];exact hgo);have T6:=(zo.out.keep ((AC.refl wr).drewN _)).trans T5;obtain⟨e1,e2⟩:=Q5 (AA:=AA) (es:=AB AA) wQ pI.out.z;obtain⟨gx',cx',ex',-,dX5,-⟩:=(show BO w5 m (BV.X ⟨.slice (some ⟨bw,ow,none⟩) AA.length cW,.slice aP b.AM.length cP,.slice aL b.AQ.length cL,.slice aN b.AG.length cQ,.slice (some ⟨gx,0,none⟩) b.AK.length cX,.slice aS b.sn.length cS,.slice aF b.fr.length cF,.slice aR b.rws.length cR⟩) _ from V5.Ag.own .AK ⟨trivial,by simp⟩).lit (show c<(Ai AA (AB AA) b' c).AK.length by rw[HS.Yp.AK];exact hc);have ex2:Value.slice (some ⟨gx,0,none⟩) b.AK.length cX = .slice (some ⟨gx',0,none⟩) (Ai AA (AB AA) b' c).AK.length cx':=ex';simp only[Value.slice.injEq,Option.some.injEq,Addr.mk.injEq,and_true] at ex2
    have dXn:w5.cell? ⟨gx,c,none⟩=some (.int .i64 ((k:Int)+1)):=by
     have:=dX5 c (by rw[HS.Yp.AK];exact hc);rw[e1,hkz,<-ex2.1] at this;exact this
    have HV5:=Lib.hid V5;have HT6:=Lib.hid T6;have HSS:=Lib.hid HS;clear V5 T5 T6 HS dX5 ex' ex2 JD yB CD;go_wp2;go_roundw;case rel=>exact⟨nv5,rv5,_,_,HV5.out,HT6.out,HSS.out⟩
    case measure=>simp only[dXn,mV,intOf];omega
   |false=>
    have yB:∀q,Calls Tryz.prog 146 #[.slice ad ds.length (ds.length+cd),.int .i64 (k:Int)] (wr.drewN q) fun e w'=>e = .returned (.bool false)/\∃r,w'=(wr.drewN q).drewN r:=fun q=>by
     rw[<-hgo];exact KP (wr.drewN q) _ ds (XLJ.out.keep ((AC.refl wr).drewN q)) k hl (by omega)
    obtain⟨nz,rz,VZ,TZ⟩:=Yv.out (fun q=>by rw[hgo] at q;simp at q);have HV:=Lib.hid VZ;have HZ:=Lib.hid TZ;clear hle Yv VZ TZ;go_upto_region 3 with fail
    go_quiet ((first|(go_at_call 140;exact Calls.quiet_of_same (DI _ _ _ _))|(go_at_call 146;exact Calls.quiet_of (yB _))))
    go_wp2;go_end0;exact⟨rfl,nz,rz,by rw[<-HT.out];exact HV.out.keep ((AC.refl wr).drewN _),HZ.out.keep ((AC.refl wr).drewN _)⟩
  ·
   have hd:decide ((k:Int)<(ds.length:Int))=false:=decide_eq_false (by omega);obtain⟨nz,rz,VZ,TZ⟩:=Yv.out (fun q=>hl q.1);have HV:=Lib.hid VZ;have HZ:=Lib.hid TZ;clear hle Yv VZ TZ;go_upto_region 3 with fail
   go_quiet ((first|(go_at_call 140;exact Calls.quiet_of_same (DI _ _ _ _))|fail))
   go_wp2;go_end0;exact⟨rfl,nz,rz,by rw[<-HT.out];exact HV.out.keep ((AC.refl wr).drewN _),HZ.out.keep ((AC.refl wr).drewN _)⟩
theorem ZO {v:BV}{nv rv:List Value}{g:Nat}(h:FE v rv g):De v nv rv g:=by
 obtain⟨i,hi,e⟩:=h
 cases i with
 |AM=>exact⟨.AM,trivial,by simp,e⟩
 |AQ=>exact⟨.AQ,trivial,by simp,e⟩
 |rws=>exact⟨.rws,trivial,by simp,e⟩
 |rw p=>exact⟨.rw p,hi,by simp,e⟩
 |bd=>exact hi.elim
 |AG=>exact hi.elim
 |AK=>exact hi.elim
 |sn=>exact hi.elim
 |fr=>exact hi.elim
 |nt c=>exact hi.elim
theorem W6 (w:World)(m:Nat)(v:BV)(nv rv wv:List Value)(bs N:Nat)(AA:List (List Dd))(b:Bd)(n c:Nat)(x:Nt)(r:List Nt)(h:A7 w m v nv rv bs N AA b)(lw:Dk w bs N v.W wv AA)(hbs:m<=bs)(S:Dc AA b n)(hn:n<=1000)(hm:m<=w.heap.size)(hc:c<AA.length)(hz:b.AG.getD c []=x::r)(hx:0<=x.1/\x.1<=2):
  Calls Tryz.prog 134 #[v.agg,.int .i64 c] w fun e w'=>e = .returned (.tuple #[])/\CX w' m w'.heap.size v AA (BA b c)/\∃F',Aj w w' (De v nv rv) F':=by
 have hcn:c<b.AG.length:=by rw[S.AG];exact hc
 obtain⟨x0,x1,x2⟩:=x;simp only at hx;obtain⟨p,rfl⟩:=Int.eq_ofNat_of_zero_le hx.1;have hp3:p<3:=by omega
 have HM:Hid (BA b c=Dq { b with AG:=b.AG.set c r } p x1 x2):=Lib.hid (by unfold BA;rw[hz];simp);have XS:=Lib.hid S;have lp:p<b.AM.length:=by rw[S.AM];exact hp3
 have ll:p<b.AQ.length:=by rw[S.AQ];exact hp3
 have lr:p<b.rws.length:=by rw[S.rws];exact hp3
 obtain⟨aW,aP,aL,aN,aX,aS,aF,aR,cW,cP,cL,cQ,cX,cS,cF,cR,rfl⟩:=h.rd0.shapes;have XSL:=Lib.hid h.rd0.sl;have O1:=h.box hm;obtain⟨a',c',eN,hN⟩:=O1.hN;simp only[Value.slice.injEq,true_and] at eN;obtain⟨rfl,rfl⟩:=eN;rcases hN with q|⟨gn,rfl,qQ,dn⟩
 . exfalso;rw[q] at hcn;simp at hcn
 obtain⟨w1,hw1⟩:∃W:World,W=w.alloc (.cells #[.slice aW AA.length cW,.slice aP b.AM.length cP,.slice aL b.AQ.length cL,.slice (some ⟨gn,0,none⟩) b.AG.length cQ,.slice aX b.AK.length cX,.slice aS b.sn.length cS,.slice aF b.fr.length cF,.slice aR b.rws.length cR] 36):=⟨_,rfl⟩;have zG:w1.heap.size=w.heap.size+1:=by rw[hw1,AD]
 have K01:AC w w1:=by rw[hw1];exact (AC.refl w).alloc _
 replace O1:AU w1 m w.heap.size ⟨.slice aW AA.length cW,.slice aP b.AM.length cP,.slice aL b.AQ.length cL,.slice (some ⟨gn,0,none⟩) b.AG.length cQ,.slice aX b.AK.length cX,.slice aS b.sn.length cS,.slice aF b.fr.length cF,.slice aR b.rws.length cR⟩ nv rv bs N AA b:=by rw[hw1];exact O1
 replace dn:∀i,i<b.AG.length->w1.cell? ⟨gn,i,none⟩=some (nv.getD i AE):=by rw[hw1];exact dn
 have oq:=O1.oN hcn;rw[hz] at oq
 obtain⟨gq,cq,hq,lgq⟩:∃gq cq,nv.getD c AE = .slice (some ⟨gq,0,none⟩) (r.length+1) cq/\gq<w1.heap.size:=by
  have hlt:=World.ownsRow.lt oq;rcases oq.2 with ⟨_,hz'⟩|⟨g,cap,cur,e,_⟩
  . simp at hz'
  . exact⟨g,cap,e,(hlt g (by rw[e];rfl)).2⟩
 have hcq:r.length+1<=cq:=by
  rcases oq.2 with ⟨_,hz'⟩|⟨g,cap,cur,e,_,_,hcap,_⟩
  . simp at hz'
  ·
   rw[hq] at e;simp only[Value.slice.injEq] at e;rw[e.2.2];simpa using hcap
 rw[hq] at oq;have q0:w1.cell? ⟨gq,0,none⟩=some (.int .i64 (p:Int)):=World.ownsRow.cellAt oq 0 (by simp);have q1:w1.cell? ⟨gq,1,none⟩=some (.int .i64 x1):=World.ownsRow.cellAt oq 1 (by show 1<(r.length+1)*3;omega);have q2:w1.cell? ⟨gq,2,none⟩=some (.int .i64 x2):=World.ownsRow.cellAt oq 2 (by show 2<(r.length+1)*3;omega);have d3:=dn c hcn;rw[hq] at d3;have hcv:c<nv.length:=by rw[O1.ln];exact hcn
 obtain⟨w2,hw2⟩:∃W:World,W=w1.alloc (Pv (p:Int) x1 x2):=⟨_,rfl⟩;have k2:AC w1 w2:=by rw[hw2];exact (AC.refl w1).alloc _
 have y2w:w2.heap.size=w.heap.size+2:=by rw[hw2,AD,zG]
 have XN2:Hid (w2.heap[w.heap.size+1]? = some (.cells #[.int .i64 (p:Int),.int .i64 x1,.int .i64 x2] 104 (0,0))):=Lib.hid (by rw[hw2,<-zG];exact heap_alloc_new _ _);have O2:=O1.keep k2;have XD2:Hid (w2.heap[w.heap.size]? = some (.cells #[.slice aW AA.length cW,.slice aP b.AM.length cP,.slice aL b.AQ.length cL,.slice (some ⟨gn,0,none⟩) b.AG.length cQ,.slice aX b.AK.length cX,.slice aS b.sn.length cS,.slice aF b.fr.length cF,.slice aR b.rws.length cR] 36 (0,0))):=Lib.hid (by have:=O2.MG;simp only[BV.arr] at this;exact this);have XA2:Hid (Ei w2 m ⟨.slice aW AA.length cW,.slice aP b.AM.length cP,.slice aL b.AQ.length cL,.slice (some ⟨gn,0,none⟩) b.AG.length cQ,.slice aX b.AK.length cX,.slice aS b.sn.length cS,.slice aF b.fr.length cF,.slice aR b.rws.length cR⟩ nv rv wv AA b):=Lib.hid (O2.all ((lw.keep K01).keep k2) hbs);have zw:Hid (BV.N ⟨.slice aW AA.length cW,.slice aP b.AM.length cP,.slice aL b.AQ.length cL,.slice (some ⟨gn,0,none⟩) b.AG.length cQ,.slice aX b.AK.length cX,.slice aS b.sn.length cS,.slice aF b.fr.length cF,.slice aR b.rws.length cR⟩ = .slice (some ⟨gn,0,none⟩) nv.length cQ):=Lib.hid (by rw[O1.ln]);have NB:Hid (∀q,De ⟨.slice aW AA.length cW,.slice aP b.AM.length cP,.slice aL b.AQ.length cL,.slice (some ⟨gn,0,none⟩) b.AG.length cQ,.slice aX b.AK.length cX,.slice aS b.sn.length cS,.slice aF b.fr.length cF,.slice aR b.rws.length cR⟩ nv rv q->q<w.heap.size):=Lib.hid (fun q hq=>(h.blk q hq).2.1);have T02:Hid (Aj w w2 (De ⟨.slice aW AA.length cW,.slice aP b.AM.length cP,.slice aL b.AQ.length cL,.slice (some ⟨gn,0,none⟩) b.AG.length cQ,.slice aX b.AK.length cX,.slice aS b.sn.length cS,.slice aF b.fr.length cF,.slice aR b.rws.length cR⟩ nv rv) (De ⟨.slice aW AA.length cW,.slice aP b.AM.length cP,.slice aL b.AQ.length cL,.slice (some ⟨gn,0,none⟩) b.AG.length cQ,.slice aX b.AK.length cX,.slice aS b.sn.length cS,.slice aF b.fr.length cF,.slice aR b.rws.length cR⟩ nv rv)):=Lib.hid (((Aj.refl w _).keep K01).keep k2);have c31:w1.cell? ⟨w.heap.size,3,none⟩=some (.slice (some ⟨gn,0,none⟩) b.AG.length cQ):=O1.cells.2.2.2.1;have c3:w2.cell? ⟨w.heap.size,3,none⟩=some (.slice (some ⟨gn,0,none⟩) b.AG.length cQ):=O2.cells.2.2.2.1;have d32:=(k2.cell (show gn<w1.heap.size from (O1.Ag.lt (i:= .AG) trivial gn rfl).2)).trans d3;have f3:w2.frozen? ⟨gn,c,none⟩=false:=(Rw.put (r:=Dp 101 nv (BV.N ⟨.slice aW AA.length cW,.slice aP b.AM.length cP,.slice aL b.AQ.length cL,.slice (some ⟨gn,0,none⟩) b.AG.length cQ,.slice aX b.AK.length cX,.slice aS b.sn.length cS,.slice aF b.fr.length cF,.slice aR b.rws.length cR⟩)) (O2.Ag.own .AG trivial) (g:=gn) (cap:=cQ) (k:=c) zw.out (.bool true)).2.2;have i1:(0:Int)<=(c:Int):=Int.natCast_nonneg _;have i3:(c:Int)<(b.AG.length:Int):=by omega
 have i5:((r.length+1:Nat):Int)=(r.length:Int)+1:=by omega
 have j1:(1:Int)<=(r.length:Int)+1:=by omega
 have hz':=hz;have hq':=hq;have HZ1:=Lib.hid hz';have HZ2:=Lib.hid hq';clear O1 O2 oq dn h lw hz hq hz' hq' S hx;go_enter Tryz.func134,Tryz.ntmps134
 go_upto_region 1 with fail
 rw[<-hw1];clear hw1;go_upto_region 2 with fail
 rw[<-hw2];clear hw2 q0 q1 q2 c31 d3;have hz':=HZ1;have hq':=HZ2;have d3:=d32;clear d32;by_cases hq1:cq=1
 ·
  have j2:(1:Int)<=(cq:Int):=by omega
  have tZ:=(XA2.out.cut (g:=gn) (c:=c) (cap:=cQ) zw.out (.slice (some ⟨gq,0,none⟩) r.length 0)).keep (AC.refl _).drew;have T3:Aj w2 _ (De ⟨.slice aW AA.length cW,.slice aP b.AM.length cP,.slice aL b.AQ.length cL,.slice (some ⟨gn,0,none⟩) b.AG.length cQ,.slice aX b.AK.length cX,.slice aS b.sn.length cS,.slice aF b.fr.length cF,.slice aR b.rws.length cR⟩ nv rv) (De ⟨.slice aW AA.length cW,.slice aP b.AM.length cP,.slice aL b.AQ.length cL,.slice (some ⟨gn,0,none⟩) b.AG.length cQ,.slice aX b.AK.length cX,.slice aS b.sn.length cS,.slice aF b.fr.length cF,.slice aR b.rws.length cR⟩ nv rv):=((Aj.refl w2 _).grown (Ae w2 gn c (.slice (some ⟨gq,0,none⟩) r.length 0)) (fun g hg=>⟨.AG,trivial,by simp,hg⟩)).keep (AC.refl _).drew;have JD:=(T3.block w.heap.size (by omega) (fun q=>by have:=NB.out _ q;omega)).trans XD2.out;have vO:=(T3.block (w.heap.size+1) (by omega) (fun q=>by have:=NB.out _ q;omega)).trans XN2.out;have iZ:=Lib.hid tZ;have iy:=Lib.hid T3;have uG:=Lib.hid JD;have ic:=Lib.hid vO;clear tZ T3 JD vO;go_region
  go_upto_region 3 with fail
  obtain⟨w3,hw3⟩:∃W:World,W=(w2.setCell ⟨gn,c,none⟩ (.slice (some ⟨gq,0,none⟩) r.length 0)).drew:=⟨_,rfl⟩;rw[<-hw3] at iZ iy uG ic ⊢;clear hw3;have JD:=uG.out;have m0:w3.cell? ⟨w.heap.size+1,0,none⟩=some (.int .i64 (p:Int)):=by rw[cell_of_row w3 _ 0 _ _ _ ic.out];rfl
  have m1:w3.cell? ⟨w.heap.size+1,1,none⟩=some (.int .i64 x1):=by rw[cell_of_row w3 _ 1 _ _ _ ic.out];rfl
  have m2:w3.cell? ⟨w.heap.size+1,2,none⟩=some (.int .i64 x2):=by rw[cell_of_row w3 _ 2 _ _ _ ic.out];rfl
  have s3:=iy.out.size;have Rl:=Q8 w3 m ⟨.slice aW AA.length cW,.slice aP b.AM.length cP,.slice aL b.AQ.length cL,.slice (some ⟨gn,0,none⟩) b.AG.length cQ,.slice aX b.AK.length cX,.slice aS b.sn.length cS,.slice aF b.fr.length cF,.slice aR b.rws.length cR⟩ rv b p x1 x2 iZ.out.Xr XSL.out (by omega) lp ll lr (by have:=XS.out.rl p;omega);clear d3 f3 c3;go_wp2_with (first|refine wpList_load_row rfl 36 _ rfl w.heap.size rfl 36 _ (0,0) _ JD Tryz.underlying36 rfl AL ?_|fail)
  refine Rl.mono ?_;rintro e w4 ⟨rfl,rv',O4,T4⟩;have tq:=iZ.out.turn O4 T4 rfl rfl rfl rfl;have FR:=Lib.hid (tq.free hcv HZ1.out HZ2.out (.inl ⟨hq1,rfl⟩));have B4:=Lib.hid ((T02.out.trans iy.out).trans (⟨T4.os,T4.tape,T4.output,T4.size,fun g h1 h2=>T4.block g h1 (fun q=>h2 (ZO q)),fun g h=>h⟩:Aj w3 w4 (De ⟨.slice aW AA.length cW,.slice aP b.AM.length cP,.slice aL b.AQ.length cL,.slice (some ⟨gn,0,none⟩) b.AG.length cQ,.slice aX b.AK.length cX,.slice aS b.sn.length cS,.slice aF b.fr.length cF,.slice aR b.rws.length cR⟩ nv rv) (fun g=>De ⟨.slice aW AA.length cW,.slice aP b.AM.length cP,.slice aL b.AQ.length cL,.slice (some ⟨gn,0,none⟩) b.AG.length cQ,.slice aX b.AK.length cX,.slice aS b.sn.length cS,.slice aF b.fr.length cF,.slice aR b.rws.length cR⟩ nv rv g\/w3.heap.size<=g)));clear O4 T4 tq Rl JD m0 m1 m2;go_wp2;go_end0;exact⟨rfl,by rw[HM.out];exact FR.out,_,B4.out⟩
 ·
  have j2:(1:Int)<(cq:Int):=by omega
  have tZ:=(XA2.out.cut (g:=gn) (c:=c) (cap:=cQ) zw.out (.slice (some ⟨gq,3,none⟩) r.length (cq-1))).keep (AC.refl _).drew;have T3:Aj w2 _ (De ⟨.slice aW AA.length cW,.slice aP b.AM.length cP,.slice aL b.AQ.length cL,.slice (some ⟨gn,0,none⟩) b.AG.length cQ,.slice aX b.AK.length cX,.slice aS b.sn.length cS,.slice aF b.fr.length cF,.slice aR b.rws.length cR⟩ nv rv) (De ⟨.slice aW AA.length cW,.slice aP b.AM.length cP,.slice aL b.AQ.length cL,.slice (some ⟨gn,0,none⟩) b.AG.length cQ,.slice aX b.AK.length cX,.slice aS b.sn.length cS,.slice aF b.fr.length cF,.slice aR b.rws.length cR⟩ nv rv):=((Aj.refl w2 _).grown (Ae w2 gn c (.slice (some ⟨gq,3,none⟩) r.length (cq-1))) (fun g hg=>⟨.AG,trivial,by simp,hg⟩)).keep (AC.refl _).drew;have JD:=(T3.block w.heap.size (by omega) (fun q=>by have:=NB.out _ q;omega)).trans XD2.out;have vO:=(T3.block (w.heap.size+1) (by omega) (fun q=>by have:=NB.out _ q;omega)).trans XN2.out;have iZ:=Lib.hid tZ;have iy:=Lib.hid T3;have uG:=Lib.hid JD;have ic:=Lib.hid vO;clear tZ T3 JD vO;go_region
  go_upto_region 3 with fail
  obtain⟨w3,hw3⟩:∃W:World,W=(w2.setCell ⟨gn,c,none⟩ (.slice (some ⟨gq,3,none⟩) r.length (cq-1))).drew:=⟨_,rfl⟩;rw[<-hw3] at iZ iy uG ic ⊢;clear hw3;have JD:=uG.out;have m0:w3.cell? ⟨w.heap.size+1,0,none⟩=some (.int .i64 (p:Int)):=by rw[cell_of_row w3 _ 0 _ _ _ ic.out];rfl
  have m1:w3.cell? ⟨w.heap.size+1,1,none⟩=some (.int .i64 x1):=by rw[cell_of_row w3 _ 1 _ _ _ ic.out];rfl
  have m2:w3.cell? ⟨w.heap.size+1,2,none⟩=some (.int .i64 x2):=by rw[cell_of_row w3 _ 2 _ _ _ ic.out];rfl
  have s3:=iy.out.size;have Rl:=Q8 w3 m ⟨.slice aW AA.length cW,.slice aP b.AM.length cP,.slice aL b.AQ.length cL,.slice (some ⟨gn,0,none⟩) b.AG.length cQ,.slice aX b.AK.length cX,.slice aS b.sn.length cS,.slice aF b.fr.length cF,.slice aR b.rws.length cR⟩ rv b p x1 x2 iZ.out.Xr XSL.out (by omega) lp ll lr (by have:=XS.out.rl p;omega);clear d3 f3 c3;go_wp2_with (first|refine wpList_load_row rfl 36 _ rfl w.heap.size rfl 36 _ (0,0) _ JD Tryz.underlying36 rfl AL ?_|fail)
  refine Rl.mono ?_;rintro e w4 ⟨rfl,rv',O4,T4⟩;have tq:=iZ.out.turn O4 T4 rfl rfl rfl rfl;have FR:=Lib.hid (tq.free hcv HZ1.out HZ2.out (.inr rfl));have B4:=Lib.hid ((T02.out.trans iy.out).trans (⟨T4.os,T4.tape,T4.output,T4.size,fun g h1 h2=>T4.block g h1 (fun q=>h2 (ZO q)),fun g h=>h⟩:Aj w3 w4 (De ⟨.slice aW AA.length cW,.slice aP b.AM.length cP,.slice aL b.AQ.length cL,.slice (some ⟨gn,0,none⟩) b.AG.length cQ,.slice aX b.AK.length cX,.slice aS b.sn.length cS,.slice aF b.fr.length cF,.slice aR b.rws.length cR⟩ nv rv) (fun g=>De ⟨.slice aW AA.length cW,.slice aP b.AM.length cP,.slice aL b.AQ.length cL,.slice (some ⟨gn,0,none⟩) b.AG.length cQ,.slice aX b.AK.length cX,.slice aS b.sn.length cS,.slice aF b.fr.length cF,.slice aR b.rws.length cR⟩ nv rv g\/w3.heap.size<=g)));clear O4 T4 tq Rl JD m0 m1 m2;go_wp2;go_end0;exact⟨rfl,by rw[HM.out];exact FR.out,_,B4.out⟩
def Uo (k:Nat):Bd:=⟨List.replicate k 0,(List.range k).map (fun (i:Nat)=>(i:Int)),[],[],[],[],(List.range k).map (fun (i:Nat)=>[(i:Int)])⟩
def Ym (k:Nat):Bd:=⟨[0,0,0],[0,1,2],List.replicate k [],List.replicate k 0,[],[],[[0],[1],[2]]⟩
def Up (n k:Nat):Bd:=⟨[0,0,0],[0,1,2],List.replicate n [],List.replicate n 0,List.replicate k (-1),List.replicate k (-1),[[0],[1],[2]]⟩
theorem bJ (k:Nat):Uo (k+1)={ { { Uo k with AM:=(Uo k).AM++[0] } with AQ:=(Uo k).AQ++[(k:Int)] } with rws:=(Uo k).rws++[[(k:Int)]] }:=by
 unfold Uo;simp only[List.range_succ,List.map_append,List.map_cons,List.map_nil,List.replicate_succ']
theorem bK (k:Nat):Ym (k+1)={ { Ym k with AG:=(Ym k).AG++[[]] } with AK:=(Ym k).AK++[0] }:=by
 unfold Ym;simp only[List.replicate_succ']
theorem bM (n k:Nat):Up n (k+1)={ { Up n k with sn:=(Up n k).sn++[-1] } with fr:=(Up n k).fr++[-1] }:=by
 unfold Up;simp only[List.replicate_succ']
theorem OI (w:World)(x:Int):Rd (w.alloc (.cells #[.int .i64 x] 2)) (.slice (some ⟨w.heap.size,0,none⟩) 1 1) [x]:=
 ⟨_,1,rfl,.inr ⟨w.heap.size,0,rfl,by rw[AD];omega,fun i hi=>by
  obtain rfl:i=0:=by simpa using hi
  rw[cell_of_row _ _ _ _ _ _ (heap_alloc_new w _)];rfl⟩⟩
theorem Qz (w:World)(v:Value)(AA:List (List Dd))(h:Fz w v AA)(hb:AO AA=true)(hx:AA.length<=1048576)(hm:∀i,i<AA.length->(AA.getD i []).length<=1048576):
  Calls Tryz.prog 92 #[v] w fun e w'=>∃bv nv rv wv,e = .returned (BV.agg bv)/\Ei w' w.heap.size bv nv rv wv AA (CM AA)/\AC w w':=by
 have CW:=fun (W:World) (kW:AC w W)=>DA W _ AA (h.keep kW) hx hm
 have CC:=fun (W:World) (kW:AC w W)=>Hu W _ AA (h.keep kW) hx hm
 have CE:=fun (W:World) (kW:AC w W)=>D9 W _ AA (h.keep kW) hx hm
 rw[hb] at CW;have u1:=(Ay hb).1;obtain⟨aD,yg,rfl,-⟩:=id h;clear h hm hb;obtain⟨ng0,ngi,ngz0,ngz1,ngz2⟩:=info_parts Tryz.Qn;obtain⟨ig0,igi,igz0,igz1,igz2⟩:=info_parts Tryz.Qm;obtain⟨w1,hw1⟩:∃W:World,W=w.alloc (.cells #[AE,AE,AE,AE,AE,AE,AE,AE] 36):=⟨_,rfl⟩;have K1:AC w w1:=by rw[hw1];exact (AC.refl w).alloc _
 have s1:w1.heap.size=w.heap.size+1:=by rw[hw1,AD]
 have hR1:w1.heap[w.heap.size]? = some (.cells #[AE,AE,AE,AE,AE,AE,AE,AE] 36 (0,0)):=by rw[hw1];exact heap_alloc_new _ _
 go_enter Tryz.func92,Tryz.ntmps92
 go_upto_region 1 with fail
 rw[<-hw1];clear hw1;go_wp2_with fail
 refine (CW _ K1).mono ?_;rintro e w2 ⟨rfl,k2⟩;go_wp2_with fail
 refine (DD _).mono ?_;rintro e w2 ⟨rfl,rfl⟩;have K2:=K1.trans k2;go_wp2_with fail
 refine (CC _ K2).mono ?_;rintro e w3 ⟨v3,V,rfl,X3,k3⟩;have s2:=k2.size;have s3:=k3.size;have LW3:=X3.nQ;have O3:=(TA X3.rdX.upto (Nat.le_refl _) w1.heap.size).box (by omega);obtain⟨a3,c3,hv3,-⟩:=id X3.rdW;subst hv3;obtain⟨w4,hw4⟩:∃W:World,W=w3.alloc (.cells #[.slice a3 AA.length c3,AE,AE,AE,AE,AE,AE,AE] 36):=⟨_,rfl⟩;have k4:AC w3 w4:=by rw[hw4];exact (AC.refl w3).alloc _
 have s4:w4.heap.size=w3.heap.size+1:=by rw[hw4,AD]
 replace O3:AU w4 w1.heap.size w3.heap.size ⟨.slice a3 AA.length c3,AE,AE,AE,AE,AE,AE,AE⟩ [] [] w2.heap.size w3.heap.size AA ⟨[],[],[],[],[],[],[]⟩:=by rw[hw4];exact O3
 clear X3;go_upto_region 3 with fail
 rw[<-hw4];clear hw4;go_wp2_with fail
 refine (Hq w4).mono ?_;rintro e w5 ⟨v5,rfl,A5,k5⟩;have s5:=k5.size;have N5:=NB.start (O3.keep k5);have LW5:=Lib.hid (LW3.keep (k4.trans k5));have hR5:=Lib.hid ((Below.block ((k2.trans k3).trans (k4.trans k5)) w.heap.size (by omega)).trans hR1);have K5:=K2.trans (k3.trans (k4.trans k5));have hD:w1.heap.size<=w3.heap.size/\w3.heap.size<w4.heap.size:=by omega
 have hbs:w1.heap.size<=w2.heap.size:=s2;have hD5:w3.heap.size<w5.heap.size:=by omega
 obtain⟨ae,ce,hv5,-⟩:=id A5.rd;rw[show CU.length=3 from rfl] at hv5;subst hv5;clear LW3 O3 CW CC hR1 k2 k3 k4 k5 K1 K2;have hmw:w.heap.size<w1.heap.size:=by omega
 clear s1 s4 s3 s2 s5;generalize w1.heap.size=m at *;generalize w2.heap.size=bs at *;generalize w3.heap.size=D at *;go_wp2;go_loopw [4,14] (fun _ i wr=>∃(k:Nat) (bv:BV) (rv:List Value),k<=3/\i = .int .i64 k/\Hid (bv.W = .slice a3 AA.length c3)/\NB w5 wr m D bv [] rv bs D AA (Uo k)) (fun _ i _=>3-(intOf i).toNat)
 case atStart=>exact⟨0,_,[],Nat.zero_le _,rfl,Lib.hid rfl,N5⟩
 case round=>
  obtain⟨k,bv,rv,hk,rfl,hW,NR⟩:=hrel;by_cases hlt:k<3
  ·
   have A5r:JB wr w4.heap.size (.slice ae 3 (3+ce)) CU:=World.ownsRow.kept A5 NR.sm (Ki (fun q hq=>(World.ownsRow.lt A5 q hq).1) hD.2);obtain⟨a',c',he',hE⟩:=A5r.rd;rw[show CU.length=3 from rfl] at he';simp only[Value.slice.injEq,true_and] at he';obtain⟨rfl,hce⟩:=he';rcases hE with h0|⟨bq,oq,rfl,hbq,hcq⟩
   . exact absurd h0 (by simp[CU])
   have hev:CU[k]? = some ((-1:Int),(-1:Int),false,(k:Int),(0:Int),(k:Int)):=by
    have:k=0\/k=1\/k=2:=by omega
    rcases this with rfl|rfl|rfl<;>rfl
   obtain⟨q0,q1,q2,q3,q4,q5⟩:=rZ (hcq k _ hev);have i1:(0:Int)<=(k:Int):=Int.natCast_nonneg _;have i2:(k:Int)<3:=by omega
   obtain⟨w6,hw6⟩:∃W:World,W=wr.alloc (eO (-1) (-1) false k 0 k):=⟨_,rfl⟩;have k6:AC wr w6:=by rw[hw6];exact (AC.refl wr).alloc _
   have f4:w6.cell? ⟨wr.heap.size,4,none⟩=some (.int .i64 0):=by rw[hw6,cell_of_row _ _ 4 _ _ _ (heap_alloc_new wr _)];rfl
   have N6:=NR.keep k6;clear hcq A5r NR hev hce k6;go_upto_region 6 with fail
   rw[<-hw6];clear hw6 q0 q1 q2 q3 q4 q5;have Aa:=N6.keep ((AC.refl w6).alloc (.cells #[.int .i64 (0:Int)] 2));obtain⟨xI,xJ,xK,xM,xO,xQ,xU,xV⟩:=N6.ob.cells;go_wp2_with (at_builtin;refine A6 rfl _ _ rfl m _ _ rfl Aa.ob.oP _ rfl [(0:Int)] (OI w6 (0:Int)) (by unfold Uo;simp;omega) (by simp) (Nat.le_of_lt (Nat.lt_of_le_of_lt Aa.ob.base.1 Aa.ob.base.2)) ?_)
   intro ua xa Oa Ga Ba;obtain⟨la,gQ⟩:∃l,Hid (l=(Uo k).AM++[(0:Int)]):=⟨_,Lib.hid rfl⟩;replace Oa:BO xa m ua ((Uo k).AM++[(0:Int)]):=Oa;rw[<-gQ.out] at Oa;obtain⟨Na,Ca,Fa⟩:=Aa.Z3 Ga (by rw[AD];exact Ba) Oa;obtain⟨uO,vC,wC,-⟩:=id Oa.rd;subst wC;clear xI xJ xK xM xO xQ xU xV Aa N6 Oa Ga Ba;go_upto_region 7 with fail
   generalize xa.setCell ⟨D,1,none⟩ (.slice uO la.length vC)=ya at *;clear Ca Fa;have Ab:=Na.keep ((AC.refl ya).alloc (.cells #[.int .i64 (k:Int)] 2));obtain⟨xY,xZ,xg,xh,xk,xq,xu,yA⟩:=Na.ob.cells;go_wp2_with (at_builtin;refine A6 rfl _ _ rfl m _ _ rfl Ab.ob.oL _ rfl [(k:Int)] (OI ya (k:Int)) (by unfold Uo;simp;omega) (by simp) (Nat.le_of_lt (Nat.lt_of_le_of_lt Ab.ob.base.1 Ab.ob.base.2)) ?_)
   intro ub xb Ob Gb Bb;obtain⟨lb,Yx⟩:∃l,Hid (l=(Uo k).AQ++[(k:Int)]):=⟨_,Lib.hid rfl⟩;replace Ob:BO xb m ub ((Uo k).AQ++[(k:Int)]):=Ob;rw[<-Yx.out] at Ob;obtain⟨Nb,Cb,Fb⟩:=Ab.Z0 Gb (by rw[AD];exact Bb) Ob;obtain⟨uQ,vD,hub,-⟩:=id Ob.rd;subst hub;clear xY xZ xg xh xk xq xu yA Ab Na Ob Gb Bb;go_upto_region 8 with fail
   generalize xb.setCell ⟨D,2,none⟩ (.slice uQ lb.length vD)=yb at *;clear Cb Fb;obtain⟨zc0,zc1,zc2,zc3,zc4,zc5,zc6,zc7⟩:=Nb.ob.cells;have kca:AC yb (yb.alloc (.cells #[.int .i64 (k:Int)] 2)):=(AC.refl yb).alloc _;have kcb:AC (yb.alloc (.cells #[.int .i64 (k:Int)] 2)) ((yb.alloc (.cells #[.int .i64 (k:Int)] 2)).alloc (.cells #[(Value.slice (some ⟨yb.heap.size,0,none⟩) 1 1)] 28)):=(AC.refl _).alloc _;have kc:=kca.trans kcb;have hmc:m<=yb.heap.size:=Nat.le_of_lt (Nat.lt_of_le_of_lt Nb.ob.base.1 Nb.ob.base.2);have oca:BO (yb.alloc (.cells #[.int .i64 (k:Int)] 2)) m (.slice (some ⟨yb.heap.size,0,none⟩) 1 1) [(k:Int)]:=World.ownsRow_lit yb #[.int .i64 (k:Int)] 1 hmc (by decide) rfl;have oc:=World.ownsRow.kept oca kcb.grownBy (by cases (Value.ownBlock (Value.slice (some ⟨yb.heap.size,0,none⟩) 1 1))<;>simp);have Rc:World.ownsRow _ m 28 1 bv.R rv.length rv:=(Nb.keep kc).ob.Ag.own .rws trivial;have hnc:rv.length<=3:=by rw[(Nb.ob).lr];unfold Uo;simp;omega
   go_wp2_with (at_builtin;refine wpList_append_own_at _ rfl _ _ 26 rfl m 28 ig0 (.slice none 0 0) 1 24 Tryz.underlying26 igi igz0 igz1 igz2 rfl (by decide) _ _ _ rfl Rc ⟨_,0,none⟩ 1 1 [(Value.slice (some ⟨yb.heap.size,0,none⟩) 1 1)] rfl rfl (by intro j q hj;match j,hj with|0,hj=>(simp at hj;subst hj;simp[Addr.add])) (by intro q hq;simp at hq;subst hq;rfl) (by unfold maxLen;omega) (by omega) (by simp;omega) ?_)
   intro uc xc Pc Gc _ Bc;obtain⟨hc,HZc⟩:∃l,Hid (l=rv++[(Value.slice (some ⟨yb.heap.size,0,none⟩) 1 1)]):=⟨_,Lib.hid rfl⟩
   have Qc:(Dp 28 (rv++[(Value.slice (some ⟨yb.heap.size,0,none⟩) 1 1)]) uc).own xc m:=by
    show xc.ownsRow m 28 1 uc (rv++[(Value.slice (some ⟨yb.heap.size,0,none⟩) 1 1)]).length (rv++[(Value.slice (some ⟨yb.heap.size,0,none⟩) 1 1)]);rw[List.length_append];exact Pc
   obtain⟨Nc,Cc,Fc⟩:=Nb.WI (u:=(Value.slice (some ⟨yb.heap.size,0,none⟩) 1 1)) kc (fun q hq=>Nat.le_of_eq (Option.some.inj hq)) oc Gc (by rw[AD,AD];exact Bc) Qc;rw[<-HZc.out] at Nc Qc;obtain⟨auc,cuc,huc,-⟩:=Br Qc;subst huc;clear zc0 zc1 zc2 zc3 zc4 zc5 zc6 zc7 Nb Rc Pc Qc Gc Bc oc oca kc kca kcb hnc hmc;go_upto_region 9 with fail
   generalize xc.setCell ⟨D,7,none⟩ (.slice auc hc.length cuc)=yc at *;clear Cc Fc
   obtain⟨bz,hZ,NZ⟩:∃bz:BV,Hid (bz.W = .slice a3 AA.length c3)/\NB w5 yc m D bz [] hc bs D AA (Uo (k+1)):=by
    rw[bJ,<-gQ.out,<-Yx.out];refine⟨_,?_,Nc⟩;exact hW
   clear Nc gQ Yx HZc;go_wp2;go_roundw;case rel=>exact⟨k+1,bz,hc,by omega,by go_num,hZ,NZ⟩
   case measure=>simp[intOf];omega
  obtain rfl:k=3:=by omega
  have N7:NB w5 wr m D bv [] rv bs D AA (Ym 0):=NR;clear NR A5 hlt hk;rw[show ((3:Nat):Int)=3 from rfl];go_wp2;obtain⟨wo,rfl⟩:∃wo:World,wo=wr:=⟨_,rfl⟩;go_loopw [42] (fun i wr=>∃(k:Nat) (bv:BV) (nv:List Value),k<=AA.length/\i = .int .i64 k/\Hid (bv.W = .slice a3 AA.length c3)/\NB w5 wr m D bv nv rv bs D AA (Ym k)) (fun i _=>AA.length-(intOf i).toNat)
  case atStart=>exact⟨0,bv,[],Nat.zero_le _,rfl,hW,N7⟩
  case round=>
   clear N7 hW;obtain⟨k,bv,nv,hk,rfl,hW,NR⟩:=hrel;by_cases hlt:k<AA.length
   ·
    have i1:(0:Int)<=(k:Int):=Int.natCast_nonneg _;have i2:(k:Int)<(AA.length:Int):=by omega
    obtain⟨xI,xJ,xK,xM,xO,xQ,xU,xV⟩:=NR.ob.cells;have kaa:AC wr (wr.alloc (.cells #[] 104)):=(AC.refl wr).alloc _;have kab:AC (wr.alloc (.cells #[] 104)) ((wr.alloc (.cells #[] 104)).alloc (.cells #[(Value.slice (some ⟨wr.heap.size,0,none⟩) 0 0)] 101)):=(AC.refl _).alloc _;have ka:=kaa.trans kab;have hma:m<=wr.heap.size:=Nat.le_of_lt (Nat.lt_of_le_of_lt NR.ob.base.1 NR.ob.base.2);have oaa:Bz cN 104 3 (wr.alloc (.cells #[] 104)) m (.slice (some ⟨wr.heap.size,0,none⟩) 0 0) []:=World.ownsRow_lit wr #[] 0 hma (by decide) rfl;have oa:=World.ownsRow.kept oaa kab.grownBy (by cases (Value.ownBlock (Value.slice (some ⟨wr.heap.size,0,none⟩) 0 0))<;>simp);have Ra:World.ownsRow _ m 101 1 bv.N nv.length nv:=(NR.keep ka).ob.Ag.own .AG trivial;have hna:nv.length<=3:=by rw[(NR.ob).ln];unfold Ym;simp;omega
    go_wp2_with (at_builtin;refine wpList_append_own_at _ rfl _ _ 34 rfl m 101 ng0 (.slice none 0 0) 1 24 Tryz.underlying34 ngi ngz0 ngz1 ngz2 rfl (by decide) _ _ _ rfl Ra ⟨_,0,none⟩ 1 1 [(Value.slice (some ⟨wr.heap.size,0,none⟩) 0 0)] rfl rfl (by intro j q hj;match j,hj with|0,hj=>(simp at hj;subst hj;simp[Addr.add])) (by intro q hq;simp at hq;subst hq;rfl) (by unfold maxLen;omega) (by omega) (by simp;omega) ?_)
    intro ua xa Pa Ga _ Ba;obtain⟨ha,gQ⟩:∃l,Hid (l=nv++[(Value.slice (some ⟨wr.heap.size,0,none⟩) 0 0)]):=⟨_,Lib.hid rfl⟩
    have Qa:(Dp 101 (nv++[(Value.slice (some ⟨wr.heap.size,0,none⟩) 0 0)]) ua).own xa m:=by
     show xa.ownsRow m 101 1 ua (nv++[(Value.slice (some ⟨wr.heap.size,0,none⟩) 0 0)]).length (nv++[(Value.slice (some ⟨wr.heap.size,0,none⟩) 0 0)]);rw[List.length_append];exact Pa
    obtain⟨Na,Ca,Fa⟩:=NR.TE (u:=(Value.slice (some ⟨wr.heap.size,0,none⟩) 0 0)) ka (fun q hq=>Nat.le_of_eq (Option.some.inj hq)) oa Ga (by rw[AD,AD];exact Ba) Qa;rw[<-gQ.out] at Na Qa;obtain⟨uO,vC,wC,-⟩:=Br Qa;subst wC;clear xI xJ xK xM xO xQ xU xV NR Ra Pa Qa Ga Ba oa oaa ka kaa kab hna hma;go_upto_region 13 with fail
    generalize xa.setCell ⟨D,3,none⟩ (.slice uO ha.length vC)=ya at *;clear Ca Fa;have Ab:=Na.keep ((AC.refl ya).alloc (.cells #[.int .i64 (0:Int)] 2));obtain⟨xY,xZ,xg,xh,xk,xq,xu,yA⟩:=Na.ob.cells;go_wp2_with (at_builtin;refine A6 rfl _ _ rfl m _ _ rfl Ab.ob.oX _ rfl [(0:Int)] (OI ya (0:Int)) (by unfold Ym;simp;omega) (by simp) (Nat.le_of_lt (Nat.lt_of_le_of_lt Ab.ob.base.1 Ab.ob.base.2)) ?_)
    intro ub xb Ob Gb Bb;obtain⟨lb,Yx⟩:∃l,Hid (l=(Ym k).AK++[(0:Int)]):=⟨_,Lib.hid rfl⟩;replace Ob:BO xb m ub ((Ym k).AK++[(0:Int)]):=Ob;rw[<-Yx.out] at Ob;obtain⟨Nb,Cb,Fb⟩:=Ab.Z4 Gb (by rw[AD];exact Bb) Ob;obtain⟨uQ,vD,hub,-⟩:=id Ob.rd;subst hub;clear xY xZ xg xh xk xq xu yA Ab Na Ob Gb Bb;go_upto_region 14 with fail
    generalize xb.setCell ⟨D,4,none⟩ (.slice uQ lb.length vD)=yb at *;clear Cb Fb
    obtain⟨bz,hZ,NZ⟩:∃bz:BV,Hid (bz.W = .slice a3 AA.length c3)/\NB w5 yb m D bz ha rv bs D AA (Ym (k+1)):=by
     rw[bK,<-Yx.out];refine⟨_,?_,Nb⟩;exact hW
    clear Nb gQ Yx;go_wp2;go_roundw;case rel=>exact⟨k+1,bz,ha,by omega,by go_num,hZ,NZ⟩
    case measure=>simp[intOf];omega
   have N8:NB w5 wr m D bv nv rv bs D AA (Up AA.length 0):=by
    rw[show k=AA.length by omega] at NR;exact NR
   have K8:AC w wr:=K5.grown NR.sm (fun q hq=>by have:=Option.some.inj hq;omega);obtain rfl:k=AA.length:=by omega
   clear NR hlt hk;go_wp2_with fail
   refine (CE _ K8).mono ?_;rintro e w9 ⟨v9,rfl,A9,k9⟩;have N9:=N8.keep k9;have CR:=Ed w9 _ _ A9.rd (by have:=Bu AA;omega);obtain⟨a9,c9,hv9,-⟩:=id A9.rd;subst hv9;clear A9 N8;go_wp2_with fail
   refine CR.mono ?_;rintro e w10 ⟨v10,rfl,O10,k10⟩;have N10:=N9.keep k10;have HN:Hid (CM AA=Up AA.length (AV Ad (AB AA)).length):=Lib.hid rfl;have ln:=Hw Ad (AB AA);obtain⟨a10,c10,hv10,-⟩:=id O10.rd;subst hv10;clear O10 N9 CR CE;generalize (AV Ad (AB AA)).length=R at *;go_wp2;go_loopw [60] (fun i wr=>∃(k:Nat) (bv:BV),k<=R/\i = .int .i64 k/\Hid (bv.W = .slice a3 AA.length c3)/\NB w5 wr m D bv nv rv bs D AA (Up AA.length k)) (fun i _=>R-(intOf i).toNat)
   case atStart=>exact⟨0,bv,Nat.zero_le _,rfl,hW,N10⟩
   case round=>
    clear N10 hW;obtain⟨k,bv,hk,rfl,hW,NR⟩:=hrel;by_cases hlt:k<R
    ·
     have i1:(0:Int)<=(k:Int):=Int.natCast_nonneg _;have i2:(k:Int)<(R:Int):=by omega
     have Aa:=NR.keep ((AC.refl wr).alloc (.cells #[.int .i64 (-1:Int)] 2));obtain⟨xI,xJ,xK,xM,xO,xQ,xU,xV⟩:=NR.ob.cells;go_wp2_with (at_builtin;refine A6 rfl _ _ rfl m _ _ rfl Aa.ob.oS _ rfl [(-1:Int)] (OI wr (-1:Int)) (by unfold Up;simp;omega) (by simp) (Nat.le_of_lt (Nat.lt_of_le_of_lt Aa.ob.base.1 Aa.ob.base.2)) ?_)
     intro ua xa Oa Ga Ba;obtain⟨la,gQ⟩:∃l,Hid (l=(Up AA.length k).sn++[(-1:Int)]):=⟨_,Lib.hid rfl⟩;replace Oa:BO xa m ua ((Up AA.length k).sn++[(-1:Int)]):=Oa;rw[<-gQ.out] at Oa;obtain⟨Na,Ca,Fa⟩:=Aa.Vo Ga (by rw[AD];exact Ba) Oa;obtain⟨uO,vC,wC,-⟩:=id Oa.rd;subst wC;clear xI xJ xK xM xO xQ xU xV Aa NR Oa Ga Ba;go_upto_region 18 with fail
     generalize xa.setCell ⟨D,5,none⟩ (.slice uO la.length vC)=ya at *;clear Ca Fa;have Ab:=Na.keep ((AC.refl ya).alloc (.cells #[.int .i64 (-1:Int)] 2));obtain⟨xY,xZ,xg,xh,xk,xq,xu,yA⟩:=Na.ob.cells;go_wp2_with (at_builtin;refine A6 rfl _ _ rfl m _ _ rfl Ab.ob.oF _ rfl [(-1:Int)] (OI ya (-1:Int)) (by unfold Up;simp;omega) (by simp) (Nat.le_of_lt (Nat.lt_of_le_of_lt Ab.ob.base.1 Ab.ob.base.2)) ?_)
     intro ub xb Ob Gb Bb;obtain⟨lb,Yx⟩:∃l,Hid (l=(Up AA.length k).fr++[(-1:Int)]):=⟨_,Lib.hid rfl⟩;replace Ob:BO xb m ub ((Up AA.length k).fr++[(-1:Int)]):=Ob;rw[<-Yx.out] at Ob;obtain⟨Nb,Cb,Fb⟩:=Ab.Vm Gb (by rw[AD];exact Bb) Ob;obtain⟨uQ,vD,hub,-⟩:=id Ob.rd;subst hub;clear xY xZ xg xh xk xq xu yA Ab Na Ob Gb Bb;go_upto_region 19 with fail
     generalize xb.setCell ⟨D,6,none⟩ (.slice uQ lb.length vD)=yb at *;clear Cb Fb
     obtain⟨bz,hZ,NZ⟩:∃bz:BV,Hid (bz.W = .slice a3 AA.length c3)/\NB w5 yb m D bz nv rv bs D AA (Up AA.length (k+1)):=by
      rw[bM,<-gQ.out,<-Yx.out];refine⟨_,?_,Nb⟩;exact hW
     clear Nb gQ Yx;go_wp2;go_roundw;case rel=>exact⟨k+1,bz,by omega,by go_num,hZ,NZ⟩
     case measure=>simp[intOf];omega
    obtain rfl:k=R:=by omega
    have KZ:AC w wr:=K5.grown NR.sm (fun q hq=>by have:=Option.some.inj hq;omega);have LZ:=LW5.out.kept NR.sm NR.ob.nD;rw[<-hW.out] at LZ;have OA:=NR.ob.all LZ hbs;have mh:=(NR.sm.block w.heap.size (by have:=K5.size;omega) (fun e=>by have:=Option.some.inj e;omega)).trans hR5.out;have JD:=NR.ob.MG;rw[<-HN.out] at OA;clear NR LZ;obtain⟨nb,hnb⟩:∃nb,nb=CM AA:=⟨_,rfl⟩;rw[<-hnb] at OA;have rQ:=Lib.hid hnb;clear hnb;obtain⟨vW,vP,vL,vN,vX,vS,vF,vR⟩:=bv;obtain⟨bW,bP,bL,bN,bX,bS,bF,bR,dW,dP,dL,dN,dX,dS,dF,dR,hsh⟩:=OA.rd.shapes;injection hsh with e1 e2 e3 e4 e5 e6 e7 e8;subst e1 e2 e3 e4 e5 e6 e7 e8;have HG:=Lib.hid (An wr w.heap.size #[.slice bW AA.length dW,.slice bP nb.AM.length dP,.slice bL nb.AQ.length dL,.slice bN nb.AG.length dN,.slice bX nb.AK.length dX,.slice bS nb.sn.length dS,.slice bF nb.fr.length dF,.slice bR nb.rws.length dR]);have HZ:=Lib.hid (setRow_heap wr w.heap.size _ #[.slice bW AA.length dW,.slice bP nb.AM.length dP,.slice bL nb.AQ.length dL,.slice bN nb.AG.length dN,.slice bX nb.AK.length dX,.slice bS nb.sn.length dS,.slice bF nb.fr.length dF,.slice bR nb.rws.length dR] _ _ mh);have HO:=Lib.hid (OA.far HG.out hmw);have HK:=Lib.hid (KZ.grown HG.out (fun q hq=>Nat.le_of_eq (Option.some.inj hq)));simp only[BV.arr] at JD;clear OA KZ hD hD5 hbs LW5 hW hlt hk;go_wp2_with (first|refine wpList_load_row rfl 36 _ rfl D rfl 36 _ (0,0) _ JD Tryz.underlying36 rfl AL ?_|refine wpList_store_row rfl 36 _ _ rfl w.heap.size _ rfl rfl 36 _ mh AL rfl (by simp[Value.oneCell']) ?_|fail)
    refine bodyPost_ret (CJ (by rfl) _ _ w.heap.size _ _ (0,0) _ rfl HZ.out Tryz.underlying36 rfl AL) rfl ?_;exact⟨⟨.slice bW AA.length dW,.slice bP nb.AM.length dP,.slice bL nb.AQ.length dL,.slice bN nb.AG.length dN,.slice bX nb.AK.length dX,.slice bS nb.sn.length dS,.slice bF nb.fr.length dF,.slice bR nb.rws.length dR⟩,nv,rv,_,rfl,by rw[<-rQ.out];exact⟨HO.out.Ag.Ry (Nat.le_of_lt hmw),HO.out.ln,HO.out.lr,HO.out.lw⟩,HK.out⟩
theorem Sw (w:World)(v:Value)(AA:List (List Dd))(h:Fz w v AA)(hb:AO AA=false)(hx:AA.length<=1048576)(hm:∀i,i<AA.length->(AA.getD i []).length<=1048576):
  Calls Tryz.prog 92 #[v] w fun e w'=>e=PN/\AC w w':=by
 have CW:=fun (W:World) (kW:AC w W)=>DA W _ AA (h.keep kW) hx hm
 rw[hb] at CW;obtain⟨aD,yg,rfl,-⟩:=id h;clear h hm hb;go_enter Tryz.func92,Tryz.ntmps92
 go_wp2_with fail
 refine (CW _ ((AC.refl w).alloc _)).mono ?_;rintro e w2 ⟨rfl,k2⟩;go_wp2_with fail
 refine (Gl _).mono ?_;rintro e w3 ⟨rfl,rfl⟩;go_wp2;exact⟨rfl,rfl,((AC.refl w).alloc _).trans k2⟩
theorem bZ (p0 p1:Addr)(w:World):CallsD Tryz.prog 91 #[.pointer (some p0),.pointer (some p1)] .returning w fun e u' w'=>e = .returned (.tuple #[])/\u' = .returning/\w'=w:=by
 refine callsD_of_wpS Tryz.func91 rfl fun c₀ cs hu=>?_
 apply wpS_seq;apply wpS_region;have hn:∀w:World,(binOp BinOp.neq 20 .nilIface .nilIface).run Tryz.prog w = .ok (.bool false) w:=fun _=>by kernel_rfl
 simp[wpOpsS,go_sem,recoverD,hu,Tryz.ntmps91,Exit.thenS,hn];refine wpS_cond (t:=false) (by simp[Act.eval,Array.replicate]) ?_;simp only[Bool.false_eq_true,if_false];refine wpS_of_wp (wp_skip ?_);cases c₀;simp_all [bodyPostS,results,Tryz.results91]
theorem kH (g g':Nat)(hne:g'≠g)(w:World)(old:Array Value)(ho:old.size=8)(x':Value)(hg:w.heap[g]? = some (.cells old 36 (0,0)))(hg':w.heap[g']? = some (.cells #[x'] 4 (0,0))):
  CallsD Tryz.prog 91 #[.pointer (some ⟨g,0,none⟩),.pointer (some ⟨g',0,none⟩)] (.panicking [{ v:=YI,recovered:=false }]) w fun e u' w'=>e = .returned (.tuple #[])/\u' = .panicking [{ v:=YI,recovered:=true }]/\w'=(w.setRow g #[AE,AE,AE,AE,AE,AE,AE,AE]).setCell ⟨g',0,none⟩ (.bool false):=by
 have hg2:(w.setRow g #[AE,AE,AE,AE,AE,AE,AE,AE]).heap[g']? = some (.cells #[x'] 4 (0,0)):=((An w g #[AE,AE,AE,AE,AE,AE,AE,AE]).block g' (Array.getElem?_eq_some_iff.1 hg').1 (fun e=>hne (Option.some.inj e))).trans hg';have hc2:(w.setRow g #[AE,AE,AE,AE,AE,AE,AE,AE]).cell? ⟨g',0,none⟩=some x':=by rw[cell_of_row _ g' 0 _ _ _ hg2];rfl
 have hf2:(w.setRow g #[AE,AE,AE,AE,AE,AE,AE,AE]).frozen? ⟨g',0,none⟩=false:=frozen_of_row _ g' 0 _ _ hg2;have hv:∀w:World,(binOp BinOp.neq 20 YI .nilIface).run Tryz.prog w = .ok (.bool true) w:=fun _=>by kernel_rfl
 refine callsD_of_wpS Tryz.func91 rfl fun c₀ cs hu=>?_
 apply wpS_seq;apply wpS_region;simp[wpOpsS,go_sem,recoverD,hu,Tryz.ntmps91,Exit.thenS,hv];refine wpS_cond (t:=true) (by simp[Act.eval,Array.replicate]) ?_;simp only[if_true];refine wpS_of_wp ?_;go_wp2_with (first|refine wpList_store_row rfl 36 _ _ rfl g _ rfl rfl 36 _ hg AL ho (by simp[Value.oneCell']) ?_|fail)
 cases c₀;simp_all [bodyPostS,results,Tryz.results91]
theorem Gz {P:Program}{fn:Func}{p q:Tmp}{ty ty':TypeId}(h:fn.results=#[.cell p ty,.cell q ty'])(tmps:Array Value)(w:World)(g g':Nat)(t:TypeId)(cs:Array Value)(fr:Nat×Nat)(d:TypeDesc){x:Value}
  (hp:tmps.getD p undef = .pointer (some ⟨g,0,none⟩)) (hg:w.heap[g]? = some (.cells cs t fr)) (hq:tmps.getD q undef = .pointer (some ⟨g',0,none⟩)) (hc:w.cell? ⟨g',0,none⟩=some x)
  (hu:P.underlying ty=some d) (hd:(match d with | .struct _ | .array _ _=>true|_=>false)=true) (hi:(P.info? ty).map (·.size)=some cs.size) (hagg:(isAgg ty').run P w = .ok false w):
  (results fn tmps).run P w = .ok (.tuple #[.agg cs,x]) w:=by
 have hp':tmps[p]?.getD undef = .pointer (some ⟨g,0,none⟩):=by simpa using hp
 have hq':tmps[q]?.getD undef = .pointer (some ⟨g',0,none⟩):=by simpa using hq
 have hl:(loadVar ty' ⟨g',0,none⟩).run P w = .ok x w:=by
  simp[Sem.run_bind,Result.andThen,loadVar,load,hagg];simp[Sem.run,hc]
 simp[results,h,hp',hq',asAddr,run_loadVar_row w g t ty cs fr d hg hu hd hi,hl]
theorem P0 (w:World)(m:Nat):Ei w m Rz [] [] [] [] Mt:=by
 have hv:∀i,Eg [] [] [] i->(JC Rz [] [] [] [] Mt i).v.ownBlock=none:=fun i hi=>by
  cases i with
  |wk=>rfl
  |wd c=>exact absurd (show c<0 from hi) (by omega)
  |b i=>
   cases i with
   |bd=>exact absurd rfl hi.2
   |nt c=>exact absurd (show c<0 from hi.1) (by omega)
   |rw c=>exact absurd (show c<0 from hi.1) (by omega)
   |_=>rfl
 refine⟨⟨fun i hi=>?_,fun i j hi _ _ => .inl (hv i hi)⟩,rfl,rfl,rfl⟩
 cases i with
 |wk=>exact⟨rfl,.inl ⟨rfl,rfl⟩⟩
 |wd c=>exact absurd (show c<0 from hi) (by omega)
 |b i=>
  cases i with
  |bd=>exact absurd rfl hi.2
  |nt c=>exact absurd (show c<0 from hi.1) (by omega)
  |rw c=>exact absurd (show c<0 from hi.1) (by omega)
  |_=>exact⟨rfl,.inl ⟨rfl,rfl⟩⟩
theorem Lc (w:World)(v:Value)(AA:List (List Dd))(h:Fz w v AA)(hx:AA.length<=1048576)(hm:∀i,i<AA.length->(AA.getD i []).length<=1048576):
  Calls Tryz.prog 62 #[v] w fun e w'=>∃bv:BV,e = .returned (.tuple #[bv.agg,.bool (AO AA)])/\CX w' w.heap.size w'.heap.size bv (Ma AA) (PB AA)/\AC w w':=by
 have CN:=fun (W:World) (kW:AC w W) (e:AO AA=false)=>Sw W _ AA (h.keep kW) e hx hm
 have CY:=fun (W:World) (kW:AC w W) (e:AO AA=true)=>Qz W _ AA (h.keep kW) e hx hm
 have HD:Hid (Ma AA=if AO AA=true then AA else []):=Lib.hid rfl;have HB:Hid (PB AA=if AO AA=true then CM AA else Mt):=Lib.hid rfl;obtain⟨aD,yg,rfl,-⟩:=id h;clear h hm;have hmf:∀(fn:Fn) (first cap:Array Value) (w:World),(Instr.makeFunc fn first cap).run Tryz.prog w = .ok (.func fn first cap) w:=fun _ _ _ _=>rfl
 obtain⟨w1,hw1⟩:∃W:World,W=((w.alloc (.cells #[AE,AE,AE,AE,AE,AE,AE,AE] 36)).alloc (.cells #[.bool false] 4)):=⟨_,rfl⟩;have K1:AC w w1:=by rw[hw1];exact ((AC.refl w).alloc _).alloc _
 have s1:w1.heap.size=w.heap.size+2:=by rw[hw1,AD,AD]
 have hV1:w1.heap[w.heap.size+1]? = some (.cells #[.bool false] 4 (0,0)):=by
  rw[hw1,B7,if_pos (by rw[AD])]
 have hR1:w1.heap[w.heap.size]? = some (.cells #[AE,AE,AE,AE,AE,AE,AE,AE] 36 (0,0)):=by rw[hw1];exact (Below.block ((AC.refl _).alloc _) _ (by rw[AD];omega)).trans (heap_alloc_new _ _)
 go_enter_defers Tryz.func62,Tryz.ntmps62
 go_upto_region 2 with fail
 rw[<-hw1];clear hw1;cases hb:AO AA
 ·
  have C:=CN _ K1 hb;have zI:Hid (Ma AA=[]):=Lib.hid (by rw[HD.out,hb];rfl);have yD:Hid (PB AA=Mt):=Lib.hid (by rw[HB.out,hb];rfl);clear CN CY HD HB;go_wp2_with fail
  refine C.mono ?_;rintro e w2 ⟨rfl,k2⟩;have K2:=K1.trans k2;have z2:=k2.size;have hR2:=(Below.block k2 w.heap.size (by omega)).trans hR1;have hV2:=(Below.block k2 (w.heap.size+1) (by omega)).trans hV1;have g3:=An w2 w.heap.size #[AE,AE,AE,AE,AE,AE,AE,AE];have h3:=setRow_heap w2 w.heap.size _ #[AE,AE,AE,AE,AE,AE,AE,AE] _ _ hR2;have v3:=(g3.block (w.heap.size+1) (by omega) (fun e=>by have:=Option.some.inj e;omega)).trans hV2;have v4:=heap_setCell_same _ (w.heap.size+1) 0 _ _ (.bool false) v3;have h4:=(heap_setCell_other (w2.setRow w.heap.size #[AE,AE,AE,AE,AE,AE,AE,AE]) ⟨w.heap.size+1,0,none⟩ w.heap.size (.bool false) (by show w.heap.size≠w.heap.size+1;omega)).trans h3;have g4:=Ae (w2.setRow w.heap.size #[AE,AE,AE,AE,AE,AE,AE,AE]) (w.heap.size+1) 0 (.bool false);have HR3:=Lib.hid h4;have HC3:Hid (((w2.setRow w.heap.size #[AE,AE,AE,AE,AE,AE,AE,AE]).setCell ⟨w.heap.size+1,0,none⟩ (.bool false)).cell? ⟨w.heap.size+1,0,none⟩=some (.bool false)):=Lib.hid (by rw[cell_of_row _ _ 0 _ _ _ v4];rfl);have KZ:=Lib.hid ((K2.grown g3 (fun k hk=>by have:=Option.some.inj hk;omega)).grown g4 (fun k hk=>by have:=Option.some.inj hk;omega));have c3:(w2.setRow w.heap.size #[AE,AE,AE,AE,AE,AE,AE,AE]).cell? ⟨w.heap.size+1,0,none⟩=some (.bool false):=by rw[cell_of_row _ _ 0 _ _ _ v3];rfl
  have f3:=frozen_of_row (w2.setRow w.heap.size #[AE,AE,AE,AE,AE,AE,AE,AE]) (w.heap.size+1) 0 _ _ v3;clear g3 h3 v3 v4 h4 g4 c3 f3 hR1 hV1;go_wp2;refine leaves_cons (f:=91) (args:=#[.pointer (some ⟨w.heap.size,0,none⟩),.pointer (some ⟨w.heap.size+1,0,none⟩)]) (by simp) (by simp[go_sem]) ?_;refine (kH _ _ (by omega) _ _ rfl _ hR2 hV2).mono ?_;rintro e u' w9 ⟨rfl,rfl,rfl⟩;have hres:=fun (tmps:Array Value) (h0:tmps.getD 2 undef = .pointer (some ⟨w.heap.size,0,none⟩)) (h1:tmps.getD 3 undef = .pointer (some ⟨w.heap.size+1,0,none⟩))=>Gz (P:=Tryz.prog) (fn:=Tryz.f62) (by rfl) tmps _ w.heap.size (w.heap.size+1) 36 _ (0,0) _ h0 HR3.out h1 HC3.out Tryz.underlying36 rfl AL (by kernel_rfl)
  show ∃v,(results _ _).run Tryz.prog _ = .ok v _/\_;refine⟨_,hres _ rfl rfl,?_⟩;exact⟨Rz,by rw[hb],by rw[zI.out,yD.out];exact (P0 _ _).free,KZ.out⟩
 ·
  have C:=CY _ K1 hb;have zI:Hid (Ma AA=AA):=Lib.hid (by rw[HD.out,hb];rfl);have yD:Hid (PB AA=CM AA):=Lib.hid (by rw[HB.out,hb];rfl);clear CN CY HD HB;go_wp2_with fail
  refine C.mono ?_;rintro e w2 ⟨bv,nv,rv,wv,rfl,OA,k2⟩;have K2:=K1.trans k2;have z2:=k2.size;have hR2:=(Below.block k2 w.heap.size (by omega)).trans hR1;have hV2:=(Below.block k2 (w.heap.size+1) (by omega)).trans hV1;obtain⟨nb,hnb⟩:∃nb,nb=CM AA:=⟨_,rfl⟩;rw[<-hnb] at OA yD;clear hnb C;obtain⟨vW,vP,vL,vN,vX,vS,vF,vR⟩:=bv;obtain⟨bW,bP,bL,bN,bX,bS,bF,bR,dW,dP,dL,dN,dX,dS,dF,dR,hsh⟩:=OA.rd.shapes;injection hsh with e1 e2 e3 e4 e5 e6 e7 e8;subst e1 e2 e3 e4 e5 e6 e7 e8;have g3:=An w2 w.heap.size #[.slice bW AA.length dW,.slice bP nb.AM.length dP,.slice bL nb.AQ.length dL,.slice bN nb.AG.length dN,.slice bX nb.AK.length dX,.slice bS nb.sn.length dS,.slice bF nb.fr.length dF,.slice bR nb.rws.length dR];have h3:=setRow_heap w2 w.heap.size _ #[.slice bW AA.length dW,.slice bP nb.AM.length dP,.slice bL nb.AQ.length dL,.slice bN nb.AG.length dN,.slice bX nb.AK.length dX,.slice bS nb.sn.length dS,.slice bF nb.fr.length dF,.slice bR nb.rws.length dR] _ _ hR2;have v3:=(g3.block (w.heap.size+1) (by omega) (fun e=>by have:=Option.some.inj e;omega)).trans hV2;have v4:=heap_setCell_same _ (w.heap.size+1) 0 _ _ (.bool true) v3;have h4:=(heap_setCell_other (w2.setRow w.heap.size #[.slice bW AA.length dW,.slice bP nb.AM.length dP,.slice bL nb.AQ.length dL,.slice bN nb.AG.length dN,.slice bX nb.AK.length dX,.slice bS nb.sn.length dS,.slice bF nb.fr.length dF,.slice bR nb.rws.length dR]) ⟨w.heap.size+1,0,none⟩ w.heap.size (.bool true) (by show w.heap.size≠w.heap.size+1;omega)).trans h3;have g4:=Ae (w2.setRow w.heap.size #[.slice bW AA.length dW,.slice bP nb.AM.length dP,.slice bL nb.AQ.length dL,.slice bN nb.AG.length dN,.slice bX nb.AK.length dX,.slice bS nb.sn.length dS,.slice bF nb.fr.length dF,.slice bR nb.rws.length dR]) (w.heap.size+1) 0 (.bool true);have HR3:=Lib.hid h4;have HC3:Hid (((w2.setRow w.heap.size #[.slice bW AA.length dW,.slice bP nb.AM.length dP,.slice bL nb.AQ.length dL,.slice bN nb.AG.length dN,.slice bX nb.AK.length dX,.slice bS nb.sn.length dS,.slice bF nb.fr.length dF,.slice bR nb.rws.length dR]).setCell ⟨w.heap.size+1,0,none⟩ (.bool true)).cell? ⟨w.heap.size+1,0,none⟩=some (.bool true)):=Lib.hid (by rw[cell_of_row _ _ 0 _ _ _ v4];rfl);have KZ:=Lib.hid ((K2.grown g3 (fun k hk=>by have:=Option.some.inj hk;omega)).grown g4 (fun k hk=>by have:=Option.some.inj hk;omega));have c3:(w2.setRow w.heap.size #[.slice bW AA.length dW,.slice bP nb.AM.length dP,.slice bL nb.AQ.length dL,.slice bN nb.AG.length dN,.slice bX nb.AK.length dX,.slice bS nb.sn.length dS,.slice bF nb.fr.length dF,.slice bR nb.rws.length dR]).cell? ⟨w.heap.size+1,0,none⟩=some (.bool false):=by rw[cell_of_row _ _ 0 _ _ _ v3];rfl
  have f3:=frozen_of_row (w2.setRow w.heap.size #[.slice bW AA.length dW,.slice bP nb.AM.length dP,.slice bL nb.AQ.length dL,.slice bN nb.AG.length dN,.slice bX nb.AK.length dX,.slice bS nb.sn.length dS,.slice bF nb.fr.length dF,.slice bR nb.rws.length dR]) (w.heap.size+1) 0 _ _ v3;have O4:=Lib.hid ((OA.far g3 (by omega)).far g4 (by omega));clear g3 h3 v3 v4 h4 g4 hR1 hV1 OA;go_wp2_with (first|refine wpList_store_row rfl 36 _ _ rfl w.heap.size _ rfl rfl 36 _ hR2 AL rfl (by simp[Value.oneCell']) ?_|fail)
  refine leaves_cons (f:=91) (args:=#[.pointer (some ⟨w.heap.size,0,none⟩),.pointer (some ⟨w.heap.size+1,0,none⟩)]) (by simp) (by simp[go_sem]) ?_;refine (bZ _ _ _).mono ?_;rintro e u' w9 ⟨rfl,rfl,rfl⟩;have hres:=fun (tmps:Array Value) (h0:tmps.getD 2 undef = .pointer (some ⟨w.heap.size,0,none⟩)) (h1:tmps.getD 3 undef = .pointer (some ⟨w.heap.size+1,0,none⟩))=>Gz (P:=Tryz.prog) (fn:=Tryz.f62) (by rfl) tmps _ w.heap.size (w.heap.size+1) 36 _ (0,0) _ h0 HR3.out h1 HC3.out Tryz.underlying36 rfl AL (by kernel_rfl)
  show ∃v,(results _ _).run Tryz.prog _ = .ok v _/\_;refine⟨_,hres _ rfl rfl,?_⟩;exact⟨⟨_,_,_,_,_,_,_,_⟩,by rw[hb],by rw[zI.out,yD.out];exact Ei.free ⟨O4.out.Ag.Ry (by omega),O4.out.ln,O4.out.lr,O4.out.lw⟩,KZ.out⟩
end Go.Proofs.YtnmelakgmgenjaaGreat
