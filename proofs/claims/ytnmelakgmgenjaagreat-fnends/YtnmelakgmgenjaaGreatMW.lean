/- Gathered texts. -/
import Derived.Test.YtnmelakgmgenjaaGreatMV
import Derived.BigQuiet
import Derived.Deep.Cut
import Derived.RegionTactic
import Derived.Test.YtnmelakgmgenjaaGreatMT
import Derived.Maps.AppendAt
import Derived.Defers
import Derived.Recover
import Derived.Lib.Hide
import Derived.Laws.Rows
set_option maxRecDepth 100000
set_option maxHeartbeats 8000000
namespace Go.Proofs.YtnmelakgmgenjaaGreat
open Go.ChangeShapes Go.WideShapes Go.ChangeAt Go.RowKit
theorem aZ (w:World)(m:Nat)(v:BV)(nv rv:List Value)(bs N:Nat)(AA:List (List Dd))(b:Bd)(n c:Nat)(h:BG w m v nv rv bs N AA b)(S:Di AA b n)(hn:n<=900)(hm:m<=w.heap.size)(hc:c<AA.length)(h0:0<=b.AL.getD c 0)(hk:Ao b c<(AA.getD c []).length)(h3:(Al AA c (Ao b c)).1=3->b.AG.getD c []=[]):
  Calls Tryz.prog 133 #[v.agg,.int .i64 c] w fun e w'=>e = .returned (.tuple #[])/\∃nv' rv',BG w' m v nv' rv' bs N AA (Am AA (AB AA) b (c:Int))/\Ak w w' (Db v nv rv) (Db v nv' rv'):=by
 have hd3:AA.length<=3:=(Ay S.work).1;have WK0:=Lib.hid (WK.start S hn hc h0 hk (by omega));obtain⟨T,hT⟩:∃T,T=Am AA (AB AA) b (c:Int):=⟨_,rfl⟩;obtain⟨g,hg⟩:∃g,g=BP AA c (Ao b c):=⟨_,rfl⟩;rw[<-hT,<-hg] at WK0;have h5:=Da S.work hc;have xM:=Lib.hid (CG S.work hc);have lX:c<b.AL.length:=by rw[S.AL];exact hc
 have XS:=Lib.hid S;obtain⟨aW,aP,aL,aN,aX,aS,aF,aR,cW,cP,cL,cQ,cX,cS,cF,cR,rfl⟩:=h.rd0.shapes;have O1:=h.box hm;obtain⟨gx,cx,ex,-⟩:=O1.oX.lit lX;simp only[Value.slice.injEq] at ex;obtain⟨rfl,-,rfl⟩:=ex;obtain⟨a',c',ew,hW⟩:=O1.rd.W;simp only[Value.slice.injEq] at ew;obtain⟨rfl,-,rfl⟩:=ew;rcases hW with q|⟨bw,ow,rfl,hbw,hcw⟩
 . exfalso;rw[q] at hc;simp at hc
 obtain⟨vd,dw,rd⟩:=hcw c hc;obtain⟨ds,hds⟩:∃ds,ds=AA.getD c []:=⟨_,rfl⟩;rw[<-hds] at rd h5;obtain⟨ad,cd,rfl,-⟩:=id rd;have CN:=JV w;obtain⟨w1,hw1⟩:∃W:World,W=w.alloc (.cells #[.slice (some ⟨bw,ow,none⟩) AA.length cW,.slice aP b.AM.length cP,.slice aL b.AO.length cL,.slice aN b.AG.length cQ,.slice (some ⟨gx,0,none⟩) b.AL.length cX,.slice aS b.sn.length cS,.slice aF b.fr.length cF,.slice aR b.rws.length cR] 36):=⟨_,rfl⟩;have wI:w1.heap.size=w.heap.size+1:=by rw[hw1,AD]
 have K01:AC w w1:=by rw[hw1];exact (AC.refl w).alloc _
 replace O1:AR w1 m w.heap.size ⟨.slice (some ⟨bw,ow,none⟩) AA.length cW,.slice aP b.AM.length cP,.slice aL b.AO.length cL,.slice aN b.AG.length cQ,.slice (some ⟨gx,0,none⟩) b.AL.length cX,.slice aS b.sn.length cS,.slice aF b.fr.length cF,.slice aR b.rws.length cR⟩ nv rv bs N AA b:=by rw[hw1];exact O1
 replace dw:w1.cell? ⟨bw,ow+c,none⟩=some (.slice ad ds.length (ds.length+cd)):=by rw[hw1];exact dw
 have XO:=Lib.hid O1
 have XL:Hid (∀(W:World) (F':Nat->Prop),Ak w1 W (Db ⟨.slice (some ⟨bw,ow,none⟩) AA.length cW,.slice aP b.AM.length cP,.slice aL b.AO.length cL,.slice aN b.AG.length cQ,.slice (some ⟨gx,0,none⟩) b.AL.length cX,.slice aS b.sn.length cS,.slice aF b.fr.length cF,.slice aR b.rws.length cR⟩ nv rv) F'->MC W (.slice ad ds.length (ds.length+cd)) ds):=Lib.hid (fun W F' t=>by
  obtain⟨a2,c2,e2,hx⟩:=O1.work;simp only[Value.slice.injEq,true_and] at e2;rcases hx with q|⟨b2,o2,q1,q2,q3,q4,q5⟩
  . exfalso;rw[q] at hc;simp at hc
  rw[q1] at e2;simp only[Option.some.injEq,Addr.mk.injEq,and_true] at e2;obtain⟨⟨rfl,rfl⟩,-⟩:=e2;obtain⟨vi,u1,u2,u3⟩:=q5 c hc;rw[dw] at u1;have u4:=Option.some.inj u1;subst u4;rw[<-hds] at u2
  exact (Br.SX (EZ (r:=S6 ds _) u2 (fun g hg=>t.block g (World.ownsRow.lt u2 g hg).2 (fun hB=>by
   have:=(XO.out.blk g (YQ hB)).2.2;have:=(World.ownsRow.lt u2 g hg).1;have:=u3 g hg
   omega)))).rd)
 have XV:=Lib.hid (h.keep K01);have NB:Hid (∀q,Db ⟨.slice (some ⟨bw,ow,none⟩) AA.length cW,.slice aP b.AM.length cP,.slice aL b.AO.length cL,.slice aN b.AG.length cQ,.slice (some ⟨gx,0,none⟩) b.AL.length cX,.slice aS b.sn.length cS,.slice aF b.fr.length cF,.slice aR b.rws.length cR⟩ nv rv q->q<w.heap.size):=Lib.hid (fun q hq=>(h.blk q hq).2.1);have c0:w1.cell? ⟨w.heap.size,0,none⟩=some (.slice (some ⟨bw,ow,none⟩) AA.length cW):=O1.cells.1;have i1:(0:Int)<=(c:Int):=Int.natCast_nonneg _;have i2:(c:Int)<(AA.length:Int):=by omega
 have Gs:=O1.JK;simp only[BV.arr] at Gs;have MB:=Lib.hid hds;have oH:=Lib.hid Gs;have HT:=Lib.hid hT;have hm1:m<=w1.heap.size:=by omega
 have CD:=JV w1 m _ nv rv bs N AA b n c XV.out S (by omega) hm1 hc h0 hk h3;clear hcw O1 h S h3 hds hT hg rd CN hk;go_enter Tryz.func133,Tryz.ntmps133
 go_upto_region 1 with fail
 rw[<-hw1];clear hw1;go_wp2_with (first|refine wpList_load_row rfl 36 _ rfl w.heap.size rfl 36 _ (0,0) _ Gs Tryz.underlying36 rfl AK ?_|fail)
 refine CD.mono ?_;rintro e w2 ⟨rfl,nv2,rv2,V2,T2⟩;have oI:=Lib.hid V2;have XT2:=Lib.hid T2;have nD:∀F',Ak w1 w2 (Db ⟨.slice (some ⟨bw,ow,none⟩) AA.length cW,.slice aP b.AM.length cP,.slice aL b.AO.length cL,.slice aN b.AG.length cQ,.slice (some ⟨gx,0,none⟩) b.AL.length cX,.slice aS b.sn.length cS,.slice aF b.fr.length cF,.slice aR b.rws.length cR⟩ nv rv) F'->w2.heap[w.heap.size]? = w1.heap[w.heap.size]?:=fun F' t=>t.block _ (by omega) (fun q=>by have:=NB.out _ q;omega)
 have hD2:=(nD _ T2).trans Gs;clear V2 T2 nD CD dw c0 Gs XV XO;go_wp2;go_loopw [] (fun wr=>∃(nv' rv':List Value) (b':Bd) (n':Nat),BG wr m ⟨.slice (some ⟨bw,ow,none⟩) AA.length cW,.slice aP b.AM.length cP,.slice aL b.AO.length cL,.slice aN b.AG.length cQ,.slice (some ⟨gx,0,none⟩) b.AL.length cX,.slice aS b.sn.length cS,.slice aF b.fr.length cF,.slice aR b.rws.length cR⟩ nv' rv' bs N AA b'/\Ak w1 wr (Db ⟨.slice (some ⟨bw,ow,none⟩) AA.length cW,.slice aP b.AM.length cP,.slice aL b.AO.length cL,.slice aN b.AG.length cQ,.slice (some ⟨gx,0,none⟩) b.AL.length cX,.slice aS b.sn.length cS,.slice aF b.fr.length cF,.slice aR b.rws.length cR⟩ nv rv) (Db ⟨.slice (some ⟨bw,ow,none⟩) AA.length cW,.slice aP b.AM.length cP,.slice aL b.AO.length cL,.slice aN b.AG.length cQ,.slice (some ⟨gx,0,none⟩) b.AL.length cX,.slice aS b.sn.length cS,.slice aF b.fr.length cF,.slice aR b.rws.length cR⟩ nv' rv')/\WK AA c g T b' n') (fun wr=>match wr.cell? ⟨gx,c,none⟩ with|some x=>ds.length-(intOf x).toNat|none=>0)
 case atStart=>exact⟨nv2,rv2,_,_,oI.out,XT2.out,WK0.out⟩
 case round=>
  obtain⟨nv',rv',b',n',VJ,TJ,KJ⟩:=hrel;clear oI XT2 hD2;have sH:c<b'.AL.length:=by rw[KJ.Xr.AL];exact hc
  obtain⟨gx',cx',ex',lgx,oO,-⟩:=(show BM wr m (BV.X ⟨.slice (some ⟨bw,ow,none⟩) AA.length cW,.slice aP b.AM.length cP,.slice aL b.AO.length cL,.slice aN b.AG.length cQ,.slice (some ⟨gx,0,none⟩) b.AL.length cX,.slice aS b.sn.length cS,.slice aF b.fr.length cF,.slice aR b.rws.length cR⟩) b'.AL from VJ.Ai.own .AL ⟨trivial,by simp⟩).lit sH;have ex2:Value.slice (some ⟨gx,0,none⟩) b.AL.length cX = .slice (some ⟨gx',0,none⟩) b'.AL.length cx':=ex';simp only[Value.slice.injEq,Option.some.injEq,Addr.mk.injEq,and_true] at ex2;obtain⟨k,hkz⟩:=Int.eq_ofNat_of_zero_le KJ.z;have hkn:Ao b' c=k:=by unfold Ao;rw[hkz];rfl
  have jO:wr.cell? ⟨gx,c,none⟩=some (.int .i64 (k:Int)):=by rw[ex2.1,<-hkz];exact oO c sH
  have kM:=Lib.hid KJ;have hle:=KJ.le;rw[hkn,<-MB.out] at hle;have hDr:wr.heap[w.heap.size]? = some (.cells #[.slice (some ⟨bw,ow,none⟩) AA.length cW,.slice aP b.AM.length cP,.slice aL b.AO.length cL,.slice aN b.AG.length cQ,.slice (some ⟨gx,0,none⟩) b.AL.length cX,.slice aS b.sn.length cS,.slice aF b.fr.length cF,.slice aR b.rws.length cR] 36 (0,0)):=(TJ.block _ (by omega) (fun q=>by have:=NB.out _ q;omega)).trans oH.out;have c4:wr.cell? ⟨w.heap.size,4,none⟩=some (.slice (some ⟨gx,0,none⟩) b.AL.length cX):=by rw[cell_of_row wr _ 4 _ _ _ hDr];rfl
  have XVJ:=Lib.hid VJ;have xQ:=Lib.hid TJ;have XLJ:=Lib.hid (XL.out wr _ TJ);have i3:(c:Int)<(b.AL.length:Int):=by omega
  have i4:(0:Int)<=(k:Int):=Int.natCast_nonneg _
  have Xw:Hid (¬(k<ds.length/\Gq ds k=true)->∃nv'' rv'',BG wr m ⟨.slice (some ⟨bw,ow,none⟩) AA.length cW,.slice aP b.AM.length cP,.slice aL b.AO.length cL,.slice aN b.AG.length cQ,.slice (some ⟨gx,0,none⟩) b.AL.length cX,.slice aS b.sn.length cS,.slice aF b.fr.length cF,.slice aR b.rws.length cR⟩ nv'' rv'' bs N AA T/\Ak w wr (Db ⟨.slice (some ⟨bw,ow,none⟩) AA.length cW,.slice aP b.AM.length cP,.slice aL b.AO.length cL,.slice aN b.AG.length cQ,.slice (some ⟨gx,0,none⟩) b.AL.length cX,.slice aS b.sn.length cS,.slice aF b.fr.length cF,.slice aR b.rws.length cR⟩ nv rv) (Db ⟨.slice (some ⟨bw,ow,none⟩) AA.length cW,.slice aP b.AM.length cP,.slice aL b.AO.length cL,.slice aN b.AG.length cQ,.slice (some ⟨gx,0,none⟩) b.AL.length cX,.slice aS b.sn.length cS,.slice aF b.fr.length cF,.slice aR b.rws.length cR⟩ nv'' rv'')):=Lib.hid (fun hno=>by
   obtain⟨mm,-,hT⟩:=kM.out.go;rw[hkn,<-MB.out,if_neg hno] at hT
   exact⟨nv',rv',by rw[hT];exact XVJ.out,((Ak.refl w _).keep K01).trans xQ.out⟩)
  clear VJ TJ KJ ex' ex2 oO;by_cases hl:k<ds.length
  ·
   have hd:decide ((k:Int)<(ds.length:Int))=true:=decide_eq_true (by omega)
   cases hgo:Gq ds k with
   |true=>
    have uZ:∀q,Calls Tryz.prog 146 #[.slice ad ds.length (ds.length+cd),.int .i64 (k:Int)] (wr.drewN q) fun e w'=>e = .returned (.bool true)/\∃r,w'=(wr.drewN q).drewN r:=fun q=>by
     rw[<-hgo];exact KC (wr.drewN q) _ ds (XLJ.out.keep ((AC.refl wr).drewN q)) k hl (by omega)
    obtain⟨g1,g2⟩:=kM.out.gg (by rw[hkn,<-MB.out];exact hl) (by rw[hkn,<-MB.out];exact hgo);rw[hkn] at g1;have CD:=fun (W:World) (kW:AC wr W)=>JV W m _ nv' rv' bs N AA b' n' c (XVJ.out.keep kW) kM.out.Xr (by have:=kM.out.nt;omega) (Nat.le_trans (show m<=wr.heap.size by have:=xQ.out.size;omega) kW.size) hc kM.out.z (by rw[hkn,<-MB.out];exact hl) (fun q3=>absurd q3 (FB xM.out (by rw[hkn,<-MB.out];exact hl) (by rw[hkn,g1];exact g2)).2.1)
    clear hle Xw;go_upto_region 3 with fail
    go_quiet ((first|(go_at_call 140;exact Calls.quiet_of_same (DG _ _ _ _))|(go_at_call 146;exact Calls.quiet_of (uZ _))))
    have Gs:(wr.drewN nq).heap[w.heap.size]? = some (.cells #[.slice (some ⟨bw,ow,none⟩) AA.length cW,.slice aP b.AM.length cP,.slice aL b.AO.length cL,.slice aN b.AG.length cQ,.slice (some ⟨gx,0,none⟩) b.AL.length cX,.slice aS b.sn.length cS,.slice aF b.fr.length cF,.slice aR b.rws.length cR] 36 (0,0)):=hDr;go_wp2_with (first|refine wpList_load_row rfl 36 _ rfl w.heap.size rfl 36 _ (0,0) _ Gs Tryz.underlying36 rfl AK ?_|fail)
    refine (CD _ ((AC.refl wr).drewN _)).mono ?_;rintro e w5 ⟨rfl,nv5,rv5,V5,T5⟩;have HS:=kM.out.step hc (by rw[hkn,<-MB.out];exact hl) (by rw[hkn,<-MB.out];exact hgo);have T6:=(xQ.out.keep ((AC.refl wr).drewN _)).trans T5;obtain⟨e1,e2⟩:=Qd (AA:=AA) (es:=AB AA) sH kM.out.z;obtain⟨gx',cx',ex',-,dX5,-⟩:=(show BM w5 m (BV.X ⟨.slice (some ⟨bw,ow,none⟩) AA.length cW,.slice aP b.AM.length cP,.slice aL b.AO.length cL,.slice aN b.AG.length cQ,.slice (some ⟨gx,0,none⟩) b.AL.length cX,.slice aS b.sn.length cS,.slice aF b.fr.length cF,.slice aR b.rws.length cR⟩) _ from V5.Ai.own .AL ⟨trivial,by simp⟩).lit (show c<(Aj AA (AB AA) b' c).AL.length by rw[HS.Xr.AL];exact hc);have ex2:Value.slice (some ⟨gx,0,none⟩) b.AL.length cX = .slice (some ⟨gx',0,none⟩) (Aj AA (AB AA) b' c).AL.length cx':=ex';simp only[Value.slice.injEq,Option.some.injEq,Addr.mk.injEq,and_true] at ex2
    have dXn:w5.cell? ⟨gx,c,none⟩=some (.int .i64 ((k:Int)+1)):=by
     have:=dX5 c (by rw[HS.Xr.AL];exact hc);rw[e1,hkz,<-ex2.1] at this;exact this
    have HV5:=Lib.hid V5;have HT6:=Lib.hid T6;have HSS:=Lib.hid HS;clear V5 T5 T6 HS dX5 ex' ex2 Gs uZ CD;go_wp2;go_roundw;case rel=>exact⟨nv5,rv5,_,_,HV5.out,HT6.out,HSS.out⟩
    case measure=>simp only[dXn,jO,intOf];omega
   |false=>
    have uZ:∀q,Calls Tryz.prog 146 #[.slice ad ds.length (ds.length+cd),.int .i64 (k:Int)] (wr.drewN q) fun e w'=>e = .returned (.bool false)/\∃r,w'=(wr.drewN q).drewN r:=fun q=>by
     rw[<-hgo];exact KC (wr.drewN q) _ ds (XLJ.out.keep ((AC.refl wr).drewN q)) k hl (by omega)
    obtain⟨nz,rz,VZ,TZ⟩:=Xw.out (fun q=>by rw[hgo] at q;simp at q);have HV:=Lib.hid VZ;have HZ:=Lib.hid TZ;clear hle Xw VZ TZ;go_upto_region 3 with fail
    go_quiet ((first|(go_at_call 140;exact Calls.quiet_of_same (DG _ _ _ _))|(go_at_call 146;exact Calls.quiet_of (uZ _))))
    go_wp2;go_end0;exact⟨rfl,nz,rz,by rw[<-HT.out];exact HV.out.keep ((AC.refl wr).drewN _),HZ.out.keep ((AC.refl wr).drewN _)⟩
  ·
   have hd:decide ((k:Int)<(ds.length:Int))=false:=decide_eq_false (by omega);obtain⟨nz,rz,VZ,TZ⟩:=Xw.out (fun q=>hl q.1);have HV:=Lib.hid VZ;have HZ:=Lib.hid TZ;clear hle Xw VZ TZ;go_upto_region 3 with fail
   go_quiet ((first|(go_at_call 140;exact Calls.quiet_of_same (DG _ _ _ _))|fail))
   go_wp2;go_end0;exact⟨rfl,nz,rz,by rw[<-HT.out];exact HV.out.keep ((AC.refl wr).drewN _),HZ.out.keep ((AC.refl wr).drewN _)⟩
theorem YP {v:BV}{nv rv:List Value}{g:Nat}(h:FL v rv g):Db v nv rv g:=by
 obtain⟨i,hi,e⟩:=h
 cases i with
 |AM=>exact⟨.AM,trivial,by simp,e⟩
 |AO=>exact⟨.AO,trivial,by simp,e⟩
 |rws=>exact⟨.rws,trivial,by simp,e⟩
 |rw p=>exact⟨.rw p,hi,by simp,e⟩
 |bd=>exact hi.elim
 |AG=>exact hi.elim
 |AL=>exact hi.elim
 |sn=>exact hi.elim
 |fr=>exact hi.elim
 |nt c=>exact hi.elim
theorem Vy (w:World)(m:Nat)(v:BV)(nv rv wv:List Value)(bs N:Nat)(AA:List (List Dd))(b:Bd)(n c:Nat)(x:Nt)(r:List Nt)(h:BG w m v nv rv bs N AA b)(lw:Dh w bs N v.W wv AA)(hbs:m<=bs)(S:Di AA b n)(hn:n<=1000)(hm:m<=w.heap.size)(hc:c<AA.length)(hz:b.AG.getD c []=x::r)(hx:0<=x.1/\x.1<=2):
  Calls Tryz.prog 134 #[v.agg,.int .i64 c] w fun e w'=>e = .returned (.tuple #[])/\Cf w' m w'.heap.size v AA (BT b c)/\∃F',Ak w w' (Db v nv rv) F':=by
 have hcn:c<b.AG.length:=by rw[S.AG];exact hc
 obtain⟨x0,x1,x2⟩:=x;simp only at hx;obtain⟨p,rfl⟩:=Int.eq_ofNat_of_zero_le hx.1;have hp3:p<3:=by omega
 have HM:Hid (BT b c=Dn { b with AG:=b.AG.set c r } p x1 x2):=Lib.hid (by unfold BT;rw[hz];simp);have XS:=Lib.hid S;have lp:p<b.AM.length:=by rw[S.AM];exact hp3
 have ll:p<b.AO.length:=by rw[S.AO];exact hp3
 have lr:p<b.rws.length:=by rw[S.rws];exact hp3
 obtain⟨aW,aP,aL,aN,aX,aS,aF,aR,cW,cP,cL,cQ,cX,cS,cF,cR,rfl⟩:=h.rd0.shapes;have XSL:=Lib.hid h.rd0.sl;have O1:=h.box hm;obtain⟨a',c',eN,hN⟩:=O1.hN;simp only[Value.slice.injEq,true_and] at eN;obtain⟨rfl,rfl⟩:=eN;rcases hN with q|⟨gn,rfl,mJ,dn⟩
 . exfalso;rw[q] at hcn;simp at hcn
 obtain⟨w1,hw1⟩:∃W:World,W=w.alloc (.cells #[.slice aW AA.length cW,.slice aP b.AM.length cP,.slice aL b.AO.length cL,.slice (some ⟨gn,0,none⟩) b.AG.length cQ,.slice aX b.AL.length cX,.slice aS b.sn.length cS,.slice aF b.fr.length cF,.slice aR b.rws.length cR] 36):=⟨_,rfl⟩;have wI:w1.heap.size=w.heap.size+1:=by rw[hw1,AD]
 have K01:AC w w1:=by rw[hw1];exact (AC.refl w).alloc _
 replace O1:AR w1 m w.heap.size ⟨.slice aW AA.length cW,.slice aP b.AM.length cP,.slice aL b.AO.length cL,.slice (some ⟨gn,0,none⟩) b.AG.length cQ,.slice aX b.AL.length cX,.slice aS b.sn.length cS,.slice aF b.fr.length cF,.slice aR b.rws.length cR⟩ nv rv bs N AA b:=by rw[hw1];exact O1
 replace dn:∀i,i<b.AG.length->w1.cell? ⟨gn,i,none⟩=some (nv.getD i AE):=by rw[hw1];exact dn
 have oq:=O1.oN hcn;rw[hz] at oq
 obtain⟨gq,cq,hq,lgq⟩:∃gq cq,nv.getD c AE = .slice (some ⟨gq,0,none⟩) (r.length+1) cq/\gq<w1.heap.size:=by
  have hlt:=World.ownsRow.lt oq;rcases oq.2 with ⟨_,hz'⟩|⟨g,cap,cur,e,_⟩
  . simp at hz'
  . exact⟨g,cap,e,(hlt g (by rw[e];rfl)).2⟩
 have hcq:r.length+1<=cq:=by
  rcases oq.2 with ⟨_,hz'⟩|⟨g,cap,cur,e,_,_,hcap,_⟩
  . simp at hz'
  ·
   rw[hq] at e;simp only[Value.slice.injEq] at e;rw[e.2.2];simpa using hcap
 rw[hq] at oq;have q0:w1.cell? ⟨gq,0,none⟩=some (.int .i64 (p:Int)):=World.ownsRow.cellAt oq 0 (by simp);have q1:w1.cell? ⟨gq,1,none⟩=some (.int .i64 x1):=World.ownsRow.cellAt oq 1 (by show 1<(r.length+1)*3;omega);have q2:w1.cell? ⟨gq,2,none⟩=some (.int .i64 x2):=World.ownsRow.cellAt oq 2 (by show 2<(r.length+1)*3;omega);have d3:=dn c hcn;rw[hq] at d3;have hcv:c<nv.length:=by rw[O1.ln];exact hcn
 obtain⟨w2,hw2⟩:∃W:World,W=w1.alloc (PJ (p:Int) x1 x2):=⟨_,rfl⟩;have k2:AC w1 w2:=by rw[hw2];exact (AC.refl w1).alloc _
 have y2w:w2.heap.size=w.heap.size+2:=by rw[hw2,AD,wI]
 have XN2:Hid (w2.heap[w.heap.size+1]? = some (.cells #[.int .i64 (p:Int),.int .i64 x1,.int .i64 x2] 104 (0,0))):=Lib.hid (by rw[hw2,<-wI];exact heap_alloc_new _ _);have O2:=O1.keep k2;have XD2:Hid (w2.heap[w.heap.size]? = some (.cells #[.slice aW AA.length cW,.slice aP b.AM.length cP,.slice aL b.AO.length cL,.slice (some ⟨gn,0,none⟩) b.AG.length cQ,.slice aX b.AL.length cX,.slice aS b.sn.length cS,.slice aF b.fr.length cF,.slice aR b.rws.length cR] 36 (0,0))):=Lib.hid (by have:=O2.JK;simp only[BV.arr] at this;exact this);have XA2:Hid (Fy w2 m ⟨.slice aW AA.length cW,.slice aP b.AM.length cP,.slice aL b.AO.length cL,.slice (some ⟨gn,0,none⟩) b.AG.length cQ,.slice aX b.AL.length cX,.slice aS b.sn.length cS,.slice aF b.fr.length cF,.slice aR b.rws.length cR⟩ nv rv wv AA b):=Lib.hid (O2.all ((lw.keep K01).keep k2) hbs);have xV:Hid (BV.N ⟨.slice aW AA.length cW,.slice aP b.AM.length cP,.slice aL b.AO.length cL,.slice (some ⟨gn,0,none⟩) b.AG.length cQ,.slice aX b.AL.length cX,.slice aS b.sn.length cS,.slice aF b.fr.length cF,.slice aR b.rws.length cR⟩ = .slice (some ⟨gn,0,none⟩) nv.length cQ):=Lib.hid (by rw[O1.ln]);have NB:Hid (∀q,Db ⟨.slice aW AA.length cW,.slice aP b.AM.length cP,.slice aL b.AO.length cL,.slice (some ⟨gn,0,none⟩) b.AG.length cQ,.slice aX b.AL.length cX,.slice aS b.sn.length cS,.slice aF b.fr.length cF,.slice aR b.rws.length cR⟩ nv rv q->q<w.heap.size):=Lib.hid (fun q hq=>(h.blk q hq).2.1);have T02:Hid (Ak w w2 (Db ⟨.slice aW AA.length cW,.slice aP b.AM.length cP,.slice aL b.AO.length cL,.slice (some ⟨gn,0,none⟩) b.AG.length cQ,.slice aX b.AL.length cX,.slice aS b.sn.length cS,.slice aF b.fr.length cF,.slice aR b.rws.length cR⟩ nv rv) (Db ⟨.slice aW AA.length cW,.slice aP b.AM.length cP,.slice aL b.AO.length cL,.slice (some ⟨gn,0,none⟩) b.AG.length cQ,.slice aX b.AL.length cX,.slice aS b.sn.length cS,.slice aF b.fr.length cF,.slice aR b.rws.length cR⟩ nv rv)):=Lib.hid (((Ak.refl w _).keep K01).keep k2);have c31:w1.cell? ⟨w.heap.size,3,none⟩=some (.slice (some ⟨gn,0,none⟩) b.AG.length cQ):=O1.cells.2.2.2.1;have c3:w2.cell? ⟨w.heap.size,3,none⟩=some (.slice (some ⟨gn,0,none⟩) b.AG.length cQ):=O2.cells.2.2.2.1;have d32:=(k2.cell (show gn<w1.heap.size from (O1.Ai.lt (i:= .AG) trivial gn rfl).2)).trans d3;have f3:w2.frozen? ⟨gn,c,none⟩=false:=(Rw.put (r:=EP 101 nv (BV.N ⟨.slice aW AA.length cW,.slice aP b.AM.length cP,.slice aL b.AO.length cL,.slice (some ⟨gn,0,none⟩) b.AG.length cQ,.slice aX b.AL.length cX,.slice aS b.sn.length cS,.slice aF b.fr.length cF,.slice aR b.rws.length cR⟩)) (O2.Ai.own .AG trivial) (g:=gn) (cap:=cQ) (k:=c) xV.out (.bool true)).2.2;have i1:(0:Int)<=(c:Int):=Int.natCast_nonneg _;have i3:(c:Int)<(b.AG.length:Int):=by omega
 have i5:((r.length+1:Nat):Int)=(r.length:Int)+1:=by omega
 have j1:(1:Int)<=(r.length:Int)+1:=by omega
 have hz':=hz;have hq':=hq;have HZ1:=Lib.hid hz';have HZ2:=Lib.hid hq';clear O1 O2 oq dn h lw hz hq hz' hq' S hx;go_enter Tryz.func134,Tryz.ntmps134
 go_upto_region 1 with fail
 rw[<-hw1];clear hw1;go_upto_region 2 with fail
 rw[<-hw2];clear hw2 q0 q1 q2 c31 d3;have hz':=HZ1;have hq':=HZ2;have d3:=d32;clear d32;by_cases hq1:cq=1
 ·
  have j2:(1:Int)<=(cq:Int):=by omega
  have qC:=(XA2.out.cut (g:=gn) (c:=c) (cap:=cQ) xV.out (.slice (some ⟨gq,0,none⟩) r.length 0)).keep (AC.refl _).drew;have T3:Ak w2 _ (Db ⟨.slice aW AA.length cW,.slice aP b.AM.length cP,.slice aL b.AO.length cL,.slice (some ⟨gn,0,none⟩) b.AG.length cQ,.slice aX b.AL.length cX,.slice aS b.sn.length cS,.slice aF b.fr.length cF,.slice aR b.rws.length cR⟩ nv rv) (Db ⟨.slice aW AA.length cW,.slice aP b.AM.length cP,.slice aL b.AO.length cL,.slice (some ⟨gn,0,none⟩) b.AG.length cQ,.slice aX b.AL.length cX,.slice aS b.sn.length cS,.slice aF b.fr.length cF,.slice aR b.rws.length cR⟩ nv rv):=((Ak.refl w2 _).grown (Ae w2 gn c (.slice (some ⟨gq,0,none⟩) r.length 0)) (fun g hg=>⟨.AG,trivial,by simp,hg⟩)).keep (AC.refl _).drew;have Gs:=(T3.block w.heap.size (by omega) (fun q=>by have:=NB.out _ q;omega)).trans XD2.out;have rF:=(T3.block (w.heap.size+1) (by omega) (fun q=>by have:=NB.out _ q;omega)).trans XN2.out;have dh:=Lib.hid qC;have eT:=Lib.hid T3;have qG:=Lib.hid Gs;have di:=Lib.hid rF;clear qC T3 Gs rF;go_region
  go_upto_region 3 with fail
  obtain⟨w3,hw3⟩:∃W:World,W=(w2.setCell ⟨gn,c,none⟩ (.slice (some ⟨gq,0,none⟩) r.length 0)).drew:=⟨_,rfl⟩;rw[<-hw3] at dh eT qG di ⊢;clear hw3;have Gs:=qG.out;have m0:w3.cell? ⟨w.heap.size+1,0,none⟩=some (.int .i64 (p:Int)):=by rw[cell_of_row w3 _ 0 _ _ _ di.out];rfl
  have m1:w3.cell? ⟨w.heap.size+1,1,none⟩=some (.int .i64 x1):=by rw[cell_of_row w3 _ 1 _ _ _ di.out];rfl
  have m2:w3.cell? ⟨w.heap.size+1,2,none⟩=some (.int .i64 x2):=by rw[cell_of_row w3 _ 2 _ _ _ di.out];rfl
  have s3:=eT.out.size;have Q8:=Qf w3 m ⟨.slice aW AA.length cW,.slice aP b.AM.length cP,.slice aL b.AO.length cL,.slice (some ⟨gn,0,none⟩) b.AG.length cQ,.slice aX b.AL.length cX,.slice aS b.sn.length cS,.slice aF b.fr.length cF,.slice aR b.rws.length cR⟩ rv b p x1 x2 dh.out.ZH XSL.out (by omega) lp ll lr (by have:=XS.out.rl p;omega);clear d3 f3 c3;go_wp2_with (first|refine wpList_load_row rfl 36 _ rfl w.heap.size rfl 36 _ (0,0) _ Gs Tryz.underlying36 rfl AK ?_|fail)
  refine Q8.mono ?_;rintro e w4 ⟨rfl,rv',O4,T4⟩;have qD:=dh.out.turn O4 T4 rfl rfl rfl rfl;have FR:=Lib.hid (qD.free hcv HZ1.out HZ2.out (.inl ⟨hq1,rfl⟩));have B4:=Lib.hid ((T02.out.trans eT.out).trans (⟨T4.os,T4.tape,T4.output,T4.size,fun g h1 h2=>T4.block g h1 (fun q=>h2 (YP q)),fun g h=>h⟩:Ak w3 w4 (Db ⟨.slice aW AA.length cW,.slice aP b.AM.length cP,.slice aL b.AO.length cL,.slice (some ⟨gn,0,none⟩) b.AG.length cQ,.slice aX b.AL.length cX,.slice aS b.sn.length cS,.slice aF b.fr.length cF,.slice aR b.rws.length cR⟩ nv rv) (fun g=>Db ⟨.slice aW AA.length cW,.slice aP b.AM.length cP,.slice aL b.AO.length cL,.slice (some ⟨gn,0,none⟩) b.AG.length cQ,.slice aX b.AL.length cX,.slice aS b.sn.length cS,.slice aF b.fr.length cF,.slice aR b.rws.length cR⟩ nv rv g\/w3.heap.size<=g)));clear O4 T4 qD Q8 Gs m0 m1 m2;go_wp2;go_end0;exact⟨rfl,by rw[HM.out];exact FR.out,_,B4.out⟩
 ·
  have j2:(1:Int)<(cq:Int):=by omega
  have qC:=(XA2.out.cut (g:=gn) (c:=c) (cap:=cQ) xV.out (.slice (some ⟨gq,3,none⟩) r.length (cq-1))).keep (AC.refl _).drew;have T3:Ak w2 _ (Db ⟨.slice aW AA.length cW,.slice aP b.AM.length cP,.slice aL b.AO.length cL,.slice (some ⟨gn,0,none⟩) b.AG.length cQ,.slice aX b.AL.length cX,.slice aS b.sn.length cS,.slice aF b.fr.length cF,.slice aR b.rws.length cR⟩ nv rv) (Db ⟨.slice aW AA.length cW,.slice aP b.AM.length cP,.slice aL b.AO.length cL,.slice (some ⟨gn,0,none⟩) b.AG.length cQ,.slice aX b.AL.length cX,.slice aS b.sn.length cS,.slice aF b.fr.length cF,.slice aR b.rws.length cR⟩ nv rv):=((Ak.refl w2 _).grown (Ae w2 gn c (.slice (some ⟨gq,3,none⟩) r.length (cq-1))) (fun g hg=>⟨.AG,trivial,by simp,hg⟩)).keep (AC.refl _).drew;have Gs:=(T3.block w.heap.size (by omega) (fun q=>by have:=NB.out _ q;omega)).trans XD2.out;have rF:=(T3.block (w.heap.size+1) (by omega) (fun q=>by have:=NB.out _ q;omega)).trans XN2.out;have dh:=Lib.hid qC;have eT:=Lib.hid T3;have qG:=Lib.hid Gs;have di:=Lib.hid rF;clear qC T3 Gs rF;go_region
  go_upto_region 3 with fail
  obtain⟨w3,hw3⟩:∃W:World,W=(w2.setCell ⟨gn,c,none⟩ (.slice (some ⟨gq,3,none⟩) r.length (cq-1))).drew:=⟨_,rfl⟩;rw[<-hw3] at dh eT qG di ⊢;clear hw3;have Gs:=qG.out;have m0:w3.cell? ⟨w.heap.size+1,0,none⟩=some (.int .i64 (p:Int)):=by rw[cell_of_row w3 _ 0 _ _ _ di.out];rfl
  have m1:w3.cell? ⟨w.heap.size+1,1,none⟩=some (.int .i64 x1):=by rw[cell_of_row w3 _ 1 _ _ _ di.out];rfl
  have m2:w3.cell? ⟨w.heap.size+1,2,none⟩=some (.int .i64 x2):=by rw[cell_of_row w3 _ 2 _ _ _ di.out];rfl
  have s3:=eT.out.size;have Q8:=Qf w3 m ⟨.slice aW AA.length cW,.slice aP b.AM.length cP,.slice aL b.AO.length cL,.slice (some ⟨gn,0,none⟩) b.AG.length cQ,.slice aX b.AL.length cX,.slice aS b.sn.length cS,.slice aF b.fr.length cF,.slice aR b.rws.length cR⟩ rv b p x1 x2 dh.out.ZH XSL.out (by omega) lp ll lr (by have:=XS.out.rl p;omega);clear d3 f3 c3;go_wp2_with (first|refine wpList_load_row rfl 36 _ rfl w.heap.size rfl 36 _ (0,0) _ Gs Tryz.underlying36 rfl AK ?_|fail)
  refine Q8.mono ?_;rintro e w4 ⟨rfl,rv',O4,T4⟩;have qD:=dh.out.turn O4 T4 rfl rfl rfl rfl;have FR:=Lib.hid (qD.free hcv HZ1.out HZ2.out (.inr rfl));have B4:=Lib.hid ((T02.out.trans eT.out).trans (⟨T4.os,T4.tape,T4.output,T4.size,fun g h1 h2=>T4.block g h1 (fun q=>h2 (YP q)),fun g h=>h⟩:Ak w3 w4 (Db ⟨.slice aW AA.length cW,.slice aP b.AM.length cP,.slice aL b.AO.length cL,.slice (some ⟨gn,0,none⟩) b.AG.length cQ,.slice aX b.AL.length cX,.slice aS b.sn.length cS,.slice aF b.fr.length cF,.slice aR b.rws.length cR⟩ nv rv) (fun g=>Db ⟨.slice aW AA.length cW,.slice aP b.AM.length cP,.slice aL b.AO.length cL,.slice (some ⟨gn,0,none⟩) b.AG.length cQ,.slice aX b.AL.length cX,.slice aS b.sn.length cS,.slice aF b.fr.length cF,.slice aR b.rws.length cR⟩ nv rv g\/w3.heap.size<=g)));clear O4 T4 qD Q8 Gs m0 m1 m2;go_wp2;go_end0;exact⟨rfl,by rw[HM.out];exact FR.out,_,B4.out⟩
def Tr (k:Nat):Bd:=⟨List.replicate k 0,(List.range k).map (fun (i:Nat)=>(i:Int)),[],[],[],[],(List.range k).map (fun (i:Nat)=>[(i:Int)])⟩
def Xp (k:Nat):Bd:=⟨[0,0,0],[0,1,2],List.replicate k [],List.replicate k 0,[],[],[[0],[1],[2]]⟩
def Ts (n k:Nat):Bd:=⟨[0,0,0],[0,1,2],List.replicate n [],List.replicate n 0,List.replicate k (-1),List.replicate k (-1),[[0],[1],[2]]⟩
theorem ZW (k:Nat):Tr (k+1)={ { { Tr k with AM:=(Tr k).AM++[0] } with AO:=(Tr k).AO++[(k:Int)] } with rws:=(Tr k).rws++[[(k:Int)]] }:=by
 unfold Tr;simp only[List.range_succ,List.map_append,List.map_cons,List.map_nil,List.replicate_succ']
theorem ZX (k:Nat):Xp (k+1)={ { Xp k with AG:=(Xp k).AG++[[]] } with AL:=(Xp k).AL++[0] }:=by
 unfold Xp;simp only[List.replicate_succ']
theorem ZY (n k:Nat):Ts n (k+1)={ { Ts n k with sn:=(Ts n k).sn++[-1] } with fr:=(Ts n k).fr++[-1] }:=by
 unfold Ts;simp only[List.replicate_succ']
theorem Nd (w:World)(x:Int):Rd (w.alloc (.cells #[.int .i64 x] 2)) (.slice (some ⟨w.heap.size,0,none⟩) 1 1) [x]:=
 ⟨_,1,rfl,.inr ⟨w.heap.size,0,rfl,by rw[AD];omega,fun i hi=>by
  obtain rfl:i=0:=by simpa using hi
  rw[cell_of_row _ _ _ _ _ _ (heap_alloc_new w _)];rfl⟩⟩
theorem QY (w:World)(v:Value)(AA:List (List Dd))(h:JJ w v AA)(hb:AQ AA=true)(hx:AA.length<=1048576)(hm:∀i,i<AA.length->(AA.getD i []).length<=1048576):
  Calls Tryz.prog 92 #[v] w fun e w'=>∃bv nv rv wv,e = .returned (BV.agg bv)/\Fy w' w.heap.size bv nv rv wv AA (Cd AA)/\AC w w':=by
 have CW:=fun (W:World) (kW:AC w W)=>C7 W _ AA (h.keep kW) hx hm
 have CC:=fun (W:World) (kW:AC w W)=>Hy W _ AA (h.keep kW) hx hm
 have CE:=fun (W:World) (kW:AC w W)=>EG W _ AA (h.keep kW) hx hm
 rw[hb] at CW;have u1:=(Ay hb).1;obtain⟨aD,vK,rfl,-⟩:=id h;clear h hm hb;obtain⟨ng0,ngi,zV,zY,zZ⟩:=info_parts Tryz.QD;obtain⟨ig0,igi,zM,zO,zQ⟩:=info_parts Tryz.QC;obtain⟨w1,hw1⟩:∃W:World,W=w.alloc (.cells #[AE,AE,AE,AE,AE,AE,AE,AE] 36):=⟨_,rfl⟩;have K1:AC w w1:=by rw[hw1];exact (AC.refl w).alloc _
 have s1:w1.heap.size=w.heap.size+1:=by rw[hw1,AD]
 have hR1:w1.heap[w.heap.size]? = some (.cells #[AE,AE,AE,AE,AE,AE,AE,AE] 36 (0,0)):=by rw[hw1];exact heap_alloc_new _ _
 go_enter Tryz.func92,Tryz.ntmps92
 go_upto_region 1 with fail
 rw[<-hw1];clear hw1;go_wp2_with fail
 refine (CW _ K1).mono ?_;rintro e w2 ⟨rfl,k2⟩;go_wp2_with fail
 refine (DB _).mono ?_;rintro e w2 ⟨rfl,rfl⟩;have K2:=K1.trans k2;go_wp2_with fail
 refine (CC _ K2).mono ?_;rintro e w3 ⟨v3,V,rfl,X3,k3⟩;have s2:=k2.size;have s3:=k3.size;have LW3:=X3.ja;have O3:=(SY X3.wF.upto (Nat.le_refl _) w1.heap.size).box (by omega);obtain⟨a3,c3,hv3,-⟩:=id X3.rdW;subst hv3;obtain⟨w4,hw4⟩:∃W:World,W=w3.alloc (.cells #[.slice a3 AA.length c3,AE,AE,AE,AE,AE,AE,AE] 36):=⟨_,rfl⟩;have k4:AC w3 w4:=by rw[hw4];exact (AC.refl w3).alloc _
 have s4:w4.heap.size=w3.heap.size+1:=by rw[hw4,AD]
 replace O3:AR w4 w1.heap.size w3.heap.size ⟨.slice a3 AA.length c3,AE,AE,AE,AE,AE,AE,AE⟩ [] [] w2.heap.size w3.heap.size AA ⟨[],[],[],[],[],[],[]⟩:=by rw[hw4];exact O3
 clear X3;go_upto_region 3 with fail
 rw[<-hw4];clear hw4;go_wp2_with fail
 refine (Hv w4).mono ?_;rintro e w5 ⟨v5,rfl,A5,k5⟩;have s5:=k5.size;have N5:=NB.start (O3.keep k5);have LW5:=Lib.hid (LW3.keep (k4.trans k5));have hR5:=Lib.hid ((Below.block ((k2.trans k3).trans (k4.trans k5)) w.heap.size (by omega)).trans hR1);have K5:=K2.trans (k3.trans (k4.trans k5));have hD:w1.heap.size<=w3.heap.size/\w3.heap.size<w4.heap.size:=by omega
 have hbs:w1.heap.size<=w2.heap.size:=s2;have hD5:w3.heap.size<w5.heap.size:=by omega
 obtain⟨ae,ce,hv5,-⟩:=id A5.rd;rw[show CZ.length=3 from rfl] at hv5;subst hv5;clear LW3 O3 CW CC hR1 k2 k3 k4 k5 K1 K2;have hmw:w.heap.size<w1.heap.size:=by omega
 clear s1 s4 s3 s2 s5;generalize w1.heap.size=m at *;generalize w2.heap.size=bs at *;generalize w3.heap.size=D at *;go_wp2;go_loopw [4,14] (fun _ i wr=>∃(k:Nat) (bv:BV) (rv:List Value),k<=3/\i = .int .i64 k/\Hid (bv.W = .slice a3 AA.length c3)/\NB w5 wr m D bv [] rv bs D AA (Tr k)) (fun _ i _=>3-(intOf i).toNat)
 case atStart=>exact⟨0,_,[],Nat.zero_le _,rfl,Lib.hid rfl,N5⟩
 case round=>
  obtain⟨k,bv,rv,hk,rfl,hW,NR⟩:=hrel;by_cases hlt:k<3
  ·
   have zu:JD wr w4.heap.size (.slice ae 3 (3+ce)) CZ:=World.ownsRow.kept A5 NR.sm (GV (fun q hq=>(World.ownsRow.lt A5 q hq).1) hD.2);obtain⟨a',c',he',hE⟩:=zu.rd;rw[show CZ.length=3 from rfl] at he';simp only[Value.slice.injEq,true_and] at he';obtain⟨rfl,hce⟩:=he';rcases hE with h0|⟨bq,oq,rfl,hbq,hcq⟩
   . exact absurd h0 (by simp[CZ])
   have hev:CZ[k]? = some ((-1:Int),(-1:Int),false,(k:Int),(0:Int),(k:Int)):=by
    have:k=0\/k=1\/k=2:=by omega
    rcases this with rfl|rfl|rfl<;>rfl
   obtain⟨q0,q1,q2,q3,q4,q5⟩:=oK (hcq k _ hev);have i1:(0:Int)<=(k:Int):=Int.natCast_nonneg _;have i2:(k:Int)<3:=by omega
   obtain⟨w6,hw6⟩:∃W:World,W=wr.alloc (eO (-1) (-1) false k 0 k):=⟨_,rfl⟩;have k6:AC wr w6:=by rw[hw6];exact (AC.refl wr).alloc _
   have f4:w6.cell? ⟨wr.heap.size,4,none⟩=some (.int .i64 0):=by rw[hw6,cell_of_row _ _ 4 _ _ _ (heap_alloc_new wr _)];rfl
   have N6:=NR.keep k6;clear hcq zu NR hev hce k6;go_upto_region 6 with fail
   rw[<-hw6];clear hw6 q0 q1 q2 q3 q4 q5;have Aa:=N6.keep ((AC.refl w6).alloc (.cells #[.int .i64 (0:Int)] 2));obtain⟨tq,tu,uD,uE,uG,uH,uI,uJ⟩:=N6.ob.cells;go_wp2_with (at_builtin;refine BB rfl _ _ rfl m _ _ rfl Aa.ob.oP _ rfl [(0:Int)] (Nd w6 (0:Int)) (by unfold Tr;simp;omega) (by simp) (Nat.le_of_lt (Nat.lt_of_le_of_lt Aa.ob.base.1 Aa.ob.base.2)) ?_)
   intro ua xa Oa Ga Ba;obtain⟨la,ay⟩:∃l,Hid (l=(Tr k).AM++[(0:Int)]):=⟨_,Lib.hid rfl⟩;replace Oa:BM xa m ua ((Tr k).AM++[(0:Int)]):=Oa;rw[<-ay.out] at Oa;obtain⟨Na,Ca,Fa⟩:=Aa.Y2 Ga (by rw[AD];exact Ba) Oa;obtain⟨qU,qp,rT,-⟩:=id Oa.rd;subst rT;clear tq tu uD uE uG uH uI uJ Aa N6 Oa Ga Ba;go_upto_region 7 with fail
   generalize xa.setCell ⟨D,1,none⟩ (.slice qU la.length qp)=ya at *;clear Ca Fa;have Ab:=Na.keep ((AC.refl ya).alloc (.cells #[.int .i64 (k:Int)] 2));obtain⟨uK,uM,uO,uQ,uT,uU,uV,uY⟩:=Na.ob.cells;go_wp2_with (at_builtin;refine BB rfl _ _ rfl m _ _ rfl Ab.ob.oL _ rfl [(k:Int)] (Nd ya (k:Int)) (by unfold Tr;simp;omega) (by simp) (Nat.le_of_lt (Nat.lt_of_le_of_lt Ab.ob.base.1 Ab.ob.base.2)) ?_)
   intro ub xb Ob Gb Bb;obtain⟨lb,Xy⟩:∃l,Hid (l=(Tr k).AO++[(k:Int)]):=⟨_,Lib.hid rfl⟩;replace Ob:BM xb m ub ((Tr k).AO++[(k:Int)]):=Ob;rw[<-Xy.out] at Ob;obtain⟨Nb,Cb,Fb⟩:=Ab.Y1 Gb (by rw[AD];exact Bb) Ob;obtain⟨qV,qw,hub,-⟩:=id Ob.rd;subst hub;clear uK uM uO uQ uT uU uV uY Ab Na Ob Gb Bb;go_upto_region 8 with fail
   generalize xb.setCell ⟨D,2,none⟩ (.slice qV lb.length qw)=yb at *;clear Cb Fb;obtain⟨zc0,zc1,zc2,zc3,zc4,zc5,zc6,zc7⟩:=Nb.ob.cells;have kca:AC yb (yb.alloc (.cells #[.int .i64 (k:Int)] 2)):=(AC.refl yb).alloc _;have zU:AC (yb.alloc (.cells #[.int .i64 (k:Int)] 2)) ((yb.alloc (.cells #[.int .i64 (k:Int)] 2)).alloc (.cells #[(Value.slice (some ⟨yb.heap.size,0,none⟩) 1 1)] 28)):=(AC.refl _).alloc _;have kc:=kca.trans zU;have hmc:m<=yb.heap.size:=Nat.le_of_lt (Nat.lt_of_le_of_lt Nb.ob.base.1 Nb.ob.base.2);have oca:BM (yb.alloc (.cells #[.int .i64 (k:Int)] 2)) m (.slice (some ⟨yb.heap.size,0,none⟩) 1 1) [(k:Int)]:=World.ownsRow_lit yb #[.int .i64 (k:Int)] 1 hmc (by decide) rfl;have oc:=World.ownsRow.kept oca zU.grownBy (by cases (Value.ownBlock (Value.slice (some ⟨yb.heap.size,0,none⟩) 1 1))<;>simp);have Rc:World.ownsRow _ m 28 1 bv.R rv.length rv:=(Nb.keep kc).ob.Ai.own .rws trivial;have hnc:rv.length<=3:=by rw[(Nb.ob).lr];unfold Tr;simp;omega
   go_wp2_with (at_builtin;refine wpList_append_own_at _ rfl _ _ 26 rfl m 28 ig0 (.slice none 0 0) 1 24 Tryz.underlying26 igi zM zO zQ rfl (by decide) _ _ _ rfl Rc ⟨_,0,none⟩ 1 1 [(Value.slice (some ⟨yb.heap.size,0,none⟩) 1 1)] rfl rfl (by intro j q hj;match j,hj with|0,hj=>(simp at hj;subst hj;simp[Addr.add])) (by intro q hq;simp at hq;subst hq;rfl) (by unfold maxLen;omega) (by omega) (by simp;omega) ?_)
   intro uc xc Pc Gc _ Bc;obtain⟨hc,HZc⟩:∃l,Hid (l=rv++[(Value.slice (some ⟨yb.heap.size,0,none⟩) 1 1)]):=⟨_,Lib.hid rfl⟩
   have Qc:(EP 28 (rv++[(Value.slice (some ⟨yb.heap.size,0,none⟩) 1 1)]) uc).own xc m:=by
    show xc.ownsRow m 28 1 uc (rv++[(Value.slice (some ⟨yb.heap.size,0,none⟩) 1 1)]).length (rv++[(Value.slice (some ⟨yb.heap.size,0,none⟩) 1 1)]);rw[List.length_append];exact Pc
   obtain⟨Nc,Cc,Fc⟩:=Nb.VI (u:=(Value.slice (some ⟨yb.heap.size,0,none⟩) 1 1)) kc (fun q hq=>Nat.le_of_eq (Option.some.inj hq)) oc Gc (by rw[AD,AD];exact Bc) Qc;rw[<-HZc.out] at Nc Qc;obtain⟨auc,cuc,huc,-⟩:=Bt Qc;subst huc;clear zc0 zc1 zc2 zc3 zc4 zc5 zc6 zc7 Nb Rc Pc Qc Gc Bc oc oca kc kca zU hnc hmc;go_upto_region 9 with fail
   generalize xc.setCell ⟨D,7,none⟩ (.slice auc hc.length cuc)=yc at *;clear Cc Fc
   obtain⟨bz,hZ,NZ⟩:∃bz:BV,Hid (bz.W = .slice a3 AA.length c3)/\NB w5 yc m D bz [] hc bs D AA (Tr (k+1)):=by
    rw[ZW,<-ay.out,<-Xy.out];refine⟨_,?_,Nc⟩;exact hW
   clear Nc ay Xy HZc;go_wp2;go_roundw;case rel=>exact⟨k+1,bz,hc,by omega,by go_num,hZ,NZ⟩
   case measure=>simp[intOf];omega
  obtain rfl:k=3:=by omega
  have N7:NB w5 wr m D bv [] rv bs D AA (Xp 0):=NR;clear NR A5 hlt hk;rw[show ((3:Nat):Int)=3 from rfl];go_wp2;obtain⟨wo,rfl⟩:∃wo:World,wo=wr:=⟨_,rfl⟩;go_loopw [42] (fun i wr=>∃(k:Nat) (bv:BV) (nv:List Value),k<=AA.length/\i = .int .i64 k/\Hid (bv.W = .slice a3 AA.length c3)/\NB w5 wr m D bv nv rv bs D AA (Xp k)) (fun i _=>AA.length-(intOf i).toNat)
  case atStart=>exact⟨0,bv,[],Nat.zero_le _,rfl,hW,N7⟩
  case round=>
   clear N7 hW;obtain⟨k,bv,nv,hk,rfl,hW,NR⟩:=hrel;by_cases hlt:k<AA.length
   ·
    have i1:(0:Int)<=(k:Int):=Int.natCast_nonneg _;have i2:(k:Int)<(AA.length:Int):=by omega
    obtain⟨tq,tu,uD,uE,uG,uH,uI,uJ⟩:=NR.ob.cells;have kaa:AC wr (wr.alloc (.cells #[] 104)):=(AC.refl wr).alloc _;have zT:AC (wr.alloc (.cells #[] 104)) ((wr.alloc (.cells #[] 104)).alloc (.cells #[(Value.slice (some ⟨wr.heap.size,0,none⟩) 0 0)] 101)):=(AC.refl _).alloc _;have ka:=kaa.trans zT;have hma:m<=wr.heap.size:=Nat.le_of_lt (Nat.lt_of_le_of_lt NR.ob.base.1 NR.ob.base.2);have oaa:B5 cN 104 3 (wr.alloc (.cells #[] 104)) m (.slice (some ⟨wr.heap.size,0,none⟩) 0 0) []:=World.ownsRow_lit wr #[] 0 hma (by decide) rfl;have oa:=World.ownsRow.kept oaa zT.grownBy (by cases (Value.ownBlock (Value.slice (some ⟨wr.heap.size,0,none⟩) 0 0))<;>simp);have Ra:World.ownsRow _ m 101 1 bv.N nv.length nv:=(NR.keep ka).ob.Ai.own .AG trivial;have hna:nv.length<=3:=by rw[(NR.ob).ln];unfold Xp;simp;omega
    go_wp2_with (at_builtin;refine wpList_append_own_at _ rfl _ _ 34 rfl m 101 ng0 (.slice none 0 0) 1 24 Tryz.underlying34 ngi zV zY zZ rfl (by decide) _ _ _ rfl Ra ⟨_,0,none⟩ 1 1 [(Value.slice (some ⟨wr.heap.size,0,none⟩) 0 0)] rfl rfl (by intro j q hj;match j,hj with|0,hj=>(simp at hj;subst hj;simp[Addr.add])) (by intro q hq;simp at hq;subst hq;rfl) (by unfold maxLen;omega) (by omega) (by simp;omega) ?_)
    intro ua xa Pa Ga _ Ba;obtain⟨ha,ay⟩:∃l,Hid (l=nv++[(Value.slice (some ⟨wr.heap.size,0,none⟩) 0 0)]):=⟨_,Lib.hid rfl⟩
    have Qa:(EP 101 (nv++[(Value.slice (some ⟨wr.heap.size,0,none⟩) 0 0)]) ua).own xa m:=by
     show xa.ownsRow m 101 1 ua (nv++[(Value.slice (some ⟨wr.heap.size,0,none⟩) 0 0)]).length (nv++[(Value.slice (some ⟨wr.heap.size,0,none⟩) 0 0)]);rw[List.length_append];exact Pa
    obtain⟨Na,Ca,Fa⟩:=NR.SZ (u:=(Value.slice (some ⟨wr.heap.size,0,none⟩) 0 0)) ka (fun q hq=>Nat.le_of_eq (Option.some.inj hq)) oa Ga (by rw[AD,AD];exact Ba) Qa;rw[<-ay.out] at Na Qa;obtain⟨qU,qp,rT,-⟩:=Bt Qa;subst rT;clear tq tu uD uE uG uH uI uJ NR Ra Pa Qa Ga Ba oa oaa ka kaa zT hna hma;go_upto_region 13 with fail
    generalize xa.setCell ⟨D,3,none⟩ (.slice qU ha.length qp)=ya at *;clear Ca Fa;have Ab:=Na.keep ((AC.refl ya).alloc (.cells #[.int .i64 (0:Int)] 2));obtain⟨uK,uM,uO,uQ,uT,uU,uV,uY⟩:=Na.ob.cells;go_wp2_with (at_builtin;refine BB rfl _ _ rfl m _ _ rfl Ab.ob.oX _ rfl [(0:Int)] (Nd ya (0:Int)) (by unfold Xp;simp;omega) (by simp) (Nat.le_of_lt (Nat.lt_of_le_of_lt Ab.ob.base.1 Ab.ob.base.2)) ?_)
    intro ub xb Ob Gb Bb;obtain⟨lb,Xy⟩:∃l,Hid (l=(Xp k).AL++[(0:Int)]):=⟨_,Lib.hid rfl⟩;replace Ob:BM xb m ub ((Xp k).AL++[(0:Int)]):=Ob;rw[<-Xy.out] at Ob;obtain⟨Nb,Cb,Fb⟩:=Ab.Y3 Gb (by rw[AD];exact Bb) Ob;obtain⟨qV,qw,hub,-⟩:=id Ob.rd;subst hub;clear uK uM uO uQ uT uU uV uY Ab Na Ob Gb Bb;go_upto_region 14 with fail
    generalize xb.setCell ⟨D,4,none⟩ (.slice qV lb.length qw)=yb at *;clear Cb Fb
    obtain⟨bz,hZ,NZ⟩:∃bz:BV,Hid (bz.W = .slice a3 AA.length c3)/\NB w5 yb m D bz ha rv bs D AA (Xp (k+1)):=by
     rw[ZX,<-Xy.out];refine⟨_,?_,Nb⟩;exact hW
    clear Nb ay Xy;go_wp2;go_roundw;case rel=>exact⟨k+1,bz,ha,by omega,by go_num,hZ,NZ⟩
    case measure=>simp[intOf];omega
   have N8:NB w5 wr m D bv nv rv bs D AA (Ts AA.length 0):=by
    rw[show k=AA.length by omega] at NR;exact NR
   have K8:AC w wr:=K5.grown NR.sm (fun q hq=>by have:=Option.some.inj hq;omega);obtain rfl:k=AA.length:=by omega
   clear NR hlt hk;go_wp2_with fail
   refine (CE _ K8).mono ?_;rintro e w9 ⟨v9,rfl,A9,k9⟩;have N9:=N8.keep k9;have CR:=Eh w9 _ _ A9.rd (by have:=Bv AA;omega);obtain⟨a9,c9,hv9,-⟩:=id A9.rd;subst hv9;clear A9 N8;go_wp2_with fail
   refine CR.mono ?_;rintro e w10 ⟨v10,rfl,O10,k10⟩;have N10:=N9.keep k10;have HN:Hid (Cd AA=Ts AA.length (AX Ah (AB AA)).length):=Lib.hid rfl;have ln:=IB Ah (AB AA);obtain⟨a10,c10,hv10,-⟩:=id O10.rd;subst hv10;clear O10 N9 CR CE;generalize (AX Ah (AB AA)).length=R at *;go_wp2;go_loopw [60] (fun i wr=>∃(k:Nat) (bv:BV),k<=R/\i = .int .i64 k/\Hid (bv.W = .slice a3 AA.length c3)/\NB w5 wr m D bv nv rv bs D AA (Ts AA.length k)) (fun i _=>R-(intOf i).toNat)
   case atStart=>exact⟨0,bv,Nat.zero_le _,rfl,hW,N10⟩
   case round=>
    clear N10 hW;obtain⟨k,bv,hk,rfl,hW,NR⟩:=hrel;by_cases hlt:k<R
    ·
     have i1:(0:Int)<=(k:Int):=Int.natCast_nonneg _;have i2:(k:Int)<(R:Int):=by omega
     have Aa:=NR.keep ((AC.refl wr).alloc (.cells #[.int .i64 (-1:Int)] 2));obtain⟨tq,tu,uD,uE,uG,uH,uI,uJ⟩:=NR.ob.cells;go_wp2_with (at_builtin;refine BB rfl _ _ rfl m _ _ rfl Aa.ob.oS _ rfl [(-1:Int)] (Nd wr (-1:Int)) (by unfold Ts;simp;omega) (by simp) (Nat.le_of_lt (Nat.lt_of_le_of_lt Aa.ob.base.1 Aa.ob.base.2)) ?_)
     intro ua xa Oa Ga Ba;obtain⟨la,ay⟩:∃l,Hid (l=(Ts AA.length k).sn++[(-1:Int)]):=⟨_,Lib.hid rfl⟩;replace Oa:BM xa m ua ((Ts AA.length k).sn++[(-1:Int)]):=Oa;rw[<-ay.out] at Oa;obtain⟨Na,Ca,Fa⟩:=Aa.Uq Ga (by rw[AD];exact Ba) Oa;obtain⟨qU,qp,rT,-⟩:=id Oa.rd;subst rT;clear tq tu uD uE uG uH uI uJ Aa NR Oa Ga Ba;go_upto_region 18 with fail
     generalize xa.setCell ⟨D,5,none⟩ (.slice qU la.length qp)=ya at *;clear Ca Fa;have Ab:=Na.keep ((AC.refl ya).alloc (.cells #[.int .i64 (-1:Int)] 2));obtain⟨uK,uM,uO,uQ,uT,uU,uV,uY⟩:=Na.ob.cells;go_wp2_with (at_builtin;refine BB rfl _ _ rfl m _ _ rfl Ab.ob.oF _ rfl [(-1:Int)] (Nd ya (-1:Int)) (by unfold Ts;simp;omega) (by simp) (Nat.le_of_lt (Nat.lt_of_le_of_lt Ab.ob.base.1 Ab.ob.base.2)) ?_)
     intro ub xb Ob Gb Bb;obtain⟨lb,Xy⟩:∃l,Hid (l=(Ts AA.length k).fr++[(-1:Int)]):=⟨_,Lib.hid rfl⟩;replace Ob:BM xb m ub ((Ts AA.length k).fr++[(-1:Int)]):=Ob;rw[<-Xy.out] at Ob;obtain⟨Nb,Cb,Fb⟩:=Ab.Up Gb (by rw[AD];exact Bb) Ob;obtain⟨qV,qw,hub,-⟩:=id Ob.rd;subst hub;clear uK uM uO uQ uT uU uV uY Ab Na Ob Gb Bb;go_upto_region 19 with fail
     generalize xb.setCell ⟨D,6,none⟩ (.slice qV lb.length qw)=yb at *;clear Cb Fb
     obtain⟨bz,hZ,NZ⟩:∃bz:BV,Hid (bz.W = .slice a3 AA.length c3)/\NB w5 yb m D bz nv rv bs D AA (Ts AA.length (k+1)):=by
      rw[ZY,<-ay.out,<-Xy.out];refine⟨_,?_,Nb⟩;exact hW
     clear Nb ay Xy;go_wp2;go_roundw;case rel=>exact⟨k+1,bz,by omega,by go_num,hZ,NZ⟩
     case measure=>simp[intOf];omega
    obtain rfl:k=R:=by omega
    have KZ:AC w wr:=K5.grown NR.sm (fun q hq=>by have:=Option.some.inj hq;omega);have LZ:=LW5.out.kept NR.sm NR.ob.nD;rw[<-hW.out] at LZ;have OA:=NR.ob.all LZ hbs;have Ur:=(NR.sm.block w.heap.size (by have:=K5.size;omega) (fun e=>by have:=Option.some.inj e;omega)).trans hR5.out;have Gs:=NR.ob.JK;rw[<-HN.out] at OA;clear NR LZ;obtain⟨nb,hnb⟩:∃nb,nb=Cd AA:=⟨_,rfl⟩;rw[<-hnb] at OA;have dG:=Lib.hid hnb;clear hnb;obtain⟨vW,vP,vL,vN,vX,vS,vF,vR⟩:=bv;obtain⟨bW,bP,bL,bN,bX,bS,bF,bR,dW,dP,dL,dN,dX,dS,dF,dR,hsh⟩:=OA.rd.shapes;injection hsh with e1 e2 e3 e4 e5 e6 e7 e8;subst e1 e2 e3 e4 e5 e6 e7 e8;have HG:=Lib.hid (Af wr w.heap.size #[.slice bW AA.length dW,.slice bP nb.AM.length dP,.slice bL nb.AO.length dL,.slice bN nb.AG.length dN,.slice bX nb.AL.length dX,.slice bS nb.sn.length dS,.slice bF nb.fr.length dF,.slice bR nb.rws.length dR]);have HZ:=Lib.hid (setRow_heap wr w.heap.size _ #[.slice bW AA.length dW,.slice bP nb.AM.length dP,.slice bL nb.AO.length dL,.slice bN nb.AG.length dN,.slice bX nb.AL.length dX,.slice bS nb.sn.length dS,.slice bF nb.fr.length dF,.slice bR nb.rws.length dR] _ _ Ur);have HO:=Lib.hid (OA.far HG.out hmw);have HK:=Lib.hid (KZ.grown HG.out (fun q hq=>Nat.le_of_eq (Option.some.inj hq)));simp only[BV.arr] at Gs;clear OA KZ hD hD5 hbs LW5 hW hlt hk;go_wp2_with (first|refine wpList_load_row rfl 36 _ rfl D rfl 36 _ (0,0) _ Gs Tryz.underlying36 rfl AK ?_|refine wpList_store_row rfl 36 _ _ rfl w.heap.size _ rfl rfl 36 _ Ur AK rfl (by simp[Value.oneCell']) ?_|fail)
    refine bodyPost_ret (BU (by rfl) _ _ w.heap.size _ _ (0,0) _ rfl HZ.out Tryz.underlying36 rfl AK) rfl ?_;exact⟨⟨.slice bW AA.length dW,.slice bP nb.AM.length dP,.slice bL nb.AO.length dL,.slice bN nb.AG.length dN,.slice bX nb.AL.length dX,.slice bS nb.sn.length dS,.slice bF nb.fr.length dF,.slice bR nb.rws.length dR⟩,nv,rv,_,rfl,by rw[<-dG.out];exact⟨HO.out.Ai.RX (Nat.le_of_lt hmw),HO.out.ln,HO.out.lr,HO.out.lw⟩,HK.out⟩
theorem SO (w:World)(v:Value)(AA:List (List Dd))(h:JJ w v AA)(hb:AQ AA=false)(hx:AA.length<=1048576)(hm:∀i,i<AA.length->(AA.getD i []).length<=1048576):
  Calls Tryz.prog 92 #[v] w fun e w'=>e=PN/\AC w w':=by
 have CW:=fun (W:World) (kW:AC w W)=>C7 W _ AA (h.keep kW) hx hm
 rw[hb] at CW;obtain⟨aD,vK,rfl,-⟩:=id h;clear h hm hb;go_enter Tryz.func92,Tryz.ntmps92
 go_wp2_with fail
 refine (CW _ ((AC.refl w).alloc _)).mono ?_;rintro e w2 ⟨rfl,k2⟩;go_wp2_with fail
 refine (Gz _).mono ?_;rintro e w3 ⟨rfl,rfl⟩;go_wp2;exact⟨rfl,rfl,((AC.refl w).alloc _).trans k2⟩
theorem Zf (p0 p1:Addr)(w:World):CallsD Tryz.prog 91 #[.pointer (some p0),.pointer (some p1)] .returning w fun e u' w'=>e = .returned (.tuple #[])/\u' = .returning/\w'=w:=by
 refine callsD_of_wpS Tryz.func91 rfl fun c₀ cs hu=>?_
 apply wpS_seq;apply wpS_region;have hn:∀w:World,(binOp BinOp.neq 20 .nilIface .nilIface).run Tryz.prog w = .ok (.bool false) w:=fun _=>by kernel_rfl
 simp[wpOpsS,go_sem,recoverD,hu,Tryz.ntmps91,Exit.thenS,hn];refine wpS_cond (t:=false) (by simp[Act.eval,Array.replicate]) ?_;simp only[Bool.false_eq_true,if_false];refine wpS_of_wp (wp_skip ?_);cases c₀;simp_all [bodyPostS,results,Tryz.results91]
theorem iJ (g g':Nat)(hne:g'≠g)(w:World)(old:Array Value)(ho:old.size=8)(x':Value)(hg:w.heap[g]? = some (.cells old 36 (0,0)))(hg':w.heap[g']? = some (.cells #[x'] 4 (0,0))):
  CallsD Tryz.prog 91 #[.pointer (some ⟨g,0,none⟩),.pointer (some ⟨g',0,none⟩)] (.panicking [{ v:=Wk,recovered:=false }]) w fun e u' w'=>e = .returned (.tuple #[])/\u' = .panicking [{ v:=Wk,recovered:=true }]/\w'=(w.setRow g #[AE,AE,AE,AE,AE,AE,AE,AE]).setCell ⟨g',0,none⟩ (.bool false):=by
 have hg2:(w.setRow g #[AE,AE,AE,AE,AE,AE,AE,AE]).heap[g']? = some (.cells #[x'] 4 (0,0)):=((Af w g #[AE,AE,AE,AE,AE,AE,AE,AE]).block g' (Array.getElem?_eq_some_iff.1 hg').1 (fun e=>hne (Option.some.inj e))).trans hg';have hc2:(w.setRow g #[AE,AE,AE,AE,AE,AE,AE,AE]).cell? ⟨g',0,none⟩=some x':=by rw[cell_of_row _ g' 0 _ _ _ hg2];rfl
 have hf2:(w.setRow g #[AE,AE,AE,AE,AE,AE,AE,AE]).frozen? ⟨g',0,none⟩=false:=frozen_of_row _ g' 0 _ _ hg2;have hv:∀w:World,(binOp BinOp.neq 20 Wk .nilIface).run Tryz.prog w = .ok (.bool true) w:=fun _=>by kernel_rfl
 refine callsD_of_wpS Tryz.func91 rfl fun c₀ cs hu=>?_
 apply wpS_seq;apply wpS_region;simp[wpOpsS,go_sem,recoverD,hu,Tryz.ntmps91,Exit.thenS,hv];refine wpS_cond (t:=true) (by simp[Act.eval,Array.replicate]) ?_;simp only[if_true];refine wpS_of_wp ?_;go_wp2_with (first|refine wpList_store_row rfl 36 _ _ rfl g _ rfl rfl 36 _ hg AK ho (by simp[Value.oneCell']) ?_|fail)
 cases c₀;simp_all [bodyPostS,results,Tryz.results91]
theorem Hc {P:Program}{fn:Func}{p q:Tmp}{ty ty':TypeId}(h:fn.results=#[.cell p ty,.cell q ty'])(tmps:Array Value)(w:World)(g g':Nat)(t:TypeId)(cs:Array Value)(fr:Nat×Nat)(d:TypeDesc){x:Value}
  (hp:tmps.getD p undef = .pointer (some ⟨g,0,none⟩)) (hg:w.heap[g]? = some (.cells cs t fr)) (hq:tmps.getD q undef = .pointer (some ⟨g',0,none⟩)) (hc:w.cell? ⟨g',0,none⟩=some x)
  (hu:P.underlying ty=some d) (hd:(match d with | .struct _ | .array _ _=>true|_=>false)=true) (hi:(P.info? ty).map (·.size)=some cs.size) (hagg:(isAgg ty').run P w = .ok false w):
  (results fn tmps).run P w = .ok (.tuple #[.agg cs,x]) w:=by
 have hp':tmps[p]?.getD undef = .pointer (some ⟨g,0,none⟩):=by simpa using hp
 have hq':tmps[q]?.getD undef = .pointer (some ⟨g',0,none⟩):=by simpa using hq
 have hl:(loadVar ty' ⟨g',0,none⟩).run P w = .ok x w:=by
  simp[Sem.run_bind,Result.andThen,loadVar,load,hagg];simp[Sem.run,hc]
 simp[results,h,hp',hq',asAddr,run_loadVar_row w g t ty cs fr d hg hu hd hi,hl]
theorem PP (w:World)(m:Nat):Fy w m RY [] [] [] [] MV:=by
 have hv:∀i,Ew [] [] [] i->(JE RY [] [] [] [] MV i).v.ownBlock=none:=fun i hi=>by
  cases i with
  |wk=>rfl
  |wd c=>exact absurd (show c<0 from hi) (by omega)
  |b i=>
   cases i with
   |bd=>exact absurd rfl hi.2
   |nt c=>exact absurd (show c<0 from hi.1) (by omega)
   |rw c=>exact absurd (show c<0 from hi.1) (by omega)
   |_=>rfl
 refine⟨⟨fun i hi=>?_,fun i j hi _ _ => .inl (hv i hi)⟩,rfl,rfl,rfl⟩
 cases i with
 |wk=>exact⟨rfl,.inl ⟨rfl,rfl⟩⟩
 |wd c=>exact absurd (show c<0 from hi) (by omega)
 |b i=>
  cases i with
  |bd=>exact absurd rfl hi.2
  |nt c=>exact absurd (show c<0 from hi.1) (by omega)
  |rw c=>exact absurd (show c<0 from hi.1) (by omega)
  |_=>exact⟨rfl,.inl ⟨rfl,rfl⟩⟩
theorem LD (w:World)(v:Value)(AA:List (List Dd))(h:JJ w v AA)(hx:AA.length<=1048576)(hm:∀i,i<AA.length->(AA.getD i []).length<=1048576):
  Calls Tryz.prog 62 #[v] w fun e w'=>∃bv:BV,e = .returned (.tuple #[bv.agg,.bool (AQ AA)])/\Cf w' w.heap.size w'.heap.size bv (MG AA) (OG AA)/\AC w w':=by
 have CN:=fun (W:World) (kW:AC w W) (e:AQ AA=false)=>SO W _ AA (h.keep kW) e hx hm
 have CY:=fun (W:World) (kW:AC w W) (e:AQ AA=true)=>QY W _ AA (h.keep kW) e hx hm
 have HD:Hid (MG AA=if AQ AA=true then AA else []):=Lib.hid rfl;have HB:Hid (OG AA=if AQ AA=true then Cd AA else MV):=Lib.hid rfl;obtain⟨aD,vK,rfl,-⟩:=id h;clear h hm;have vV:∀(fn:Fn) (first cap:Array Value) (w:World),(Instr.makeFunc fn first cap).run Tryz.prog w = .ok (.func fn first cap) w:=fun _ _ _ _=>rfl
 obtain⟨w1,hw1⟩:∃W:World,W=((w.alloc (.cells #[AE,AE,AE,AE,AE,AE,AE,AE] 36)).alloc (.cells #[.bool false] 4)):=⟨_,rfl⟩;have K1:AC w w1:=by rw[hw1];exact ((AC.refl w).alloc _).alloc _
 have s1:w1.heap.size=w.heap.size+2:=by rw[hw1,AD,AD]
 have hV1:w1.heap[w.heap.size+1]? = some (.cells #[.bool false] 4 (0,0)):=by
  rw[hw1,Bw,if_pos (by rw[AD])]
 have hR1:w1.heap[w.heap.size]? = some (.cells #[AE,AE,AE,AE,AE,AE,AE,AE] 36 (0,0)):=by rw[hw1];exact (Below.block ((AC.refl _).alloc _) _ (by rw[AD];omega)).trans (heap_alloc_new _ _)
 go_enter_defers Tryz.func62,Tryz.ntmps62
 go_upto_region 2 with fail
 rw[<-hw1];clear hw1;cases hb:AQ AA
 ·
  have C:=CN _ K1 hb;have wP:Hid (MG AA=[]):=Lib.hid (by rw[HD.out,hb];rfl);have uh:Hid (OG AA=MV):=Lib.hid (by rw[HB.out,hb];rfl);clear CN CY HD HB;go_wp2_with fail
  refine C.mono ?_;rintro e w2 ⟨rfl,k2⟩;have K2:=K1.trans k2;have z2:=k2.size;have hR2:=(Below.block k2 w.heap.size (by omega)).trans hR1;have hV2:=(Below.block k2 (w.heap.size+1) (by omega)).trans hV1;have g3:=Af w2 w.heap.size #[AE,AE,AE,AE,AE,AE,AE,AE];have h3:=setRow_heap w2 w.heap.size _ #[AE,AE,AE,AE,AE,AE,AE,AE] _ _ hR2;have v3:=(g3.block (w.heap.size+1) (by omega) (fun e=>by have:=Option.some.inj e;omega)).trans hV2;have v4:=heap_setCell_same _ (w.heap.size+1) 0 _ _ (.bool false) v3;have h4:=(heap_setCell_other (w2.setRow w.heap.size #[AE,AE,AE,AE,AE,AE,AE,AE]) ⟨w.heap.size+1,0,none⟩ w.heap.size (.bool false) (by show w.heap.size≠w.heap.size+1;omega)).trans h3;have g4:=Ae (w2.setRow w.heap.size #[AE,AE,AE,AE,AE,AE,AE,AE]) (w.heap.size+1) 0 (.bool false);have HR3:=Lib.hid h4;have HC3:Hid (((w2.setRow w.heap.size #[AE,AE,AE,AE,AE,AE,AE,AE]).setCell ⟨w.heap.size+1,0,none⟩ (.bool false)).cell? ⟨w.heap.size+1,0,none⟩=some (.bool false)):=Lib.hid (by rw[cell_of_row _ _ 0 _ _ _ v4];rfl);have KZ:=Lib.hid ((K2.grown g3 (fun k hk=>by have:=Option.some.inj hk;omega)).grown g4 (fun k hk=>by have:=Option.some.inj hk;omega));have c3:(w2.setRow w.heap.size #[AE,AE,AE,AE,AE,AE,AE,AE]).cell? ⟨w.heap.size+1,0,none⟩=some (.bool false):=by rw[cell_of_row _ _ 0 _ _ _ v3];rfl
  have f3:=frozen_of_row (w2.setRow w.heap.size #[AE,AE,AE,AE,AE,AE,AE,AE]) (w.heap.size+1) 0 _ _ v3;clear g3 h3 v3 v4 h4 g4 c3 f3 hR1 hV1;go_wp2;refine leaves_cons (f:=91) (args:=#[.pointer (some ⟨w.heap.size,0,none⟩),.pointer (some ⟨w.heap.size+1,0,none⟩)]) (by simp) (by simp[go_sem]) ?_;refine (iJ _ _ (by omega) _ _ rfl _ hR2 hV2).mono ?_;rintro e u' w9 ⟨rfl,rfl,rfl⟩;have hres:=fun (tmps:Array Value) (h0:tmps.getD 2 undef = .pointer (some ⟨w.heap.size,0,none⟩)) (h1:tmps.getD 3 undef = .pointer (some ⟨w.heap.size+1,0,none⟩))=>Hc (P:=Tryz.prog) (fn:=Tryz.f62) (by rfl) tmps _ w.heap.size (w.heap.size+1) 36 _ (0,0) _ h0 HR3.out h1 HC3.out Tryz.underlying36 rfl AK (by kernel_rfl)
  show ∃v,(results _ _).run Tryz.prog _ = .ok v _/\_;refine⟨_,hres _ rfl rfl,?_⟩;exact⟨RY,by rw[hb],by rw[wP.out,uh.out];exact (PP _ _).free,KZ.out⟩
 ·
  have C:=CY _ K1 hb;have wP:Hid (MG AA=AA):=Lib.hid (by rw[HD.out,hb];rfl);have uh:Hid (OG AA=Cd AA):=Lib.hid (by rw[HB.out,hb];rfl);clear CN CY HD HB;go_wp2_with fail
  refine C.mono ?_;rintro e w2 ⟨bv,nv,rv,wv,rfl,OA,k2⟩;have K2:=K1.trans k2;have z2:=k2.size;have hR2:=(Below.block k2 w.heap.size (by omega)).trans hR1;have hV2:=(Below.block k2 (w.heap.size+1) (by omega)).trans hV1;obtain⟨nb,hnb⟩:∃nb,nb=Cd AA:=⟨_,rfl⟩;rw[<-hnb] at OA uh;clear hnb C;obtain⟨vW,vP,vL,vN,vX,vS,vF,vR⟩:=bv;obtain⟨bW,bP,bL,bN,bX,bS,bF,bR,dW,dP,dL,dN,dX,dS,dF,dR,hsh⟩:=OA.rd.shapes;injection hsh with e1 e2 e3 e4 e5 e6 e7 e8;subst e1 e2 e3 e4 e5 e6 e7 e8;have g3:=Af w2 w.heap.size #[.slice bW AA.length dW,.slice bP nb.AM.length dP,.slice bL nb.AO.length dL,.slice bN nb.AG.length dN,.slice bX nb.AL.length dX,.slice bS nb.sn.length dS,.slice bF nb.fr.length dF,.slice bR nb.rws.length dR];have h3:=setRow_heap w2 w.heap.size _ #[.slice bW AA.length dW,.slice bP nb.AM.length dP,.slice bL nb.AO.length dL,.slice bN nb.AG.length dN,.slice bX nb.AL.length dX,.slice bS nb.sn.length dS,.slice bF nb.fr.length dF,.slice bR nb.rws.length dR] _ _ hR2;have v3:=(g3.block (w.heap.size+1) (by omega) (fun e=>by have:=Option.some.inj e;omega)).trans hV2;have v4:=heap_setCell_same _ (w.heap.size+1) 0 _ _ (.bool true) v3;have h4:=(heap_setCell_other (w2.setRow w.heap.size #[.slice bW AA.length dW,.slice bP nb.AM.length dP,.slice bL nb.AO.length dL,.slice bN nb.AG.length dN,.slice bX nb.AL.length dX,.slice bS nb.sn.length dS,.slice bF nb.fr.length dF,.slice bR nb.rws.length dR]) ⟨w.heap.size+1,0,none⟩ w.heap.size (.bool true) (by show w.heap.size≠w.heap.size+1;omega)).trans h3;have g4:=Ae (w2.setRow w.heap.size #[.slice bW AA.length dW,.slice bP nb.AM.length dP,.slice bL nb.AO.length dL,.slice bN nb.AG.length dN,.slice bX nb.AL.length dX,.slice bS nb.sn.length dS,.slice bF nb.fr.length dF,.slice bR nb.rws.length dR]) (w.heap.size+1) 0 (.bool true);have HR3:=Lib.hid h4;have HC3:Hid (((w2.setRow w.heap.size #[.slice bW AA.length dW,.slice bP nb.AM.length dP,.slice bL nb.AO.length dL,.slice bN nb.AG.length dN,.slice bX nb.AL.length dX,.slice bS nb.sn.length dS,.slice bF nb.fr.length dF,.slice bR nb.rws.length dR]).setCell ⟨w.heap.size+1,0,none⟩ (.bool true)).cell? ⟨w.heap.size+1,0,none⟩=some (.bool true)):=Lib.hid (by rw[cell_of_row _ _ 0 _ _ _ v4];rfl);have KZ:=Lib.hid ((K2.grown g3 (fun k hk=>by have:=Option.some.inj hk;omega)).grown g4 (fun k hk=>by have:=Option.some.inj hk;omega));have c3:(w2.setRow w.heap.size #[.slice bW AA.length dW,.slice bP nb.AM.length dP,.slice bL nb.AO.length dL,.slice bN nb.AG.length dN,.slice bX nb.AL.length dX,.slice bS nb.sn.length dS,.slice bF nb.fr.length dF,.slice bR nb.rws.length dR]).cell? ⟨w.heap.size+1,0,none⟩=some (.bool false):=by rw[cell_of_row _ _ 0 _ _ _ v3];rfl
  have f3:=frozen_of_row (w2.setRow w.heap.size #[.slice bW AA.length dW,.slice bP nb.AM.length dP,.slice bL nb.AO.length dL,.slice bN nb.AG.length dN,.slice bX nb.AL.length dX,.slice bS nb.sn.length dS,.slice bF nb.fr.length dF,.slice bR nb.rws.length dR]) (w.heap.size+1) 0 _ _ v3;have O4:=Lib.hid ((OA.far g3 (by omega)).far g4 (by omega));clear g3 h3 v3 v4 h4 g4 hR1 hV1 OA;go_wp2_with (first|refine wpList_store_row rfl 36 _ _ rfl w.heap.size _ rfl rfl 36 _ hR2 AK rfl (by simp[Value.oneCell']) ?_|fail)
  refine leaves_cons (f:=91) (args:=#[.pointer (some ⟨w.heap.size,0,none⟩),.pointer (some ⟨w.heap.size+1,0,none⟩)]) (by simp) (by simp[go_sem]) ?_;refine (Zf _ _ _).mono ?_;rintro e u' w9 ⟨rfl,rfl,rfl⟩;have hres:=fun (tmps:Array Value) (h0:tmps.getD 2 undef = .pointer (some ⟨w.heap.size,0,none⟩)) (h1:tmps.getD 3 undef = .pointer (some ⟨w.heap.size+1,0,none⟩))=>Hc (P:=Tryz.prog) (fn:=Tryz.f62) (by rfl) tmps _ w.heap.size (w.heap.size+1) 36 _ (0,0) _ h0 HR3.out h1 HC3.out Tryz.underlying36 rfl AK (by kernel_rfl)
  show ∃v,(results _ _).run Tryz.prog _ = .ok v _/\_;refine⟨_,hres _ rfl rfl,?_⟩;exact⟨⟨_,_,_,_,_,_,_,_⟩,by rw[hb],by rw[wP.out,uh.out];exact Fy.free ⟨O4.out.Ai.RX (by omega),O4.out.ln,O4.out.lr,O4.out.lw⟩,KZ.out⟩
end Go.Proofs.YtnmelakgmgenjaaGreat
