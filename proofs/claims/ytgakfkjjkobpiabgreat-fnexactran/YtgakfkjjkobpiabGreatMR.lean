/- Gathered texts. -/
import Derived.Test.YtgakfkjjkobpiabGreatMQ
import Derived.BigQuiet
import Derived.Deep.Cut
import Derived.RegionTactic
import Derived.Maps.AppendAt
import Derived.Defers
import Derived.Recover
import Derived.Lib.Hide
import Derived.Laws.Rows
set_option maxRecDepth 100000
set_option maxHeartbeats 8000000
namespace Go.Proofs.YtgakfkjjkobpiabGreat
open Go.ChangeShapes Go.WideShapes Go.ChangeAt Go.RowKit
theorem work_any (w:World)(m:Nat)(v:BV)(nv rv:List Value)(bs N:Nat)(dss:List (List Dd))(b:Bd)(n c:Nat)(h:OwnVal w m v nv rv bs N dss b)(S:Shp dss b n)(hn:n≤900)(hm:m≤w.heap.size)(hc:c<dss.length)(h0:0≤b.nxt.getD c 0)(hk:nxN b c<(dss.getD c []).length)(h3:(dAt dss c (nxN b c)).1=3→b.nts.getD c []=[]):
  Calls Tryz.prog 73 #[v.agg,.int .i64 c] w fun e w'=>e = .returned (.tuple #[])∧∃nv' rv',OwnVal w' m v nv' rv' bs N dss (stepM dss (eventsB dss) b (c:Int))∧TurnB w w' (blkV v nv rv) (blkV v nv' rv'):=by
 have hd3:dss.length≤3:=(workB_useR S.work).1;have WK0:=Lib.hid (WK.start S hn hc h0 hk (by omega));obtain⟨T,hT⟩:∃T,T=stepM dss (eventsB dss) b (c:Int):=⟨_,rfl⟩;obtain⟨g,hg⟩:∃g,g=gAt dss c (nxN b c):=⟨_,rfl⟩;rw[←hT,←hg] at WK0;have h5:=work_five S.work hc;have XOK:=Lib.hid (okC_of S.work hc);have lX:c<b.nxt.length:=by rw[S.nxt];exact hc
 have XS:=Lib.hid S;obtain⟨aW,aP,aL,aN,aX,aS,aF,aR,cW,cP,cL,cQ,cX,cS,cF,cR,rfl⟩:=h.rd0.shapes;have O1:=h.box hm;obtain⟨gx,cx,ex,-⟩:=O1.oX.lit lX;simp only[Value.slice.injEq] at ex;obtain⟨rfl,-,rfl⟩:=ex;obtain⟨a',c',ew,hW⟩:=O1.rd.W;simp only[Value.slice.injEq] at ew;obtain⟨rfl,-,rfl⟩:=ew;rcases hW with q|⟨bw,ow,rfl,hbw,hcw⟩
 · exfalso;rw[q] at hc;simp at hc
 obtain⟨vd,dw,rd⟩:=hcw c hc;obtain⟨ds,hds⟩:∃ds,ds=dss.getD c []:=⟨_,rfl⟩;rw[←hds] at rd h5;obtain⟨ad,cd,rfl,-⟩:=id rd;have CN:=doNext_any w;obtain⟨w1,hw1⟩:∃W:World,W=w.alloc (.cells #[.slice (some ⟨bw,ow,none⟩) dss.length cW,.slice aP b.plc.length cP,.slice aL b.lst.length cL,.slice aN b.nts.length cQ,.slice (some ⟨gx,0,none⟩) b.nxt.length cX,.slice aS b.sn.length cS,.slice aF b.fr.length cF,.slice aR b.rws.length cR] 32):=⟨_,rfl⟩;have y1w:w1.heap.size=w.heap.size+1:=by rw[hw1,heap_size]
 have K01:Keep w w1:=by rw[hw1];exact (Keep.refl w).alloc _
 replace O1:OwnBd w1 m w.heap.size ⟨.slice (some ⟨bw,ow,none⟩) dss.length cW,.slice aP b.plc.length cP,.slice aL b.lst.length cL,.slice aN b.nts.length cQ,.slice (some ⟨gx,0,none⟩) b.nxt.length cX,.slice aS b.sn.length cS,.slice aF b.fr.length cF,.slice aR b.rws.length cR⟩ nv rv bs N dss b:=by rw[hw1];exact O1
 replace dw:w1.cell? ⟨bw,ow+c,none⟩=some (.slice ad ds.length (ds.length+cd)):=by rw[hw1];exact dw
 have XO:=Lib.hid O1
 have XL:Hid (∀(W:World) (F':Nat→Prop),TurnB w1 W (blkV ⟨.slice (some ⟨bw,ow,none⟩) dss.length cW,.slice aP b.plc.length cP,.slice aL b.lst.length cL,.slice aN b.nts.length cQ,.slice (some ⟨gx,0,none⟩) b.nxt.length cX,.slice aS b.sn.length cS,.slice aF b.fr.length cF,.slice aR b.rws.length cR⟩ nv rv) F'→RdD W (.slice ad ds.length (ds.length+cd)) ds):=Lib.hid (fun W F' t=>by
  obtain⟨a2,c2,e2,hx⟩:=O1.work;simp only[Value.slice.injEq,true_and] at e2;rcases hx with q|⟨b2,o2,q1,q2,q3,q4,q5⟩
  · exfalso;rw[q] at hc;simp at hc
  rw[q1] at e2;simp only[Option.some.injEq,Addr.mk.injEq,and_true] at e2;obtain⟨⟨rfl,rfl⟩,-⟩:=e2;obtain⟨vi,u1,u2,u3⟩:=q5 c hc;rw[dw] at u1;have u4:=Option.some.inj u1;subst u4;rw[←hds] at u2
  exact (AppD.ownD (own_same (r:=ddR ds _) u2 (fun g hg=>t.block g (World.ownsRow.lt u2 g hg).2 (fun hB=>by
   have:=(XO.out.blk g (blk_of hB)).2.2;have:=(World.ownsRow.lt u2 g hg).1;have:=u3 g hg
   omega)))).rd)
 have XV:=Lib.hid (h.keep K01);have NB:Hid (∀q,blkV ⟨.slice (some ⟨bw,ow,none⟩) dss.length cW,.slice aP b.plc.length cP,.slice aL b.lst.length cL,.slice aN b.nts.length cQ,.slice (some ⟨gx,0,none⟩) b.nxt.length cX,.slice aS b.sn.length cS,.slice aF b.fr.length cF,.slice aR b.rws.length cR⟩ nv rv q→q<w.heap.size):=Lib.hid (fun q hq=>(h.blk q hq).2.1);have c0:w1.cell? ⟨w.heap.size,0,none⟩=some (.slice (some ⟨bw,ow,none⟩) dss.length cW):=O1.cells.1;have i1:(0:Int)≤(c:Int):=Int.natCast_nonneg _;have i2:(c:Int)<(dss.length:Int):=by omega
 have hDw:=O1.heapD;simp only[BV.arr] at hDw;have HDS:=Lib.hid hds;have XD1:=Lib.hid hDw;have HT:=Lib.hid hT;have hm1:m≤w1.heap.size:=by omega
 have CD:=doNext_any w1 m _ nv rv bs N dss b n c XV.out S (by omega) hm1 hc h0 hk h3;clear hcw O1 h S h3 hds hT hg rd CN hk;go_enter Tryz.func73,Tryz.ntmps73
 go_upto_region 1 with fail
 rw[←hw1];clear hw1;go_wp2_with (first|refine wpList_load_row rfl 32 _ rfl w.heap.size rfl 32 _ (0,0) _ hDw Tryz.underlying32 rfl board_info ?_|fail)
 refine CD.mono ?_;rintro e w2 ⟨rfl,nv2,rv2,V2,T2⟩;have XV2:=Lib.hid V2;have XT2:=Lib.hid T2;have nD:∀F',TurnB w1 w2 (blkV ⟨.slice (some ⟨bw,ow,none⟩) dss.length cW,.slice aP b.plc.length cP,.slice aL b.lst.length cL,.slice aN b.nts.length cQ,.slice (some ⟨gx,0,none⟩) b.nxt.length cX,.slice aS b.sn.length cS,.slice aF b.fr.length cF,.slice aR b.rws.length cR⟩ nv rv) F'→w2.heap[w.heap.size]? = w1.heap[w.heap.size]?:=fun F' t=>t.block _ (by omega) (fun q=>by have:=NB.out _ q;omega)
 have hD2:=(nD _ T2).trans hDw;clear V2 T2 nD CD dw c0 hDw XV XO;go_wp2;go_loopw [] (fun wr=>∃(nv' rv':List Value) (b':Bd) (n':Nat),OwnVal wr m ⟨.slice (some ⟨bw,ow,none⟩) dss.length cW,.slice aP b.plc.length cP,.slice aL b.lst.length cL,.slice aN b.nts.length cQ,.slice (some ⟨gx,0,none⟩) b.nxt.length cX,.slice aS b.sn.length cS,.slice aF b.fr.length cF,.slice aR b.rws.length cR⟩ nv' rv' bs N dss b'∧TurnB w1 wr (blkV ⟨.slice (some ⟨bw,ow,none⟩) dss.length cW,.slice aP b.plc.length cP,.slice aL b.lst.length cL,.slice aN b.nts.length cQ,.slice (some ⟨gx,0,none⟩) b.nxt.length cX,.slice aS b.sn.length cS,.slice aF b.fr.length cF,.slice aR b.rws.length cR⟩ nv rv) (blkV ⟨.slice (some ⟨bw,ow,none⟩) dss.length cW,.slice aP b.plc.length cP,.slice aL b.lst.length cL,.slice aN b.nts.length cQ,.slice (some ⟨gx,0,none⟩) b.nxt.length cX,.slice aS b.sn.length cS,.slice aF b.fr.length cF,.slice aR b.rws.length cR⟩ nv' rv')∧WK dss c g T b' n') (fun wr=>match wr.cell? ⟨gx,c,none⟩ with|some x=>ds.length-(intOf x).toNat|none=>0)
 case atStart=>exact⟨nv2,rv2,_,_,XV2.out,XT2.out,WK0.out⟩
 case round=>
  obtain⟨nv',rv',b',n',VJ,TJ,KJ⟩:=hrel;clear XV2 XT2 hD2;have lXJ:c<b'.nxt.length:=by rw[KJ.shp.nxt];exact hc
  obtain⟨gx',cx',ex',lgx,dXJ,-⟩:=(show Own wr m (BV.X ⟨.slice (some ⟨bw,ow,none⟩) dss.length cW,.slice aP b.plc.length cP,.slice aL b.lst.length cL,.slice aN b.nts.length cQ,.slice (some ⟨gx,0,none⟩) b.nxt.length cX,.slice aS b.sn.length cS,.slice aF b.fr.length cF,.slice aR b.rws.length cR⟩) b'.nxt from VJ.fam.own .nxt ⟨trivial,by simp⟩).lit lXJ;have ex2:Value.slice (some ⟨gx,0,none⟩) b.nxt.length cX = .slice (some ⟨gx',0,none⟩) b'.nxt.length cx':=ex';simp only[Value.slice.injEq,Option.some.injEq,Addr.mk.injEq,and_true] at ex2;obtain⟨k,hkz⟩:=Int.eq_ofNat_of_zero_le KJ.z;have hkn:nxN b' c=k:=by unfold nxN;rw[hkz];rfl
  have dXc:wr.cell? ⟨gx,c,none⟩=some (.int .i64 (k:Int)):=by rw[ex2.1,←hkz];exact dXJ c lXJ
  have XKJ:=Lib.hid KJ;have hle:=KJ.le;rw[hkn,←HDS.out] at hle;have hDr:wr.heap[w.heap.size]? = some (.cells #[.slice (some ⟨bw,ow,none⟩) dss.length cW,.slice aP b.plc.length cP,.slice aL b.lst.length cL,.slice aN b.nts.length cQ,.slice (some ⟨gx,0,none⟩) b.nxt.length cX,.slice aS b.sn.length cS,.slice aF b.fr.length cF,.slice aR b.rws.length cR] 32 (0,0)):=(TJ.block _ (by omega) (fun q=>by have:=NB.out _ q;omega)).trans XD1.out;have c4:wr.cell? ⟨w.heap.size,4,none⟩=some (.slice (some ⟨gx,0,none⟩) b.nxt.length cX):=by rw[cell_of_row wr _ 4 _ _ _ hDr];rfl
  have XVJ:=Lib.hid VJ;have XTJ:=Lib.hid TJ;have XLJ:=Lib.hid (XL.out wr _ TJ);have i3:(c:Int)<(b.nxt.length:Int):=by omega
  have i4:(0:Int)≤(k:Int):=Int.natCast_nonneg _
  have HEND:Hid (¬(k<ds.length∧goB ds k=true)→∃nv'' rv'',OwnVal wr m ⟨.slice (some ⟨bw,ow,none⟩) dss.length cW,.slice aP b.plc.length cP,.slice aL b.lst.length cL,.slice aN b.nts.length cQ,.slice (some ⟨gx,0,none⟩) b.nxt.length cX,.slice aS b.sn.length cS,.slice aF b.fr.length cF,.slice aR b.rws.length cR⟩ nv'' rv'' bs N dss T∧TurnB w wr (blkV ⟨.slice (some ⟨bw,ow,none⟩) dss.length cW,.slice aP b.plc.length cP,.slice aL b.lst.length cL,.slice aN b.nts.length cQ,.slice (some ⟨gx,0,none⟩) b.nxt.length cX,.slice aS b.sn.length cS,.slice aF b.fr.length cF,.slice aR b.rws.length cR⟩ nv rv) (blkV ⟨.slice (some ⟨bw,ow,none⟩) dss.length cW,.slice aP b.plc.length cP,.slice aL b.lst.length cL,.slice aN b.nts.length cQ,.slice (some ⟨gx,0,none⟩) b.nxt.length cX,.slice aS b.sn.length cS,.slice aF b.fr.length cF,.slice aR b.rws.length cR⟩ nv'' rv'')):=Lib.hid (fun hno=>by
   obtain⟨mm,-,hT⟩:=XKJ.out.go;rw[hkn,←HDS.out,if_neg hno] at hT
   exact⟨nv',rv',by rw[hT];exact XVJ.out,((TurnB.refl w _).keep K01).trans XTJ.out⟩)
  clear VJ TJ KJ ex' ex2 dXJ;by_cases hl:k<ds.length
  ·
   have hd:decide ((k:Int)<(ds.length:Int))=true:=decide_eq_true (by omega)
   cases hgo:goB ds k with
   |true=>
    have CGO:∀q,Calls Tryz.prog 100 #[.slice ad ds.length (ds.length+cd),.int .i64 (k:Int)] (wr.drewN q) fun e w'=>e = .returned (.bool true)∧∃r,w'=(wr.drewN q).drewN r:=fun q=>by
     rw[←hgo];exact goesOn_quiet (wr.drewN q) _ ds (XLJ.out.keep ((Keep.refl wr).drewN q)) k hl (by omega)
    obtain⟨g1,g2⟩:=XKJ.out.gg (by rw[hkn,←HDS.out];exact hl) (by rw[hkn,←HDS.out];exact hgo);rw[hkn] at g1;have CD:=fun (W:World) (kW:Keep wr W)=>doNext_any W m _ nv' rv' bs N dss b' n' c (XVJ.out.keep kW) XKJ.out.shp (by have:=XKJ.out.nt;omega) (Nat.le_trans (show m≤wr.heap.size by have:=XTJ.out.size;omega) kW.size) hc XKJ.out.z (by rw[hkn,←HDS.out];exact hl) (fun q3=>absurd q3 (num_grp XOK.out (by rw[hkn,←HDS.out];exact hl) (by rw[hkn,g1];exact g2)).2.1)
    clear hle HEND;go_upto_region 3 with fail
    go_quiet ((first|(go_at_call 99;exact Calls.quiet_of_same (count_any _ _ _ _))|(go_at_call 100;exact Calls.quiet_of (CGO _))))
    have hDw:(wr.drewN nq).heap[w.heap.size]? = some (.cells #[.slice (some ⟨bw,ow,none⟩) dss.length cW,.slice aP b.plc.length cP,.slice aL b.lst.length cL,.slice aN b.nts.length cQ,.slice (some ⟨gx,0,none⟩) b.nxt.length cX,.slice aS b.sn.length cS,.slice aF b.fr.length cF,.slice aR b.rws.length cR] 32 (0,0)):=hDr;go_wp2_with (first|refine wpList_load_row rfl 32 _ rfl w.heap.size rfl 32 _ (0,0) _ hDw Tryz.underlying32 rfl board_info ?_|fail)
    refine (CD _ ((Keep.refl wr).drewN _)).mono ?_;rintro e w5 ⟨rfl,nv5,rv5,V5,T5⟩;have HS:=XKJ.out.step hc (by rw[hkn,←HDS.out];exact hl) (by rw[hkn,←HDS.out];exact hgo);have T6:=(XTJ.out.keep ((Keep.refl wr).drewN _)).trans T5;obtain⟨e1,e2⟩:=one_nxN (dss:=dss) (es:=eventsB dss) lXJ XKJ.out.z;obtain⟨gx',cx',ex',-,dX5,-⟩:=(show Own w5 m (BV.X ⟨.slice (some ⟨bw,ow,none⟩) dss.length cW,.slice aP b.plc.length cP,.slice aL b.lst.length cL,.slice aN b.nts.length cQ,.slice (some ⟨gx,0,none⟩) b.nxt.length cX,.slice aS b.sn.length cS,.slice aF b.fr.length cF,.slice aR b.rws.length cR⟩) _ from V5.fam.own .nxt ⟨trivial,by simp⟩).lit (show c<(oneM dss (eventsB dss) b' c).nxt.length by rw[HS.shp.nxt];exact hc);have ex2:Value.slice (some ⟨gx,0,none⟩) b.nxt.length cX = .slice (some ⟨gx',0,none⟩) (oneM dss (eventsB dss) b' c).nxt.length cx':=ex';simp only[Value.slice.injEq,Option.some.injEq,Addr.mk.injEq,and_true] at ex2
    have dXn:w5.cell? ⟨gx,c,none⟩=some (.int .i64 ((k:Int)+1)):=by
     have:=dX5 c (by rw[HS.shp.nxt];exact hc);rw[e1,hkz,←ex2.1] at this;exact this
    have HV5:=Lib.hid V5;have HT6:=Lib.hid T6;have HSS:=Lib.hid HS;clear V5 T5 T6 HS dX5 ex' ex2 hDw CGO CD;go_wp2;go_roundw;case rel=>exact⟨nv5,rv5,_,_,HV5.out,HT6.out,HSS.out⟩
    case measure=>simp only[dXn,dXc,intOf];omega
   |false=>
    have CGO:∀q,Calls Tryz.prog 100 #[.slice ad ds.length (ds.length+cd),.int .i64 (k:Int)] (wr.drewN q) fun e w'=>e = .returned (.bool false)∧∃r,w'=(wr.drewN q).drewN r:=fun q=>by
     rw[←hgo];exact goesOn_quiet (wr.drewN q) _ ds (XLJ.out.keep ((Keep.refl wr).drewN q)) k hl (by omega)
    obtain⟨nz,rz,VZ,TZ⟩:=HEND.out (fun q=>by rw[hgo] at q;simp at q);have HV:=Lib.hid VZ;have HZ:=Lib.hid TZ;clear hle HEND VZ TZ;go_upto_region 3 with fail
    go_quiet ((first|(go_at_call 99;exact Calls.quiet_of_same (count_any _ _ _ _))|(go_at_call 100;exact Calls.quiet_of (CGO _))))
    go_wp2;go_end0;exact⟨rfl,nz,rz,by rw[←HT.out];exact HV.out.keep ((Keep.refl wr).drewN _),HZ.out.keep ((Keep.refl wr).drewN _)⟩
  ·
   have hd:decide ((k:Int)<(ds.length:Int))=false:=decide_eq_false (by omega);obtain⟨nz,rz,VZ,TZ⟩:=HEND.out (fun q=>hl q.1);have HV:=Lib.hid VZ;have HZ:=Lib.hid TZ;clear hle HEND VZ TZ;go_upto_region 3 with fail
   go_quiet ((first|(go_at_call 99;exact Calls.quiet_of_same (count_any _ _ _ _))|fail))
   go_wp2;go_end0;exact⟨rfl,nz,rz,by rw[←HT.out];exact HV.out.keep ((Keep.refl wr).drewN _),HZ.out.keep ((Keep.refl wr).drewN _)⟩
theorem blkI_V {v:BV}{nv rv:List Value}{g:Nat}(h:blkI v rv g):blkV v nv rv g:=by
 obtain⟨i,hi,e⟩:=h
 cases i with
 |plc=>exact⟨.plc,trivial,by simp,e⟩
 |lst=>exact⟨.lst,trivial,by simp,e⟩
 |rws=>exact⟨.rws,trivial,by simp,e⟩
 |rw p=>exact⟨.rw p,hi,by simp,e⟩
 |bd=>exact hi.elim
 |nts=>exact hi.elim
 |nxt=>exact hi.elim
 |sn=>exact hi.elim
 |fr=>exact hi.elim
 |nt c=>exact hi.elim
theorem bring_any (w:World)(m:Nat)(v:BV)(nv rv wv:List Value)(bs N:Nat)(dss:List (List Dd))(b:Bd)(n c:Nat)(x:Nt)(r:List Nt)(h:OwnVal w m v nv rv bs N dss b)(lw:OwnLW w bs N v.W wv dss)(hbs:m≤bs)(S:Shp dss b n)(hn:n≤1000)(hm:m≤w.heap.size)(hc:c<dss.length)(hz:b.nts.getD c []=x::r)(hx:0≤x.1∧x.1≤2):
  Calls Tryz.prog 74 #[v.agg,.int .i64 c] w fun e w'=>e = .returned (.tuple #[])∧FreeBd w' m w'.heap.size v dss (flushM b c)∧∃F',TurnB w w' (blkV v nv rv) F':=by
 have hcn:c<b.nts.length:=by rw[S.nts];exact hc
 obtain⟨x0,x1,x2⟩:=x;simp only at hx;obtain⟨p,rfl⟩:=Int.eq_ofNat_of_zero_le hx.1;have hp3:p<3:=by omega
 have HM:Hid (flushM b c=inkM { b with nts:=b.nts.set c r } p x1 x2):=Lib.hid (by unfold flushM;rw[hz];simp);have XS:=Lib.hid S;have lp:p<b.plc.length:=by rw[S.plc];exact hp3
 have ll:p<b.lst.length:=by rw[S.lst];exact hp3
 have lr:p<b.rws.length:=by rw[S.rws];exact hp3
 obtain⟨aW,aP,aL,aN,aX,aS,aF,aR,cW,cP,cL,cQ,cX,cS,cF,cR,rfl⟩:=h.rd0.shapes;have XSL:=Lib.hid h.rd0.sl;have O1:=h.box hm;obtain⟨a',c',eN,hN⟩:=O1.hN;simp only[Value.slice.injEq,true_and] at eN;obtain⟨rfl,rfl⟩:=eN;rcases hN with q|⟨gn,rfl,lgn,dn⟩
 · exfalso;rw[q] at hcn;simp at hcn
 obtain⟨w1,hw1⟩:∃W:World,W=w.alloc (.cells #[.slice aW dss.length cW,.slice aP b.plc.length cP,.slice aL b.lst.length cL,.slice (some ⟨gn,0,none⟩) b.nts.length cQ,.slice aX b.nxt.length cX,.slice aS b.sn.length cS,.slice aF b.fr.length cF,.slice aR b.rws.length cR] 32):=⟨_,rfl⟩;have y1w:w1.heap.size=w.heap.size+1:=by rw[hw1,heap_size]
 have K01:Keep w w1:=by rw[hw1];exact (Keep.refl w).alloc _
 replace O1:OwnBd w1 m w.heap.size ⟨.slice aW dss.length cW,.slice aP b.plc.length cP,.slice aL b.lst.length cL,.slice (some ⟨gn,0,none⟩) b.nts.length cQ,.slice aX b.nxt.length cX,.slice aS b.sn.length cS,.slice aF b.fr.length cF,.slice aR b.rws.length cR⟩ nv rv bs N dss b:=by rw[hw1];exact O1
 replace dn:∀i,i<b.nts.length→w1.cell? ⟨gn,i,none⟩=some (nv.getD i nilS):=by rw[hw1];exact dn
 have oq:=O1.oN hcn;rw[hz] at oq
 obtain⟨gq,cq,hq,lgq⟩:∃gq cq,nv.getD c nilS = .slice (some ⟨gq,0,none⟩) (r.length+1) cq∧gq<w1.heap.size:=by
  have hlt:=World.ownsRow.lt oq;rcases oq.2 with ⟨_,hz'⟩|⟨g,cap,cur,e,_⟩
  · simp at hz'
  · exact⟨g,cap,e,(hlt g (by rw[e];rfl)).2⟩
 have hcq:r.length+1≤cq:=by
  rcases oq.2 with ⟨_,hz'⟩|⟨g,cap,cur,e,_,_,hcap,_⟩
  · simp at hz'
  ·
   rw[hq] at e;simp only[Value.slice.injEq] at e;rw[e.2.2];simpa using hcap
 rw[hq] at oq;have q0:w1.cell? ⟨gq,0,none⟩=some (.int .i64 (p:Int)):=World.ownsRow.cellAt oq 0 (by simp);have q1:w1.cell? ⟨gq,1,none⟩=some (.int .i64 x1):=World.ownsRow.cellAt oq 1 (by show 1<(r.length+1)*3;omega);have q2:w1.cell? ⟨gq,2,none⟩=some (.int .i64 x2):=World.ownsRow.cellAt oq 2 (by show 2<(r.length+1)*3;omega);have d3:=dn c hcn;rw[hq] at d3;have hcv:c<nv.length:=by rw[O1.ln];exact hcn
 obtain⟨w2,hw2⟩:∃W:World,W=w1.alloc (noteO (p:Int) x1 x2):=⟨_,rfl⟩;have k2:Keep w1 w2:=by rw[hw2];exact (Keep.refl w1).alloc _
 have y2w:w2.heap.size=w.heap.size+2:=by rw[hw2,heap_size,y1w]
 have XN2:Hid (w2.heap[w.heap.size+1]? = some (.cells #[.int .i64 (p:Int),.int .i64 x1,.int .i64 x2] 86 (0,0))):=Lib.hid (by rw[hw2,←y1w];exact heap_alloc_new _ _);have O2:=O1.keep k2;have XD2:Hid (w2.heap[w.heap.size]? = some (.cells #[.slice aW dss.length cW,.slice aP b.plc.length cP,.slice aL b.lst.length cL,.slice (some ⟨gn,0,none⟩) b.nts.length cQ,.slice aX b.nxt.length cX,.slice aS b.sn.length cS,.slice aF b.fr.length cF,.slice aR b.rws.length cR] 32 (0,0))):=Lib.hid (by have:=O2.heapD;simp only[BV.arr] at this;exact this);have XA2:Hid (OwnA w2 m ⟨.slice aW dss.length cW,.slice aP b.plc.length cP,.slice aL b.lst.length cL,.slice (some ⟨gn,0,none⟩) b.nts.length cQ,.slice aX b.nxt.length cX,.slice aS b.sn.length cS,.slice aF b.fr.length cF,.slice aR b.rws.length cR⟩ nv rv wv dss b):=Lib.hid (O2.all ((lw.keep K01).keep k2) hbs);have XVN:Hid (BV.N ⟨.slice aW dss.length cW,.slice aP b.plc.length cP,.slice aL b.lst.length cL,.slice (some ⟨gn,0,none⟩) b.nts.length cQ,.slice aX b.nxt.length cX,.slice aS b.sn.length cS,.slice aF b.fr.length cF,.slice aR b.rws.length cR⟩ = .slice (some ⟨gn,0,none⟩) nv.length cQ):=Lib.hid (by rw[O1.ln]);have NB:Hid (∀q,blkV ⟨.slice aW dss.length cW,.slice aP b.plc.length cP,.slice aL b.lst.length cL,.slice (some ⟨gn,0,none⟩) b.nts.length cQ,.slice aX b.nxt.length cX,.slice aS b.sn.length cS,.slice aF b.fr.length cF,.slice aR b.rws.length cR⟩ nv rv q→q<w.heap.size):=Lib.hid (fun q hq=>(h.blk q hq).2.1);have T02:Hid (TurnB w w2 (blkV ⟨.slice aW dss.length cW,.slice aP b.plc.length cP,.slice aL b.lst.length cL,.slice (some ⟨gn,0,none⟩) b.nts.length cQ,.slice aX b.nxt.length cX,.slice aS b.sn.length cS,.slice aF b.fr.length cF,.slice aR b.rws.length cR⟩ nv rv) (blkV ⟨.slice aW dss.length cW,.slice aP b.plc.length cP,.slice aL b.lst.length cL,.slice (some ⟨gn,0,none⟩) b.nts.length cQ,.slice aX b.nxt.length cX,.slice aS b.sn.length cS,.slice aF b.fr.length cF,.slice aR b.rws.length cR⟩ nv rv)):=Lib.hid (((TurnB.refl w _).keep K01).keep k2);have c31:w1.cell? ⟨w.heap.size,3,none⟩=some (.slice (some ⟨gn,0,none⟩) b.nts.length cQ):=O1.cells.2.2.2.1;have c3:w2.cell? ⟨w.heap.size,3,none⟩=some (.slice (some ⟨gn,0,none⟩) b.nts.length cQ):=O2.cells.2.2.2.1;have d32:=(k2.cell (show gn<w1.heap.size from (O1.fam.lt (i:= .nts) trivial gn rfl).2)).trans d3;have f3:w2.frozen? ⟨gn,c,none⟩=false:=(Rw.put (r:=hdR 84 nv (BV.N ⟨.slice aW dss.length cW,.slice aP b.plc.length cP,.slice aL b.lst.length cL,.slice (some ⟨gn,0,none⟩) b.nts.length cQ,.slice aX b.nxt.length cX,.slice aS b.sn.length cS,.slice aF b.fr.length cF,.slice aR b.rws.length cR⟩)) (O2.fam.own .nts trivial) (g:=gn) (cap:=cQ) (k:=c) XVN.out (.bool true)).2.2;have i1:(0:Int)≤(c:Int):=Int.natCast_nonneg _;have i3:(c:Int)<(b.nts.length:Int):=by omega
 have i5:((r.length+1:Nat):Int)=(r.length:Int)+1:=by omega
 have j1:(1:Int)≤(r.length:Int)+1:=by omega
 have hz':=hz;have hq':=hq;have HZ1:=Lib.hid hz';have HZ2:=Lib.hid hq';clear O1 O2 oq dn h lw hz hq hz' hq' S hx;go_enter Tryz.func74,Tryz.ntmps74
 go_upto_region 1 with fail
 rw[←hw1];clear hw1;go_upto_region 2 with fail
 rw[←hw2];clear hw2 q0 q1 q2 c31 d3;have hz':=HZ1;have hq':=HZ2;have d3:=d32;clear d32;by_cases hq1:cq=1
 ·
  have j2:(1:Int)≤(cq:Int):=by omega
  have OC3:=(XA2.out.cut (g:=gn) (c:=c) (cap:=cQ) XVN.out (.slice (some ⟨gq,0,none⟩) r.length 0)).keep (Keep.refl _).drew;have T3:TurnB w2 _ (blkV ⟨.slice aW dss.length cW,.slice aP b.plc.length cP,.slice aL b.lst.length cL,.slice (some ⟨gn,0,none⟩) b.nts.length cQ,.slice aX b.nxt.length cX,.slice aS b.sn.length cS,.slice aF b.fr.length cF,.slice aR b.rws.length cR⟩ nv rv) (blkV ⟨.slice aW dss.length cW,.slice aP b.plc.length cP,.slice aL b.lst.length cL,.slice (some ⟨gn,0,none⟩) b.nts.length cQ,.slice aX b.nxt.length cX,.slice aS b.sn.length cS,.slice aF b.fr.length cF,.slice aR b.rws.length cR⟩ nv rv):=((TurnB.refl w2 _).grown (grown_set w2 gn c (.slice (some ⟨gq,0,none⟩) r.length 0)) (fun g hg=>⟨.nts,trivial,by simp,hg⟩)).keep (Keep.refl _).drew;have hDw:=(T3.block w.heap.size (by omega) (fun q=>by have:=NB.out _ q;omega)).trans XD2.out;have hNw:=(T3.block (w.heap.size+1) (by omega) (fun q=>by have:=NB.out _ q;omega)).trans XN2.out;have XC3:=Lib.hid OC3;have XT3:=Lib.hid T3;have XDw:=Lib.hid hDw;have XNw:=Lib.hid hNw;clear OC3 T3 hDw hNw;go_region
  go_upto_region 3 with fail
  obtain⟨w3,hw3⟩:∃W:World,W=(w2.setCell ⟨gn,c,none⟩ (.slice (some ⟨gq,0,none⟩) r.length 0)).drew:=⟨_,rfl⟩;rw[←hw3] at XC3 XT3 XDw XNw ⊢;clear hw3;have hDw:=XDw.out;have m0:w3.cell? ⟨w.heap.size+1,0,none⟩=some (.int .i64 (p:Int)):=by rw[cell_of_row w3 _ 0 _ _ _ XNw.out];rfl
  have m1:w3.cell? ⟨w.heap.size+1,1,none⟩=some (.int .i64 x1):=by rw[cell_of_row w3 _ 1 _ _ _ XNw.out];rfl
  have m2:w3.cell? ⟨w.heap.size+1,2,none⟩=some (.int .i64 x2):=by rw[cell_of_row w3 _ 2 _ _ _ XNw.out];rfl
  have s3:=XT3.out.size;have CPUT:=put_any w3 m ⟨.slice aW dss.length cW,.slice aP b.plc.length cP,.slice aL b.lst.length cL,.slice (some ⟨gn,0,none⟩) b.nts.length cQ,.slice aX b.nxt.length cX,.slice aS b.sn.length cS,.slice aF b.fr.length cF,.slice aR b.rws.length cR⟩ rv b p x1 x2 XC3.out.ink XSL.out (by omega) lp ll lr (by have:=XS.out.rl p;omega);clear d3 f3 c3;go_wp2_with (first|refine wpList_load_row rfl 32 _ rfl w.heap.size rfl 32 _ (0,0) _ hDw Tryz.underlying32 rfl board_info ?_|fail)
  refine CPUT.mono ?_;rintro e w4 ⟨rfl,rv',O4,T4⟩;have OC4:=XC3.out.turn O4 T4 rfl rfl rfl rfl;have FR:=Lib.hid (OC4.free hcv HZ1.out HZ2.out (.inl ⟨hq1,rfl⟩));have B4:=Lib.hid ((T02.out.trans XT3.out).trans (⟨T4.os,T4.tape,T4.output,T4.size,fun g h1 h2=>T4.block g h1 (fun q=>h2 (blkI_V q)),fun g h=>h⟩:TurnB w3 w4 (blkV ⟨.slice aW dss.length cW,.slice aP b.plc.length cP,.slice aL b.lst.length cL,.slice (some ⟨gn,0,none⟩) b.nts.length cQ,.slice aX b.nxt.length cX,.slice aS b.sn.length cS,.slice aF b.fr.length cF,.slice aR b.rws.length cR⟩ nv rv) (fun g=>blkV ⟨.slice aW dss.length cW,.slice aP b.plc.length cP,.slice aL b.lst.length cL,.slice (some ⟨gn,0,none⟩) b.nts.length cQ,.slice aX b.nxt.length cX,.slice aS b.sn.length cS,.slice aF b.fr.length cF,.slice aR b.rws.length cR⟩ nv rv g∨w3.heap.size≤g)));clear O4 T4 OC4 CPUT hDw m0 m1 m2;go_wp2;go_end0;exact⟨rfl,by rw[HM.out];exact FR.out,_,B4.out⟩
 ·
  have j2:(1:Int)<(cq:Int):=by omega
  have OC3:=(XA2.out.cut (g:=gn) (c:=c) (cap:=cQ) XVN.out (.slice (some ⟨gq,3,none⟩) r.length (cq-1))).keep (Keep.refl _).drew;have T3:TurnB w2 _ (blkV ⟨.slice aW dss.length cW,.slice aP b.plc.length cP,.slice aL b.lst.length cL,.slice (some ⟨gn,0,none⟩) b.nts.length cQ,.slice aX b.nxt.length cX,.slice aS b.sn.length cS,.slice aF b.fr.length cF,.slice aR b.rws.length cR⟩ nv rv) (blkV ⟨.slice aW dss.length cW,.slice aP b.plc.length cP,.slice aL b.lst.length cL,.slice (some ⟨gn,0,none⟩) b.nts.length cQ,.slice aX b.nxt.length cX,.slice aS b.sn.length cS,.slice aF b.fr.length cF,.slice aR b.rws.length cR⟩ nv rv):=((TurnB.refl w2 _).grown (grown_set w2 gn c (.slice (some ⟨gq,3,none⟩) r.length (cq-1))) (fun g hg=>⟨.nts,trivial,by simp,hg⟩)).keep (Keep.refl _).drew;have hDw:=(T3.block w.heap.size (by omega) (fun q=>by have:=NB.out _ q;omega)).trans XD2.out;have hNw:=(T3.block (w.heap.size+1) (by omega) (fun q=>by have:=NB.out _ q;omega)).trans XN2.out;have XC3:=Lib.hid OC3;have XT3:=Lib.hid T3;have XDw:=Lib.hid hDw;have XNw:=Lib.hid hNw;clear OC3 T3 hDw hNw;go_region
  go_upto_region 3 with fail
  obtain⟨w3,hw3⟩:∃W:World,W=(w2.setCell ⟨gn,c,none⟩ (.slice (some ⟨gq,3,none⟩) r.length (cq-1))).drew:=⟨_,rfl⟩;rw[←hw3] at XC3 XT3 XDw XNw ⊢;clear hw3;have hDw:=XDw.out;have m0:w3.cell? ⟨w.heap.size+1,0,none⟩=some (.int .i64 (p:Int)):=by rw[cell_of_row w3 _ 0 _ _ _ XNw.out];rfl
  have m1:w3.cell? ⟨w.heap.size+1,1,none⟩=some (.int .i64 x1):=by rw[cell_of_row w3 _ 1 _ _ _ XNw.out];rfl
  have m2:w3.cell? ⟨w.heap.size+1,2,none⟩=some (.int .i64 x2):=by rw[cell_of_row w3 _ 2 _ _ _ XNw.out];rfl
  have s3:=XT3.out.size;have CPUT:=put_any w3 m ⟨.slice aW dss.length cW,.slice aP b.plc.length cP,.slice aL b.lst.length cL,.slice (some ⟨gn,0,none⟩) b.nts.length cQ,.slice aX b.nxt.length cX,.slice aS b.sn.length cS,.slice aF b.fr.length cF,.slice aR b.rws.length cR⟩ rv b p x1 x2 XC3.out.ink XSL.out (by omega) lp ll lr (by have:=XS.out.rl p;omega);clear d3 f3 c3;go_wp2_with (first|refine wpList_load_row rfl 32 _ rfl w.heap.size rfl 32 _ (0,0) _ hDw Tryz.underlying32 rfl board_info ?_|fail)
  refine CPUT.mono ?_;rintro e w4 ⟨rfl,rv',O4,T4⟩;have OC4:=XC3.out.turn O4 T4 rfl rfl rfl rfl;have FR:=Lib.hid (OC4.free hcv HZ1.out HZ2.out (.inr rfl));have B4:=Lib.hid ((T02.out.trans XT3.out).trans (⟨T4.os,T4.tape,T4.output,T4.size,fun g h1 h2=>T4.block g h1 (fun q=>h2 (blkI_V q)),fun g h=>h⟩:TurnB w3 w4 (blkV ⟨.slice aW dss.length cW,.slice aP b.plc.length cP,.slice aL b.lst.length cL,.slice (some ⟨gn,0,none⟩) b.nts.length cQ,.slice aX b.nxt.length cX,.slice aS b.sn.length cS,.slice aF b.fr.length cF,.slice aR b.rws.length cR⟩ nv rv) (fun g=>blkV ⟨.slice aW dss.length cW,.slice aP b.plc.length cP,.slice aL b.lst.length cL,.slice (some ⟨gn,0,none⟩) b.nts.length cQ,.slice aX b.nxt.length cX,.slice aS b.sn.length cS,.slice aF b.fr.length cF,.slice aR b.rws.length cR⟩ nv rv g∨w3.heap.size≤g)));clear O4 T4 OC4 CPUT hDw m0 m1 m2;go_wp2;go_end0;exact⟨rfl,by rw[HM.out];exact FR.out,_,B4.out⟩
def nbA (k:Nat):Bd:=⟨List.replicate k 0,(List.range k).map (fun (i:Nat)=>(i:Int)),[],[],[],[],(List.range k).map (fun (i:Nat)=>[(i:Int)])⟩
def nbB (k:Nat):Bd:=⟨[0,0,0],[0,1,2],List.replicate k [],List.replicate k 0,[],[],[[0],[1],[2]]⟩
def nbC (n k:Nat):Bd:=⟨[0,0,0],[0,1,2],List.replicate n [],List.replicate n 0,List.replicate k (-1),List.replicate k (-1),[[0],[1],[2]]⟩
theorem nbA_more (k:Nat):nbA (k+1)={ { { nbA k with plc:=(nbA k).plc++[0] } with lst:=(nbA k).lst++[(k:Int)] } with rws:=(nbA k).rws++[[(k:Int)]] }:=by
 unfold nbA;simp only[List.range_succ,List.map_append,List.map_cons,List.map_nil,List.replicate_succ']
theorem nbB_more (k:Nat):nbB (k+1)={ { nbB k with nts:=(nbB k).nts++[[]] } with nxt:=(nbB k).nxt++[0] }:=by
 unfold nbB;simp only[List.replicate_succ']
theorem nbC_more (n k:Nat):nbC n (k+1)={ { nbC n k with sn:=(nbC n k).sn++[-1] } with fr:=(nbC n k).fr++[-1] }:=by
 unfold nbC;simp only[List.replicate_succ']
theorem rd_one (w:World)(x:Int):Rd (w.alloc (.cells #[.int .i64 x] 2)) (.slice (some ⟨w.heap.size,0,none⟩) 1 1) [x]:=
 ⟨_,1,rfl,.inr ⟨w.heap.size,0,rfl,by rw[heap_size];omega,fun i hi=>by
  obtain rfl:i=0:=by simpa using hi
  rw[cell_of_row _ _ _ _ _ _ (heap_alloc_new w _)];rfl⟩⟩
theorem newBoard_yes (w:World)(v:Value)(dss:List (List Dd))(h:RdW w v dss)(hb:workB dss=true)(hx:dss.length≤1048576)(hm:∀i,i<dss.length→(dss.getD i []).length≤1048576):
  Calls Tryz.prog 84 #[v] w fun e w'=>∃bv nv rv wv,e = .returned (BV.agg bv)∧OwnA w' w.heap.size bv nv rv wv dss (newM dss)∧Keep w w':=by
 have CW:=fun (W:World) (kW:Keep w W)=>implWorkOk_any W _ dss (h.keep kW) hx hm
 have CC:=fun (W:World) (kW:Keep w W)=>copiedWork_any W _ dss (h.keep kW) hx hm
 have CE:=fun (W:World) (kW:Keep w W)=>implEventsOf_any W _ dss (h.keep kW) hx hm
 rw[hb] at CW;have u1:=(workB_useR hb).1;obtain⟨aD,cDd,rfl,-⟩:=id h;clear h hm hb;obtain⟨ng0,ngi,ngz0,ngz1,ngz2⟩:=info_parts Tryz.infoNl;obtain⟨ig0,igi,igz0,igz1,igz2⟩:=info_parts Tryz.infoIl;obtain⟨w1,hw1⟩:∃W:World,W=w.alloc (.cells #[nilS,nilS,nilS,nilS,nilS,nilS,nilS,nilS] 32):=⟨_,rfl⟩;have K1:Keep w w1:=by rw[hw1];exact (Keep.refl w).alloc _
 have s1:w1.heap.size=w.heap.size+1:=by rw[hw1,heap_size]
 have hR1:w1.heap[w.heap.size]? = some (.cells #[nilS,nilS,nilS,nilS,nilS,nilS,nilS,nilS] 32 (0,0)):=by rw[hw1];exact heap_alloc_new _ _
 go_enter Tryz.func84,Tryz.ntmps84
 go_upto_region 1 with fail
 rw[←hw1];clear hw1;go_wp2_with fail
 refine (CW _ K1).mono ?_;rintro e w2 ⟨rfl,k2⟩;go_wp2_with fail
 refine (must_yes _).mono ?_;rintro e w2 ⟨rfl,rfl⟩;have K2:=K1.trans k2;go_wp2_with fail
 refine (CC _ K2).mono ?_;rintro e w3 ⟨v3,V,rfl,X3,k3⟩;have s2:=k2.size;have s3:=k3.size;have LW3:=X3.ownLW;have O3:=(ownVal_zero X3.rdX.upto (Nat.le_refl _) w1.heap.size).box (by omega);obtain⟨a3,c3,hv3,-⟩:=id X3.rdW;subst hv3;obtain⟨w4,hw4⟩:∃W:World,W=w3.alloc (.cells #[.slice a3 dss.length c3,nilS,nilS,nilS,nilS,nilS,nilS,nilS] 32):=⟨_,rfl⟩;have k4:Keep w3 w4:=by rw[hw4];exact (Keep.refl w3).alloc _
 have s4:w4.heap.size=w3.heap.size+1:=by rw[hw4,heap_size]
 replace O3:OwnBd w4 w1.heap.size w3.heap.size ⟨.slice a3 dss.length c3,nilS,nilS,nilS,nilS,nilS,nilS,nilS⟩ [] [] w2.heap.size w3.heap.size dss ⟨[],[],[],[],[],[],[]⟩:=by rw[hw4];exact O3
 clear X3;go_upto_region 3 with fail
 rw[←hw4];clear hw4;go_wp2_with fail
 refine (beginnings_any w4).mono ?_;rintro e w5 ⟨v5,rfl,A5,k5⟩;have s5:=k5.size;have N5:=NB.start (O3.keep k5);have LW5:=Lib.hid (LW3.keep (k4.trans k5));have hR5:=Lib.hid ((Below.block ((k2.trans k3).trans (k4.trans k5)) w.heap.size (by omega)).trans hR1);have K5:=K2.trans (k3.trans (k4.trans k5));have hD:w1.heap.size≤w3.heap.size∧w3.heap.size<w4.heap.size:=by omega
 have hbs:w1.heap.size≤w2.heap.size:=s2;have hD5:w3.heap.size<w5.heap.size:=by omega
 obtain⟨ae,ce,hv5,-⟩:=id A5.rd;rw[show evBeg.length=3 from rfl] at hv5;subst hv5;clear LW3 O3 CW CC hR1 k2 k3 k4 k5 K1 K2;have hmw:w.heap.size<w1.heap.size:=by omega
 clear s1 s4 s3 s2 s5;generalize w1.heap.size=m at *;generalize w2.heap.size=bs at *;generalize w3.heap.size=D at *;go_wp2;go_loopw [4,14] (fun _ i wr=>∃(k:Nat) (bv:BV) (rv:List Value),k≤3∧i = .int .i64 k∧Hid (bv.W = .slice a3 dss.length c3)∧NB w5 wr m D bv [] rv bs D dss (nbA k)) (fun _ i _=>3-(intOf i).toNat)
 case atStart=>exact⟨0,_,[],Nat.zero_le _,rfl,Lib.hid rfl,N5⟩
 case round=>
  obtain⟨k,bv,rv,hk,rfl,hW,NR⟩:=hrel;by_cases hlt:k<3
  ·
   have A5r:AppE wr w4.heap.size (.slice ae 3 (3+ce)) evBeg:=World.ownsRow.kept A5 NR.sm (ne_of_ge (fun q hq=>(World.ownsRow.lt A5 q hq).1) hD.2);obtain⟨a',c',he',hE⟩:=A5r.rd;rw[show evBeg.length=3 from rfl] at he';simp only[Value.slice.injEq,true_and] at he';obtain⟨rfl,hce⟩:=he';rcases hE with h0|⟨bq,oq,rfl,hbq,hcq⟩
   · exact absurd h0 (by simp[evBeg])
   have hev:evBeg[k]? = some ((-1:Int),(-1:Int),false,(k:Int),(0:Int),(k:Int)):=by
    have:k=0∨k=1∨k=2:=by omega
    rcases this with rfl|rfl|rfl<;>rfl
   obtain⟨q0,q1,q2,q3,q4,q5⟩:=atE (hcq k _ hev);have i1:(0:Int)≤(k:Int):=Int.natCast_nonneg _;have i2:(k:Int)<3:=by omega
   obtain⟨w6,hw6⟩:∃W:World,W=wr.alloc (eO (-1) (-1) false k 0 k):=⟨_,rfl⟩;have k6:Keep wr w6:=by rw[hw6];exact (Keep.refl wr).alloc _
   have f4:w6.cell? ⟨wr.heap.size,4,none⟩=some (.int .i64 0):=by rw[hw6,cell_of_row _ _ 4 _ _ _ (heap_alloc_new wr _)];rfl
   have N6:=NR.keep k6;clear hcq A5r NR hev hce k6;go_upto_region 6 with fail
   rw[←hw6];clear hw6 q0 q1 q2 q3 q4 q5;have Aa:=N6.keep ((Keep.refl w6).alloc (.cells #[.int .i64 (0:Int)] 2));obtain⟨za0,za1,za2,za3,za4,za5,za6,za7⟩:=N6.ob.cells;go_wp2_with (at_builtin;refine wpList_append_rd rfl _ _ rfl m _ _ rfl Aa.ob.oP _ rfl [(0:Int)] (rd_one w6 (0:Int)) (by unfold nbA;simp;omega) (by simp) (Nat.le_of_lt (Nat.lt_of_le_of_lt Aa.ob.base.1 Aa.ob.base.2)) ?_)
   intro ua xa Oa Ga Ba;obtain⟨la,HZa⟩:∃l,Hid (l=(nbA k).plc++[(0:Int)]):=⟨_,Lib.hid rfl⟩;replace Oa:Own xa m ua ((nbA k).plc++[(0:Int)]):=Oa;rw[←HZa.out] at Oa;obtain⟨Na,Ca,Fa⟩:=Aa.growP Ga (by rw[heap_size];exact Ba) Oa;obtain⟨aua,cua,hua,-⟩:=id Oa.rd;subst hua;clear za0 za1 za2 za3 za4 za5 za6 za7 Aa N6 Oa Ga Ba;go_upto_region 7 with fail
   generalize xa.setCell ⟨D,1,none⟩ (.slice aua la.length cua)=ya at *;clear Ca Fa;have Ab:=Na.keep ((Keep.refl ya).alloc (.cells #[.int .i64 (k:Int)] 2));obtain⟨zb0,zb1,zb2,zb3,zb4,zb5,zb6,zb7⟩:=Na.ob.cells;go_wp2_with (at_builtin;refine wpList_append_rd rfl _ _ rfl m _ _ rfl Ab.ob.oL _ rfl [(k:Int)] (rd_one ya (k:Int)) (by unfold nbA;simp;omega) (by simp) (Nat.le_of_lt (Nat.lt_of_le_of_lt Ab.ob.base.1 Ab.ob.base.2)) ?_)
   intro ub xb Ob Gb Bb;obtain⟨lb,HZb⟩:∃l,Hid (l=(nbA k).lst++[(k:Int)]):=⟨_,Lib.hid rfl⟩;replace Ob:Own xb m ub ((nbA k).lst++[(k:Int)]):=Ob;rw[←HZb.out] at Ob;obtain⟨Nb,Cb,Fb⟩:=Ab.growL Gb (by rw[heap_size];exact Bb) Ob;obtain⟨aub,cub,hub,-⟩:=id Ob.rd;subst hub;clear zb0 zb1 zb2 zb3 zb4 zb5 zb6 zb7 Ab Na Ob Gb Bb;go_upto_region 8 with fail
   generalize xb.setCell ⟨D,2,none⟩ (.slice aub lb.length cub)=yb at *;clear Cb Fb;obtain⟨zc0,zc1,zc2,zc3,zc4,zc5,zc6,zc7⟩:=Nb.ob.cells;have kca:Keep yb (yb.alloc (.cells #[.int .i64 (k:Int)] 2)):=(Keep.refl yb).alloc _;have kcb:Keep (yb.alloc (.cells #[.int .i64 (k:Int)] 2)) ((yb.alloc (.cells #[.int .i64 (k:Int)] 2)).alloc (.cells #[(Value.slice (some ⟨yb.heap.size,0,none⟩) 1 1)] 23)):=(Keep.refl _).alloc _;have kc:=kca.trans kcb;have hmc:m≤yb.heap.size:=Nat.le_of_lt (Nat.lt_of_le_of_lt Nb.ob.base.1 Nb.ob.base.2);have oca:Own (yb.alloc (.cells #[.int .i64 (k:Int)] 2)) m (.slice (some ⟨yb.heap.size,0,none⟩) 1 1) [(k:Int)]:=World.ownsRow_lit yb #[.int .i64 (k:Int)] 1 hmc (by decide) rfl;have oc:=World.ownsRow.kept oca kcb.grownBy (by cases (Value.ownBlock (Value.slice (some ⟨yb.heap.size,0,none⟩) 1 1))<;>simp);have Rc:World.ownsRow _ m 23 1 bv.R rv.length rv:=(Nb.keep kc).ob.fam.own .rws trivial;have hnc:rv.length≤3:=by rw[(Nb.ob).lr];unfold nbA;simp;omega
   go_wp2_with (at_builtin;refine wpList_append_own_at _ rfl _ _ 25 rfl m 23 ig0 (.slice none 0 0) 1 24 Tryz.underlying25 igi igz0 igz1 igz2 rfl (by decide) _ _ _ rfl Rc ⟨_,0,none⟩ 1 1 [(Value.slice (some ⟨yb.heap.size,0,none⟩) 1 1)] rfl rfl (by intro j q hj;match j,hj with|0,hj=>(simp at hj;subst hj;simp[Addr.add])) (by intro q hq;simp at hq;subst hq;rfl) (by unfold maxLen;omega) (by omega) (by simp;omega) ?_)
   intro uc xc Pc Gc _ Bc;obtain⟨hc,HZc⟩:∃l,Hid (l=rv++[(Value.slice (some ⟨yb.heap.size,0,none⟩) 1 1)]):=⟨_,Lib.hid rfl⟩
   have Qc:(hdR 23 (rv++[(Value.slice (some ⟨yb.heap.size,0,none⟩) 1 1)]) uc).own xc m:=by
    show xc.ownsRow m 23 1 uc (rv++[(Value.slice (some ⟨yb.heap.size,0,none⟩) 1 1)]).length (rv++[(Value.slice (some ⟨yb.heap.size,0,none⟩) 1 1)]);rw[List.length_append];exact Pc
   obtain⟨Nc,Cc,Fc⟩:=Nb.pushR (u:=(Value.slice (some ⟨yb.heap.size,0,none⟩) 1 1)) kc (fun q hq=>Nat.le_of_eq (Option.some.inj hq)) oc Gc (by rw[heap_size,heap_size];exact Bc) Qc;rw[←HZc.out] at Nc Qc;obtain⟨auc,cuc,huc,-⟩:=own_head Qc;subst huc;clear zc0 zc1 zc2 zc3 zc4 zc5 zc6 zc7 Nb Rc Pc Qc Gc Bc oc oca kc kca kcb hnc hmc;go_upto_region 9 with fail
   generalize xc.setCell ⟨D,7,none⟩ (.slice auc hc.length cuc)=yc at *;clear Cc Fc
   obtain⟨bz,hZ,NZ⟩:∃bz:BV,Hid (bz.W = .slice a3 dss.length c3)∧NB w5 yc m D bz [] hc bs D dss (nbA (k+1)):=by
    rw[nbA_more,←HZa.out,←HZb.out];refine⟨_,?_,Nc⟩;exact hW
   clear Nc HZa HZb HZc;go_wp2;go_roundw;case rel=>exact⟨k+1,bz,hc,by omega,by go_num,hZ,NZ⟩
   case measure=>simp[intOf];omega
  obtain rfl:k=3:=by omega
  have N7:NB w5 wr m D bv [] rv bs D dss (nbB 0):=NR;clear NR A5 hlt hk;rw[show ((3:Nat):Int)=3 from rfl];go_wp2;obtain⟨wo,rfl⟩:∃wo:World,wo=wr:=⟨_,rfl⟩;go_loopw [42] (fun i wr=>∃(k:Nat) (bv:BV) (nv:List Value),k≤dss.length∧i = .int .i64 k∧Hid (bv.W = .slice a3 dss.length c3)∧NB w5 wr m D bv nv rv bs D dss (nbB k)) (fun i _=>dss.length-(intOf i).toNat)
  case atStart=>exact⟨0,bv,[],Nat.zero_le _,rfl,hW,N7⟩
  case round=>
   clear N7 hW;obtain⟨k,bv,nv,hk,rfl,hW,NR⟩:=hrel;by_cases hlt:k<dss.length
   ·
    have i1:(0:Int)≤(k:Int):=Int.natCast_nonneg _;have i2:(k:Int)<(dss.length:Int):=by omega
    obtain⟨za0,za1,za2,za3,za4,za5,za6,za7⟩:=NR.ob.cells;have kaa:Keep wr (wr.alloc (.cells #[] 86)):=(Keep.refl wr).alloc _;have kab:Keep (wr.alloc (.cells #[] 86)) ((wr.alloc (.cells #[] 86)).alloc (.cells #[(Value.slice (some ⟨wr.heap.size,0,none⟩) 0 0)] 84)):=(Keep.refl _).alloc _;have ka:=kaa.trans kab;have hma:m≤wr.heap.size:=Nat.le_of_lt (Nat.lt_of_le_of_lt NR.ob.base.1 NR.ob.base.2);have oaa:AppT cN 86 3 (wr.alloc (.cells #[] 86)) m (.slice (some ⟨wr.heap.size,0,none⟩) 0 0) []:=World.ownsRow_lit wr #[] 0 hma (by decide) rfl;have oa:=World.ownsRow.kept oaa kab.grownBy (by cases (Value.ownBlock (Value.slice (some ⟨wr.heap.size,0,none⟩) 0 0))<;>simp);have Ra:World.ownsRow _ m 84 1 bv.N nv.length nv:=(NR.keep ka).ob.fam.own .nts trivial;have hna:nv.length≤3:=by rw[(NR.ob).ln];unfold nbB;simp;omega
    go_wp2_with (at_builtin;refine wpList_append_own_at _ rfl _ _ 30 rfl m 84 ng0 (.slice none 0 0) 1 24 Tryz.underlying30 ngi ngz0 ngz1 ngz2 rfl (by decide) _ _ _ rfl Ra ⟨_,0,none⟩ 1 1 [(Value.slice (some ⟨wr.heap.size,0,none⟩) 0 0)] rfl rfl (by intro j q hj;match j,hj with|0,hj=>(simp at hj;subst hj;simp[Addr.add])) (by intro q hq;simp at hq;subst hq;rfl) (by unfold maxLen;omega) (by omega) (by simp;omega) ?_)
    intro ua xa Pa Ga _ Ba;obtain⟨ha,HZa⟩:∃l,Hid (l=nv++[(Value.slice (some ⟨wr.heap.size,0,none⟩) 0 0)]):=⟨_,Lib.hid rfl⟩
    have Qa:(hdR 84 (nv++[(Value.slice (some ⟨wr.heap.size,0,none⟩) 0 0)]) ua).own xa m:=by
     show xa.ownsRow m 84 1 ua (nv++[(Value.slice (some ⟨wr.heap.size,0,none⟩) 0 0)]).length (nv++[(Value.slice (some ⟨wr.heap.size,0,none⟩) 0 0)]);rw[List.length_append];exact Pa
    obtain⟨Na,Ca,Fa⟩:=NR.pushN (u:=(Value.slice (some ⟨wr.heap.size,0,none⟩) 0 0)) ka (fun q hq=>Nat.le_of_eq (Option.some.inj hq)) oa Ga (by rw[heap_size,heap_size];exact Ba) Qa;rw[←HZa.out] at Na Qa;obtain⟨aua,cua,hua,-⟩:=own_head Qa;subst hua;clear za0 za1 za2 za3 za4 za5 za6 za7 NR Ra Pa Qa Ga Ba oa oaa ka kaa kab hna hma;go_upto_region 13 with fail
    generalize xa.setCell ⟨D,3,none⟩ (.slice aua ha.length cua)=ya at *;clear Ca Fa;have Ab:=Na.keep ((Keep.refl ya).alloc (.cells #[.int .i64 (0:Int)] 2));obtain⟨zb0,zb1,zb2,zb3,zb4,zb5,zb6,zb7⟩:=Na.ob.cells;go_wp2_with (at_builtin;refine wpList_append_rd rfl _ _ rfl m _ _ rfl Ab.ob.oX _ rfl [(0:Int)] (rd_one ya (0:Int)) (by unfold nbB;simp;omega) (by simp) (Nat.le_of_lt (Nat.lt_of_le_of_lt Ab.ob.base.1 Ab.ob.base.2)) ?_)
    intro ub xb Ob Gb Bb;obtain⟨lb,HZb⟩:∃l,Hid (l=(nbB k).nxt++[(0:Int)]):=⟨_,Lib.hid rfl⟩;replace Ob:Own xb m ub ((nbB k).nxt++[(0:Int)]):=Ob;rw[←HZb.out] at Ob;obtain⟨Nb,Cb,Fb⟩:=Ab.growX Gb (by rw[heap_size];exact Bb) Ob;obtain⟨aub,cub,hub,-⟩:=id Ob.rd;subst hub;clear zb0 zb1 zb2 zb3 zb4 zb5 zb6 zb7 Ab Na Ob Gb Bb;go_upto_region 14 with fail
    generalize xb.setCell ⟨D,4,none⟩ (.slice aub lb.length cub)=yb at *;clear Cb Fb
    obtain⟨bz,hZ,NZ⟩:∃bz:BV,Hid (bz.W = .slice a3 dss.length c3)∧NB w5 yb m D bz ha rv bs D dss (nbB (k+1)):=by
     rw[nbB_more,←HZb.out];refine⟨_,?_,Nb⟩;exact hW
    clear Nb HZa HZb;go_wp2;go_roundw;case rel=>exact⟨k+1,bz,ha,by omega,by go_num,hZ,NZ⟩
    case measure=>simp[intOf];omega
   have N8:NB w5 wr m D bv nv rv bs D dss (nbC dss.length 0):=by
    rw[show k=dss.length by omega] at NR;exact NR
   have K8:Keep w wr:=K5.grown NR.sm (fun q hq=>by have:=Option.some.inj hq;omega);obtain rfl:k=dss.length:=by omega
   clear NR hlt hk;go_wp2_with fail
   refine (CE _ K8).mono ?_;rintro e w9 ⟨v9,rfl,A9,k9⟩;have N9:=N8.keep k9;have CR:=implReadsOf_any w9 _ _ A9.rd (by have:=eventsB_len9 dss;omega);obtain⟨a9,c9,hv9,-⟩:=id A9.rd;subst hv9;clear A9 N8;go_wp2_with fail
   refine CR.mono ?_;rintro e w10 ⟨v10,rfl,O10,k10⟩;have N10:=N9.keep k10;have HN:Hid (newM dss=nbC dss.length (idxB rdE (eventsB dss)).length):=Lib.hid rfl;have ln:=idxB_len rdE (eventsB dss);obtain⟨a10,c10,hv10,-⟩:=id O10.rd;subst hv10;clear O10 N9 CR CE;generalize (idxB rdE (eventsB dss)).length=R at *;go_wp2;go_loopw [60] (fun i wr=>∃(k:Nat) (bv:BV),k≤R∧i = .int .i64 k∧Hid (bv.W = .slice a3 dss.length c3)∧NB w5 wr m D bv nv rv bs D dss (nbC dss.length k)) (fun i _=>R-(intOf i).toNat)
   case atStart=>exact⟨0,bv,Nat.zero_le _,rfl,hW,N10⟩
   case round=>
    clear N10 hW;obtain⟨k,bv,hk,rfl,hW,NR⟩:=hrel;by_cases hlt:k<R
    ·
     have i1:(0:Int)≤(k:Int):=Int.natCast_nonneg _;have i2:(k:Int)<(R:Int):=by omega
     have Aa:=NR.keep ((Keep.refl wr).alloc (.cells #[.int .i64 (-1:Int)] 2));obtain⟨za0,za1,za2,za3,za4,za5,za6,za7⟩:=NR.ob.cells;go_wp2_with (at_builtin;refine wpList_append_rd rfl _ _ rfl m _ _ rfl Aa.ob.oS _ rfl [(-1:Int)] (rd_one wr (-1:Int)) (by unfold nbC;simp;omega) (by simp) (Nat.le_of_lt (Nat.lt_of_le_of_lt Aa.ob.base.1 Aa.ob.base.2)) ?_)
     intro ua xa Oa Ga Ba;obtain⟨la,HZa⟩:∃l,Hid (l=(nbC dss.length k).sn++[(-1:Int)]):=⟨_,Lib.hid rfl⟩;replace Oa:Own xa m ua ((nbC dss.length k).sn++[(-1:Int)]):=Oa;rw[←HZa.out] at Oa;obtain⟨Na,Ca,Fa⟩:=Aa.growS Ga (by rw[heap_size];exact Ba) Oa;obtain⟨aua,cua,hua,-⟩:=id Oa.rd;subst hua;clear za0 za1 za2 za3 za4 za5 za6 za7 Aa NR Oa Ga Ba;go_upto_region 18 with fail
     generalize xa.setCell ⟨D,5,none⟩ (.slice aua la.length cua)=ya at *;clear Ca Fa;have Ab:=Na.keep ((Keep.refl ya).alloc (.cells #[.int .i64 (-1:Int)] 2));obtain⟨zb0,zb1,zb2,zb3,zb4,zb5,zb6,zb7⟩:=Na.ob.cells;go_wp2_with (at_builtin;refine wpList_append_rd rfl _ _ rfl m _ _ rfl Ab.ob.oF _ rfl [(-1:Int)] (rd_one ya (-1:Int)) (by unfold nbC;simp;omega) (by simp) (Nat.le_of_lt (Nat.lt_of_le_of_lt Ab.ob.base.1 Ab.ob.base.2)) ?_)
     intro ub xb Ob Gb Bb;obtain⟨lb,HZb⟩:∃l,Hid (l=(nbC dss.length k).fr++[(-1:Int)]):=⟨_,Lib.hid rfl⟩;replace Ob:Own xb m ub ((nbC dss.length k).fr++[(-1:Int)]):=Ob;rw[←HZb.out] at Ob;obtain⟨Nb,Cb,Fb⟩:=Ab.growF Gb (by rw[heap_size];exact Bb) Ob;obtain⟨aub,cub,hub,-⟩:=id Ob.rd;subst hub;clear zb0 zb1 zb2 zb3 zb4 zb5 zb6 zb7 Ab Na Ob Gb Bb;go_upto_region 19 with fail
     generalize xb.setCell ⟨D,6,none⟩ (.slice aub lb.length cub)=yb at *;clear Cb Fb
     obtain⟨bz,hZ,NZ⟩:∃bz:BV,Hid (bz.W = .slice a3 dss.length c3)∧NB w5 yb m D bz nv rv bs D dss (nbC dss.length (k+1)):=by
      rw[nbC_more,←HZa.out,←HZb.out];refine⟨_,?_,Nb⟩;exact hW
     clear Nb HZa HZb;go_wp2;go_roundw;case rel=>exact⟨k+1,bz,by omega,by go_num,hZ,NZ⟩
     case measure=>simp[intOf];omega
    obtain rfl:k=R:=by omega
    have KZ:Keep w wr:=K5.grown NR.sm (fun q hq=>by have:=Option.some.inj hq;omega);have LZ:=LW5.out.kept NR.sm NR.ob.nD;rw[←hW.out] at LZ;have OA:=NR.ob.all LZ hbs;have hRw:=(NR.sm.block w.heap.size (by have:=K5.size;omega) (fun e=>by have:=Option.some.inj e;omega)).trans hR5.out;have hDw:=NR.ob.heapD;rw[←HN.out] at OA;clear NR LZ;obtain⟨nb,hnb⟩:∃nb,nb=newM dss:=⟨_,rfl⟩;rw[←hnb] at OA;have HNB:=Lib.hid hnb;clear hnb;obtain⟨vW,vP,vL,vN,vX,vS,vF,vR⟩:=bv;obtain⟨bW,bP,bL,bN,bX,bS,bF,bR,dW,dP,dL,dN,dX,dS,dF,dR,hsh⟩:=OA.rd.shapes;injection hsh with e1 e2 e3 e4 e5 e6 e7 e8;subst e1 e2 e3 e4 e5 e6 e7 e8;have HG:=Lib.hid (grown_row3 wr w.heap.size #[.slice bW dss.length dW,.slice bP nb.plc.length dP,.slice bL nb.lst.length dL,.slice bN nb.nts.length dN,.slice bX nb.nxt.length dX,.slice bS nb.sn.length dS,.slice bF nb.fr.length dF,.slice bR nb.rws.length dR]);have HZ:=Lib.hid (setRow_heap wr w.heap.size _ #[.slice bW dss.length dW,.slice bP nb.plc.length dP,.slice bL nb.lst.length dL,.slice bN nb.nts.length dN,.slice bX nb.nxt.length dX,.slice bS nb.sn.length dS,.slice bF nb.fr.length dF,.slice bR nb.rws.length dR] _ _ hRw);have HO:=Lib.hid (OA.far HG.out hmw);have HK:=Lib.hid (KZ.grown HG.out (fun q hq=>Nat.le_of_eq (Option.some.inj hq)));simp only[BV.arr] at hDw;clear OA KZ hD hD5 hbs LW5 hW hlt hk;go_wp2_with (first|refine wpList_load_row rfl 32 _ rfl D rfl 32 _ (0,0) _ hDw Tryz.underlying32 rfl board_info ?_|refine wpList_store_row rfl 32 _ _ rfl w.heap.size _ rfl rfl 32 _ hRw board_info rfl (by simp[Value.oneCell']) ?_|fail)
    refine bodyPost_ret (results_row (by rfl) _ _ w.heap.size _ _ (0,0) _ rfl HZ.out Tryz.underlying32 rfl board_info) rfl ?_;exact⟨⟨.slice bW dss.length dW,.slice bP nb.plc.length dP,.slice bL nb.lst.length dL,.slice bN nb.nts.length dN,.slice bX nb.nxt.length dX,.slice bS nb.sn.length dS,.slice bF nb.fr.length dF,.slice bR nb.rws.length dR⟩,nv,rv,_,rfl,by rw[←HNB.out];exact⟨HO.out.fam.base_le2 (Nat.le_of_lt hmw),HO.out.ln,HO.out.lr,HO.out.lw⟩,HK.out⟩
theorem newBoard_no (w:World)(v:Value)(dss:List (List Dd))(h:RdW w v dss)(hb:workB dss=false)(hx:dss.length≤1048576)(hm:∀i,i<dss.length→(dss.getD i []).length≤1048576):
  Calls Tryz.prog 84 #[v] w fun e w'=>e=PN∧Keep w w':=by
 have CW:=fun (W:World) (kW:Keep w W)=>implWorkOk_any W _ dss (h.keep kW) hx hm
 rw[hb] at CW;obtain⟨aD,cDd,rfl,-⟩:=id h;clear h hm hb;go_enter Tryz.func84,Tryz.ntmps84
 go_wp2_with fail
 refine (CW _ ((Keep.refl w).alloc _)).mono ?_;rintro e w2 ⟨rfl,k2⟩;go_wp2_with fail
 refine (must_no _).mono ?_;rintro e w3 ⟨rfl,rfl⟩;go_wp2;exact⟨rfl,rfl,((Keep.refl w).alloc _).trans k2⟩
theorem nwb_idle (p0 p1:Addr)(w:World):CallsD Tryz.prog 83 #[.pointer (some p0),.pointer (some p1)] .returning w fun e u' w'=>e = .returned (.tuple #[])∧u' = .returning∧w'=w:=by
 refine callsD_of_wpS Tryz.func83 rfl fun c₀ cs hu=>?_
 apply wpS_seq;apply wpS_region;have hn:∀w:World,(binOp BinOp.neq 20 .nilIface .nilIface).run Tryz.prog w = .ok (.bool false) w:=fun _=>by kernel_rfl
 simp[wpOpsS,go_sem,recoverD,hu,Tryz.ntmps83,Exit.thenS,hn];refine wpS_cond (t:=false) (by simp[Act.eval,Array.replicate]) ?_;simp only[Bool.false_eq_true,if_false];refine wpS_of_wp (wp_skip ?_);cases c₀;simp_all [bodyPostS,results,Tryz.results83]
theorem nwb_hit (g g':Nat)(hne:g'≠g)(w:World)(old:Array Value)(ho:old.size=8)(x':Value)(hg:w.heap[g]? = some (.cells old 32 (0,0)))(hg':w.heap[g']? = some (.cells #[x'] 4 (0,0))):
  CallsD Tryz.prog 83 #[.pointer (some ⟨g,0,none⟩),.pointer (some ⟨g',0,none⟩)] (.panicking [{ v:=pnV,recovered:=false }]) w fun e u' w'=>e = .returned (.tuple #[])∧u' = .panicking [{ v:=pnV,recovered:=true }]∧w'=(w.setRow g #[nilS,nilS,nilS,nilS,nilS,nilS,nilS,nilS]).setCell ⟨g',0,none⟩ (.bool false):=by
 have hg2:(w.setRow g #[nilS,nilS,nilS,nilS,nilS,nilS,nilS,nilS]).heap[g']? = some (.cells #[x'] 4 (0,0)):=((grown_row3 w g #[nilS,nilS,nilS,nilS,nilS,nilS,nilS,nilS]).block g' (Array.getElem?_eq_some_iff.1 hg').1 (fun e=>hne (Option.some.inj e))).trans hg';have hc2:(w.setRow g #[nilS,nilS,nilS,nilS,nilS,nilS,nilS,nilS]).cell? ⟨g',0,none⟩=some x':=by rw[cell_of_row _ g' 0 _ _ _ hg2];rfl
 have hf2:(w.setRow g #[nilS,nilS,nilS,nilS,nilS,nilS,nilS,nilS]).frozen? ⟨g',0,none⟩=false:=frozen_of_row _ g' 0 _ _ hg2;have hv:∀w:World,(binOp BinOp.neq 20 pnV .nilIface).run Tryz.prog w = .ok (.bool true) w:=fun _=>by kernel_rfl
 refine callsD_of_wpS Tryz.func83 rfl fun c₀ cs hu=>?_
 apply wpS_seq;apply wpS_region;simp[wpOpsS,go_sem,recoverD,hu,Tryz.ntmps83,Exit.thenS,hv];refine wpS_cond (t:=true) (by simp[Act.eval,Array.replicate]) ?_;simp only[if_true];refine wpS_of_wp ?_;go_wp2_with (first|refine wpList_store_row rfl 32 _ _ rfl g _ rfl rfl 32 _ hg board_info ho (by simp[Value.oneCell']) ?_|fail)
 cases c₀;simp_all [bodyPostS,results,Tryz.results83]
theorem results_row_one {P:Program}{fn:Func}{p q:Tmp}{ty ty':TypeId}(h:fn.results=#[.cell p ty,.cell q ty'])(tmps:Array Value)(w:World)(g g':Nat)(t:TypeId)(cs:Array Value)(fr:Nat×Nat)(d:TypeDesc){x:Value}
  (hp:tmps.getD p undef = .pointer (some ⟨g,0,none⟩)) (hg:w.heap[g]? = some (.cells cs t fr)) (hq:tmps.getD q undef = .pointer (some ⟨g',0,none⟩)) (hc:w.cell? ⟨g',0,none⟩=some x)
  (hu:P.underlying ty=some d) (hd:(match d with | .struct _ | .array _ _=>true|_=>false)=true) (hi:(P.info? ty).map (·.size)=some cs.size) (hagg:(isAgg ty').run P w = .ok false w):
  (results fn tmps).run P w = .ok (.tuple #[.agg cs,x]) w:=by
 have hp':tmps[p]?.getD undef = .pointer (some ⟨g,0,none⟩):=by simpa using hp
 have hq':tmps[q]?.getD undef = .pointer (some ⟨g',0,none⟩):=by simpa using hq
 have hl:(loadVar ty' ⟨g',0,none⟩).run P w = .ok x w:=by
  simp[Sem.run_bind,Result.andThen,loadVar,load,hagg];simp[Sem.run,hc]
 simp[results,h,hp',hq',asAddr,run_loadVar_row w g t ty cs fr d hg hu hd hi,hl]
theorem ownA_zero (w:World)(m:Nat):OwnA w m bd0 [] [] [] [] zBd:=by
 have hv:∀i,liveA [] [] [] i→(famA bd0 [] [] [] [] zBd i).v.ownBlock=none:=fun i hi=>by
  cases i with
  |wk=>rfl
  |wd c=>exact absurd (show c<0 from hi) (by omega)
  |b i=>
   cases i with
   |bd=>exact absurd rfl hi.2
   |nt c=>exact absurd (show c<0 from hi.1) (by omega)
   |rw c=>exact absurd (show c<0 from hi.1) (by omega)
   |_=>rfl
 refine⟨⟨fun i hi=>?_,fun i j hi _ _ => .inl (hv i hi)⟩,rfl,rfl,rfl⟩
 cases i with
 |wk=>exact⟨rfl,.inl ⟨rfl,rfl⟩⟩
 |wd c=>exact absurd (show c<0 from hi) (by omega)
 |b i=>
  cases i with
  |bd=>exact absurd rfl hi.2
  |nt c=>exact absurd (show c<0 from hi.1) (by omega)
  |rw c=>exact absurd (show c<0 from hi.1) (by omega)
  |_=>exact⟨rfl,.inl ⟨rfl,rfl⟩⟩
theorem implNewBoard_any (w:World)(v:Value)(dss:List (List Dd))(h:RdW w v dss)(hx:dss.length≤1048576)(hm:∀i,i<dss.length→(dss.getD i []).length≤1048576):
  Calls Tryz.prog 50 #[v] w fun e w'=>∃bv:BV,e = .returned (.tuple #[bv.agg,.bool (workB dss)])∧FreeBd w' w.heap.size w'.heap.size bv (newD dss) (newB dss)∧Keep w w':=by
 have CN:=fun (W:World) (kW:Keep w W) (e:workB dss=false)=>newBoard_no W _ dss (h.keep kW) e hx hm
 have CY:=fun (W:World) (kW:Keep w W) (e:workB dss=true)=>newBoard_yes W _ dss (h.keep kW) e hx hm
 have HD:Hid (newD dss=if workB dss=true then dss else []):=Lib.hid rfl;have HB:Hid (newB dss=if workB dss=true then newM dss else zBd):=Lib.hid rfl;obtain⟨aD,cDd,rfl,-⟩:=id h;clear h hm;have hmf:∀(fn:Fn) (first cap:Array Value) (w:World),(Instr.makeFunc fn first cap).run Tryz.prog w = .ok (.func fn first cap) w:=fun _ _ _ _=>rfl
 obtain⟨w1,hw1⟩:∃W:World,W=((w.alloc (.cells #[nilS,nilS,nilS,nilS,nilS,nilS,nilS,nilS] 32)).alloc (.cells #[.bool false] 4)):=⟨_,rfl⟩;have K1:Keep w w1:=by rw[hw1];exact ((Keep.refl w).alloc _).alloc _
 have s1:w1.heap.size=w.heap.size+2:=by rw[hw1,heap_size,heap_size]
 have hV1:w1.heap[w.heap.size+1]? = some (.cells #[.bool false] 4 (0,0)):=by
  rw[hw1,heap_at,if_pos (by rw[heap_size])]
 have hR1:w1.heap[w.heap.size]? = some (.cells #[nilS,nilS,nilS,nilS,nilS,nilS,nilS,nilS] 32 (0,0)):=by rw[hw1];exact (Below.block ((Keep.refl _).alloc _) _ (by rw[heap_size];omega)).trans (heap_alloc_new _ _)
 go_enter_defers Tryz.func50,Tryz.ntmps50
 go_upto_region 2 with fail
 rw[←hw1];clear hw1;cases hb:workB dss
 ·
  have C:=CN _ K1 hb;have HDz:Hid (newD dss=[]):=Lib.hid (by rw[HD.out,hb];rfl);have HBz:Hid (newB dss=zBd):=Lib.hid (by rw[HB.out,hb];rfl);clear CN CY HD HB;go_wp2_with fail
  refine C.mono ?_;rintro e w2 ⟨rfl,k2⟩;have K2:=K1.trans k2;have z2:=k2.size;have hR2:=(Below.block k2 w.heap.size (by omega)).trans hR1;have hV2:=(Below.block k2 (w.heap.size+1) (by omega)).trans hV1;have g3:=grown_row3 w2 w.heap.size #[nilS,nilS,nilS,nilS,nilS,nilS,nilS,nilS];have h3:=setRow_heap w2 w.heap.size _ #[nilS,nilS,nilS,nilS,nilS,nilS,nilS,nilS] _ _ hR2;have v3:=(g3.block (w.heap.size+1) (by omega) (fun e=>by have:=Option.some.inj e;omega)).trans hV2;have v4:=heap_setCell_same _ (w.heap.size+1) 0 _ _ (.bool false) v3;have h4:=(heap_setCell_other (w2.setRow w.heap.size #[nilS,nilS,nilS,nilS,nilS,nilS,nilS,nilS]) ⟨w.heap.size+1,0,none⟩ w.heap.size (.bool false) (by show w.heap.size≠w.heap.size+1;omega)).trans h3;have g4:=grown_set (w2.setRow w.heap.size #[nilS,nilS,nilS,nilS,nilS,nilS,nilS,nilS]) (w.heap.size+1) 0 (.bool false);have HR3:=Lib.hid h4;have HC3:Hid (((w2.setRow w.heap.size #[nilS,nilS,nilS,nilS,nilS,nilS,nilS,nilS]).setCell ⟨w.heap.size+1,0,none⟩ (.bool false)).cell? ⟨w.heap.size+1,0,none⟩=some (.bool false)):=Lib.hid (by rw[cell_of_row _ _ 0 _ _ _ v4];rfl);have KZ:=Lib.hid ((K2.grown g3 (fun k hk=>by have:=Option.some.inj hk;omega)).grown g4 (fun k hk=>by have:=Option.some.inj hk;omega));have c3:(w2.setRow w.heap.size #[nilS,nilS,nilS,nilS,nilS,nilS,nilS,nilS]).cell? ⟨w.heap.size+1,0,none⟩=some (.bool false):=by rw[cell_of_row _ _ 0 _ _ _ v3];rfl
  have f3:=frozen_of_row (w2.setRow w.heap.size #[nilS,nilS,nilS,nilS,nilS,nilS,nilS,nilS]) (w.heap.size+1) 0 _ _ v3;clear g3 h3 v3 v4 h4 g4 c3 f3 hR1 hV1;go_wp2;refine leaves_cons (f:=83) (args:=#[.pointer (some ⟨w.heap.size,0,none⟩),.pointer (some ⟨w.heap.size+1,0,none⟩)]) (by simp) (by simp[go_sem]) ?_;refine (nwb_hit _ _ (by omega) _ _ rfl _ hR2 hV2).mono ?_;rintro e u' w9 ⟨rfl,rfl,rfl⟩;have hres:=fun (tmps:Array Value) (h0:tmps.getD 2 undef = .pointer (some ⟨w.heap.size,0,none⟩)) (h1:tmps.getD 3 undef = .pointer (some ⟨w.heap.size+1,0,none⟩))=>results_row_one (P:=Tryz.prog) (fn:=Tryz.f50) (by rfl) tmps _ w.heap.size (w.heap.size+1) 32 _ (0,0) _ h0 HR3.out h1 HC3.out Tryz.underlying32 rfl board_info (by kernel_rfl)
  show ∃v,(results _ _).run Tryz.prog _ = .ok v _∧_;refine⟨_,hres _ rfl rfl,?_⟩;exact⟨bd0,by rw[hb],by rw[HDz.out,HBz.out];exact (ownA_zero _ _).free,KZ.out⟩
 ·
  have C:=CY _ K1 hb;have HDz:Hid (newD dss=dss):=Lib.hid (by rw[HD.out,hb];rfl);have HBz:Hid (newB dss=newM dss):=Lib.hid (by rw[HB.out,hb];rfl);clear CN CY HD HB;go_wp2_with fail
  refine C.mono ?_;rintro e w2 ⟨bv,nv,rv,wv,rfl,OA,k2⟩;have K2:=K1.trans k2;have z2:=k2.size;have hR2:=(Below.block k2 w.heap.size (by omega)).trans hR1;have hV2:=(Below.block k2 (w.heap.size+1) (by omega)).trans hV1;obtain⟨nb,hnb⟩:∃nb,nb=newM dss:=⟨_,rfl⟩;rw[←hnb] at OA HBz;clear hnb C;obtain⟨vW,vP,vL,vN,vX,vS,vF,vR⟩:=bv;obtain⟨bW,bP,bL,bN,bX,bS,bF,bR,dW,dP,dL,dN,dX,dS,dF,dR,hsh⟩:=OA.rd.shapes;injection hsh with e1 e2 e3 e4 e5 e6 e7 e8;subst e1 e2 e3 e4 e5 e6 e7 e8;have g3:=grown_row3 w2 w.heap.size #[.slice bW dss.length dW,.slice bP nb.plc.length dP,.slice bL nb.lst.length dL,.slice bN nb.nts.length dN,.slice bX nb.nxt.length dX,.slice bS nb.sn.length dS,.slice bF nb.fr.length dF,.slice bR nb.rws.length dR];have h3:=setRow_heap w2 w.heap.size _ #[.slice bW dss.length dW,.slice bP nb.plc.length dP,.slice bL nb.lst.length dL,.slice bN nb.nts.length dN,.slice bX nb.nxt.length dX,.slice bS nb.sn.length dS,.slice bF nb.fr.length dF,.slice bR nb.rws.length dR] _ _ hR2;have v3:=(g3.block (w.heap.size+1) (by omega) (fun e=>by have:=Option.some.inj e;omega)).trans hV2;have v4:=heap_setCell_same _ (w.heap.size+1) 0 _ _ (.bool true) v3;have h4:=(heap_setCell_other (w2.setRow w.heap.size #[.slice bW dss.length dW,.slice bP nb.plc.length dP,.slice bL nb.lst.length dL,.slice bN nb.nts.length dN,.slice bX nb.nxt.length dX,.slice bS nb.sn.length dS,.slice bF nb.fr.length dF,.slice bR nb.rws.length dR]) ⟨w.heap.size+1,0,none⟩ w.heap.size (.bool true) (by show w.heap.size≠w.heap.size+1;omega)).trans h3;have g4:=grown_set (w2.setRow w.heap.size #[.slice bW dss.length dW,.slice bP nb.plc.length dP,.slice bL nb.lst.length dL,.slice bN nb.nts.length dN,.slice bX nb.nxt.length dX,.slice bS nb.sn.length dS,.slice bF nb.fr.length dF,.slice bR nb.rws.length dR]) (w.heap.size+1) 0 (.bool true);have HR3:=Lib.hid h4;have HC3:Hid (((w2.setRow w.heap.size #[.slice bW dss.length dW,.slice bP nb.plc.length dP,.slice bL nb.lst.length dL,.slice bN nb.nts.length dN,.slice bX nb.nxt.length dX,.slice bS nb.sn.length dS,.slice bF nb.fr.length dF,.slice bR nb.rws.length dR]).setCell ⟨w.heap.size+1,0,none⟩ (.bool true)).cell? ⟨w.heap.size+1,0,none⟩=some (.bool true)):=Lib.hid (by rw[cell_of_row _ _ 0 _ _ _ v4];rfl);have KZ:=Lib.hid ((K2.grown g3 (fun k hk=>by have:=Option.some.inj hk;omega)).grown g4 (fun k hk=>by have:=Option.some.inj hk;omega));have c3:(w2.setRow w.heap.size #[.slice bW dss.length dW,.slice bP nb.plc.length dP,.slice bL nb.lst.length dL,.slice bN nb.nts.length dN,.slice bX nb.nxt.length dX,.slice bS nb.sn.length dS,.slice bF nb.fr.length dF,.slice bR nb.rws.length dR]).cell? ⟨w.heap.size+1,0,none⟩=some (.bool false):=by rw[cell_of_row _ _ 0 _ _ _ v3];rfl
  have f3:=frozen_of_row (w2.setRow w.heap.size #[.slice bW dss.length dW,.slice bP nb.plc.length dP,.slice bL nb.lst.length dL,.slice bN nb.nts.length dN,.slice bX nb.nxt.length dX,.slice bS nb.sn.length dS,.slice bF nb.fr.length dF,.slice bR nb.rws.length dR]) (w.heap.size+1) 0 _ _ v3;have O4:=Lib.hid ((OA.far g3 (by omega)).far g4 (by omega));clear g3 h3 v3 v4 h4 g4 hR1 hV1 OA;go_wp2_with (first|refine wpList_store_row rfl 32 _ _ rfl w.heap.size _ rfl rfl 32 _ hR2 board_info rfl (by simp[Value.oneCell']) ?_|fail)
  refine leaves_cons (f:=83) (args:=#[.pointer (some ⟨w.heap.size,0,none⟩),.pointer (some ⟨w.heap.size+1,0,none⟩)]) (by simp) (by simp[go_sem]) ?_;refine (nwb_idle _ _ _).mono ?_;rintro e u' w9 ⟨rfl,rfl,rfl⟩;have hres:=fun (tmps:Array Value) (h0:tmps.getD 2 undef = .pointer (some ⟨w.heap.size,0,none⟩)) (h1:tmps.getD 3 undef = .pointer (some ⟨w.heap.size+1,0,none⟩))=>results_row_one (P:=Tryz.prog) (fn:=Tryz.f50) (by rfl) tmps _ w.heap.size (w.heap.size+1) 32 _ (0,0) _ h0 HR3.out h1 HC3.out Tryz.underlying32 rfl board_info (by kernel_rfl)
  show ∃v,(results _ _).run Tryz.prog _ = .ok v _∧_;refine⟨_,hres _ rfl rfl,?_⟩;exact⟨⟨_,_,_,_,_,_,_,_⟩,by rw[hb],by rw[HDz.out,HBz.out];exact OwnA.free ⟨O4.out.fam.base_le2 (by omega),O4.out.ln,O4.out.lr,O4.out.lw⟩,KZ.out⟩
end Go.Proofs.YtgakfkjjkobpiabGreat
