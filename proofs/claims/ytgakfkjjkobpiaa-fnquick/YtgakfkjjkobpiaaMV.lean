/- Gathered texts. -/
import Derived.Test.YtgakfkjjkobpiaaMU
import Derived.BigQuiet
import Derived.Deep.Cut
import Derived.RegionTactic
import Derived.Maps.AppendAt
import Derived.Defers
import Derived.Recover
import Derived.Lib.Hide
import Derived.Laws.Rows
import Derived.Test.YtgakfkjjkobpiaaMN
set_option maxRecDepth 100000
set_option maxHeartbeats 8000000
namespace Go.Proofs.Ytgakfkjjkobpiaa
open Go.ChangeShapes Go.WideShapes Go.ChangeAt Go.RowKit
theorem work_any (w:World)(m:Nat)(v:BV)(nv rv:List Value)(bs N:Nat)(dss:List (List Dd))(b:Bd)(n c:Nat)(h:OwnVal w m v nv rv bs N dss b)(S:Shp dss b n)(hn:n≤900)(hm:m≤w.heap.size)(hc:c<dss.length)(h0:0≤b.nxt.getD c 0)(hk:nxN b c<(dss.getD c []).length)(h3:(dAt dss c (nxN b c)).1=3→b.nts.getD c []=[]):
  Calls Try.prog 100 #[v.agg,.int .i64 c] w fun e w'=>e = .returned (.tuple #[])∧∃nv' rv',OwnVal w' m v nv' rv' bs N dss (stepM dss (eventsB dss) b (c:Int))∧TurnB w w' (blkV v nv rv) (blkV v nv' rv'):=by
 have hd3:dss.length≤3:=(workB_useR S.work).1;have WK0:=Lib.hid (WK.start S hn hc h0 hk (by omega));obtain⟨T,hT⟩:∃T,T=stepM dss (eventsB dss) b (c:Int):=⟨_,rfl⟩;obtain⟨g,hg⟩:∃g,g=gAt dss c (nxN b c):=⟨_,rfl⟩;rw[←hT,←hg] at WK0;have h5:=work_five S.work hc;have XOK:=Lib.hid (okC_of S.work hc);have lX:c<b.nxt.length:=by rw[S.nxt];exact hc
 have XS:=Lib.hid S;obtain⟨aW,aP,aL,aN,aX,aS,aF,aR,cW,cP,cL,cQ,cX,cS,cF,cR,rfl⟩:=h.rd0.shapes;have O1:=h.box hm;obtain⟨gx,cx,ex,-⟩:=O1.oX.lit lX;simp only[Value.slice.injEq] at ex;obtain⟨rfl,-,rfl⟩:=ex;obtain⟨a',c',ew,hW⟩:=O1.rd.W;simp only[Value.slice.injEq] at ew;obtain⟨rfl,-,rfl⟩:=ew;rcases hW with q|⟨bw,ow,rfl,hbw,hcw⟩
 · exfalso;rw[q] at hc;simp at hc
 obtain⟨vd,dw,rd⟩:=hcw c hc;obtain⟨ds,hds⟩:∃ds,ds=dss.getD c []:=⟨_,rfl⟩;rw[←hds] at rd h5;obtain⟨ad,cd,rfl,-⟩:=id rd;have CN:=doNext_any w;obtain⟨w1,hw1⟩:∃W:World,W=w.alloc (.cells #[.slice (some ⟨bw,ow,none⟩) dss.length cW,.slice aP b.plc.length cP,.slice aL b.lst.length cL,.slice aN b.nts.length cQ,.slice (some ⟨gx,0,none⟩) b.nxt.length cX,.slice aS b.sn.length cS,.slice aF b.fr.length cF,.slice aR b.rws.length cR] 29):=⟨_,rfl⟩;have y1w:w1.heap.size=w.heap.size+1:=by rw[hw1,heap_size]
 have K01:Keep w w1:=by rw[hw1];exact (Keep.refl w).alloc _
 replace O1:OwnBd w1 m w.heap.size ⟨.slice (some ⟨bw,ow,none⟩) dss.length cW,.slice aP b.plc.length cP,.slice aL b.lst.length cL,.slice aN b.nts.length cQ,.slice (some ⟨gx,0,none⟩) b.nxt.length cX,.slice aS b.sn.length cS,.slice aF b.fr.length cF,.slice aR b.rws.length cR⟩ nv rv bs N dss b:=by rw[hw1];exact O1
 replace dw:w1.cell? ⟨bw,ow+c,none⟩=some (.slice ad ds.length (ds.length+cd)):=by rw[hw1];exact dw
 have XO:=Lib.hid O1
 have XL:Hid (∀(W:World) (F':Nat→Prop),TurnB w1 W (blkV ⟨.slice (some ⟨bw,ow,none⟩) dss.length cW,.slice aP b.plc.length cP,.slice aL b.lst.length cL,.slice aN b.nts.length cQ,.slice (some ⟨gx,0,none⟩) b.nxt.length cX,.slice aS b.sn.length cS,.slice aF b.fr.length cF,.slice aR b.rws.length cR⟩ nv rv) F'→RdD W (.slice ad ds.length (ds.length+cd)) ds):=Lib.hid (fun W F' t=>by
  obtain⟨a2,c2,e2,hx⟩:=O1.work;simp only[Value.slice.injEq,true_and] at e2;rcases hx with q|⟨b2,o2,q1,q2,q3,q4,q5⟩
  · exfalso;rw[q] at hc;simp at hc
  rw[q1] at e2;simp only[Option.some.injEq,Addr.mk.injEq,and_true] at e2;obtain⟨⟨rfl,rfl⟩,-⟩:=e2;obtain⟨vi,u1,u2,u3⟩:=q5 c hc;rw[dw] at u1;have u4:=Option.some.inj u1;subst u4;rw[←hds] at u2
  exact (AppD.ownD (own_same (r:=ddR ds _) u2 (fun g hg=>t.block g (World.ownsRow.lt u2 g hg).2 (fun hB=>by
   have:=(XO.out.blk g (blk_of hB)).2.2;have:=(World.ownsRow.lt u2 g hg).1;have:=u3 g hg
   omega)))).rd)
 have XV:=Lib.hid (h.keep K01);have NB:Hid (∀q,blkV ⟨.slice (some ⟨bw,ow,none⟩) dss.length cW,.slice aP b.plc.length cP,.slice aL b.lst.length cL,.slice aN b.nts.length cQ,.slice (some ⟨gx,0,none⟩) b.nxt.length cX,.slice aS b.sn.length cS,.slice aF b.fr.length cF,.slice aR b.rws.length cR⟩ nv rv q→q<w.heap.size):=Lib.hid (fun q hq=>(h.blk q hq).2.1);have c0:w1.cell? ⟨w.heap.size,0,none⟩=some (.slice (some ⟨bw,ow,none⟩) dss.length cW):=O1.cells.1;have i1:(0:Int)≤(c:Int):=Int.natCast_nonneg _;have i2:(c:Int)<(dss.length:Int):=by omega
 have hDw:=O1.heapD;simp only[BV.arr] at hDw;have HDS:=Lib.hid hds;have XD1:=Lib.hid hDw;have HT:=Lib.hid hT;have hm1:m≤w1.heap.size:=by omega
 have CD:=doNext_any w1 m _ nv rv bs N dss b n c XV.out S (by omega) hm1 hc h0 hk h3;clear hcw O1 h S h3 hds hT hg rd CN hk;go_enter Try.func100,Try.ntmps100
 go_upto_region 1 with fail
 rw[←hw1];clear hw1;go_wp2_with (first|refine wpList_load_row rfl 29 _ rfl w.heap.size rfl 29 _ (0,0) _ hDw Try.underlying29 rfl board_info ?_|fail)
 refine CD.mono ?_;rintro e w2 ⟨rfl,nv2,rv2,V2,T2⟩;have XV2:=Lib.hid V2;have XT2:=Lib.hid T2;have nD:∀F',TurnB w1 w2 (blkV ⟨.slice (some ⟨bw,ow,none⟩) dss.length cW,.slice aP b.plc.length cP,.slice aL b.lst.length cL,.slice aN b.nts.length cQ,.slice (some ⟨gx,0,none⟩) b.nxt.length cX,.slice aS b.sn.length cS,.slice aF b.fr.length cF,.slice aR b.rws.length cR⟩ nv rv) F'→w2.heap[w.heap.size]? = w1.heap[w.heap.size]?:=fun F' t=>t.block _ (by omega) (fun q=>by have:=NB.out _ q;omega)
 have hD2:=(nD _ T2).trans hDw;clear V2 T2 nD CD dw c0 hDw XV XO;go_wp2;go_loopw [] (fun wr=>∃(nv' rv':List Value) (b':Bd) (n':Nat),OwnVal wr m ⟨.slice (some ⟨bw,ow,none⟩) dss.length cW,.slice aP b.plc.length cP,.slice aL b.lst.length cL,.slice aN b.nts.length cQ,.slice (some ⟨gx,0,none⟩) b.nxt.length cX,.slice aS b.sn.length cS,.slice aF b.fr.length cF,.slice aR b.rws.length cR⟩ nv' rv' bs N dss b'∧TurnB w1 wr (blkV ⟨.slice (some ⟨bw,ow,none⟩) dss.length cW,.slice aP b.plc.length cP,.slice aL b.lst.length cL,.slice aN b.nts.length cQ,.slice (some ⟨gx,0,none⟩) b.nxt.length cX,.slice aS b.sn.length cS,.slice aF b.fr.length cF,.slice aR b.rws.length cR⟩ nv rv) (blkV ⟨.slice (some ⟨bw,ow,none⟩) dss.length cW,.slice aP b.plc.length cP,.slice aL b.lst.length cL,.slice aN b.nts.length cQ,.slice (some ⟨gx,0,none⟩) b.nxt.length cX,.slice aS b.sn.length cS,.slice aF b.fr.length cF,.slice aR b.rws.length cR⟩ nv' rv')∧WK dss c g T b' n') (fun wr=>match wr.cell? ⟨gx,c,none⟩ with|some x=>ds.length-(intOf x).toNat|none=>0)
 case atStart=>exact⟨nv2,rv2,_,_,XV2.out,XT2.out,WK0.out⟩
 case round=>
  obtain⟨nv',rv',b',n',VJ,TJ,KJ⟩:=hrel;clear XV2 XT2 hD2;have lXJ:c<b'.nxt.length:=by rw[KJ.shp.nxt];exact hc
  obtain⟨gx',cx',ex',lgx,dXJ,-⟩:=(show Own wr m (BV.X ⟨.slice (some ⟨bw,ow,none⟩) dss.length cW,.slice aP b.plc.length cP,.slice aL b.lst.length cL,.slice aN b.nts.length cQ,.slice (some ⟨gx,0,none⟩) b.nxt.length cX,.slice aS b.sn.length cS,.slice aF b.fr.length cF,.slice aR b.rws.length cR⟩) b'.nxt from VJ.fam.own .nxt ⟨trivial,by simp⟩).lit lXJ;have ex2:Value.slice (some ⟨gx,0,none⟩) b.nxt.length cX = .slice (some ⟨gx',0,none⟩) b'.nxt.length cx':=ex';simp only[Value.slice.injEq,Option.some.injEq,Addr.mk.injEq,and_true] at ex2;obtain⟨k,hkz⟩:=Int.eq_ofNat_of_zero_le KJ.z;have hkn:nxN b' c=k:=by unfold nxN;rw[hkz];rfl
  have dXc:wr.cell? ⟨gx,c,none⟩=some (.int .i64 (k:Int)):=by rw[ex2.1,←hkz];exact dXJ c lXJ
  have XKJ:=Lib.hid KJ;have hle:=KJ.le;rw[hkn,←HDS.out] at hle;have hDr:wr.heap[w.heap.size]? = some (.cells #[.slice (some ⟨bw,ow,none⟩) dss.length cW,.slice aP b.plc.length cP,.slice aL b.lst.length cL,.slice aN b.nts.length cQ,.slice (some ⟨gx,0,none⟩) b.nxt.length cX,.slice aS b.sn.length cS,.slice aF b.fr.length cF,.slice aR b.rws.length cR] 29 (0,0)):=(TJ.block _ (by omega) (fun q=>by have:=NB.out _ q;omega)).trans XD1.out;have c4:wr.cell? ⟨w.heap.size,4,none⟩=some (.slice (some ⟨gx,0,none⟩) b.nxt.length cX):=by rw[cell_of_row wr _ 4 _ _ _ hDr];rfl
  have XVJ:=Lib.hid VJ;have XTJ:=Lib.hid TJ;have XLJ:=Lib.hid (XL.out wr _ TJ);have i3:(c:Int)<(b.nxt.length:Int):=by omega
  have i4:(0:Int)≤(k:Int):=Int.natCast_nonneg _
  have HEND:Hid (¬(k<ds.length∧goB ds k=true)→∃nv'' rv'',OwnVal wr m ⟨.slice (some ⟨bw,ow,none⟩) dss.length cW,.slice aP b.plc.length cP,.slice aL b.lst.length cL,.slice aN b.nts.length cQ,.slice (some ⟨gx,0,none⟩) b.nxt.length cX,.slice aS b.sn.length cS,.slice aF b.fr.length cF,.slice aR b.rws.length cR⟩ nv'' rv'' bs N dss T∧TurnB w wr (blkV ⟨.slice (some ⟨bw,ow,none⟩) dss.length cW,.slice aP b.plc.length cP,.slice aL b.lst.length cL,.slice aN b.nts.length cQ,.slice (some ⟨gx,0,none⟩) b.nxt.length cX,.slice aS b.sn.length cS,.slice aF b.fr.length cF,.slice aR b.rws.length cR⟩ nv rv) (blkV ⟨.slice (some ⟨bw,ow,none⟩) dss.length cW,.slice aP b.plc.length cP,.slice aL b.lst.length cL,.slice aN b.nts.length cQ,.slice (some ⟨gx,0,none⟩) b.nxt.length cX,.slice aS b.sn.length cS,.slice aF b.fr.length cF,.slice aR b.rws.length cR⟩ nv'' rv'')):=Lib.hid (fun hno=>by
   obtain⟨mm,-,hT⟩:=XKJ.out.go;rw[hkn,←HDS.out,if_neg hno] at hT
   exact⟨nv',rv',by rw[hT];exact XVJ.out,((TurnB.refl w _).keep K01).trans XTJ.out⟩)
  clear VJ TJ KJ ex' ex2 dXJ;by_cases hl:k<ds.length
  ·
   have hd:decide ((k:Int)<(ds.length:Int))=true:=decide_eq_true (by omega)
   cases hgo:goB ds k with
   |true=>
    have CGO:∀q,Calls Try.prog 117 #[.slice ad ds.length (ds.length+cd),.int .i64 (k:Int)] (wr.drewN q) fun e w'=>e = .returned (.bool true)∧∃r,w'=(wr.drewN q).drewN r:=fun q=>by
     rw[←hgo];exact goesOn_quiet (wr.drewN q) _ ds (XLJ.out.keep ((Keep.refl wr).drewN q)) k hl (by omega)
    obtain⟨g1,g2⟩:=XKJ.out.gg (by rw[hkn,←HDS.out];exact hl) (by rw[hkn,←HDS.out];exact hgo);rw[hkn] at g1;have CD:=fun (W:World) (kW:Keep wr W)=>doNext_any W m _ nv' rv' bs N dss b' n' c (XVJ.out.keep kW) XKJ.out.shp (by have:=XKJ.out.nt;omega) (Nat.le_trans (show m≤wr.heap.size by have:=XTJ.out.size;omega) kW.size) hc XKJ.out.z (by rw[hkn,←HDS.out];exact hl) (fun q3=>absurd q3 (num_grp XOK.out (by rw[hkn,←HDS.out];exact hl) (by rw[hkn,g1];exact g2)).2.1)
    clear hle HEND;go_upto_region 3 with fail
    go_quiet ((first|(go_at_call 111;exact Calls.quiet_of_same (count_any _ _ _ _))|(go_at_call 117;exact Calls.quiet_of (CGO _))))
    have hDw:(wr.drewN nq).heap[w.heap.size]? = some (.cells #[.slice (some ⟨bw,ow,none⟩) dss.length cW,.slice aP b.plc.length cP,.slice aL b.lst.length cL,.slice aN b.nts.length cQ,.slice (some ⟨gx,0,none⟩) b.nxt.length cX,.slice aS b.sn.length cS,.slice aF b.fr.length cF,.slice aR b.rws.length cR] 29 (0,0)):=hDr;go_wp2_with (first|refine wpList_load_row rfl 29 _ rfl w.heap.size rfl 29 _ (0,0) _ hDw Try.underlying29 rfl board_info ?_|fail)
    refine (CD _ ((Keep.refl wr).drewN _)).mono ?_;rintro e w5 ⟨rfl,nv5,rv5,V5,T5⟩;have HS:=XKJ.out.step hc (by rw[hkn,←HDS.out];exact hl) (by rw[hkn,←HDS.out];exact hgo);have T6:=(XTJ.out.keep ((Keep.refl wr).drewN _)).trans T5;obtain⟨e1,e2⟩:=one_nxN (dss:=dss) (es:=eventsB dss) lXJ XKJ.out.z;obtain⟨gx',cx',ex',-,dX5,-⟩:=(show Own w5 m (BV.X ⟨.slice (some ⟨bw,ow,none⟩) dss.length cW,.slice aP b.plc.length cP,.slice aL b.lst.length cL,.slice aN b.nts.length cQ,.slice (some ⟨gx,0,none⟩) b.nxt.length cX,.slice aS b.sn.length cS,.slice aF b.fr.length cF,.slice aR b.rws.length cR⟩) _ from V5.fam.own .nxt ⟨trivial,by simp⟩).lit (show c<(oneM dss (eventsB dss) b' c).nxt.length by rw[HS.shp.nxt];exact hc);have ex2:Value.slice (some ⟨gx,0,none⟩) b.nxt.length cX = .slice (some ⟨gx',0,none⟩) (oneM dss (eventsB dss) b' c).nxt.length cx':=ex';simp only[Value.slice.injEq,Option.some.injEq,Addr.mk.injEq,and_true] at ex2
    have dXn:w5.cell? ⟨gx,c,none⟩=some (.int .i64 ((k:Int)+1)):=by
     have:=dX5 c (by rw[HS.shp.nxt];exact hc);rw[e1,hkz,←ex2.1] at this;exact this
    have HV5:=Lib.hid V5;have HT6:=Lib.hid T6;have HSS:=Lib.hid HS;clear V5 T5 T6 HS dX5 ex' ex2 hDw CGO CD;go_wp2;go_roundw;case rel=>exact⟨nv5,rv5,_,_,HV5.out,HT6.out,HSS.out⟩
    case measure=>simp only[dXn,dXc,intOf];omega
   |false=>
    have CGO:∀q,Calls Try.prog 117 #[.slice ad ds.length (ds.length+cd),.int .i64 (k:Int)] (wr.drewN q) fun e w'=>e = .returned (.bool false)∧∃r,w'=(wr.drewN q).drewN r:=fun q=>by
     rw[←hgo];exact goesOn_quiet (wr.drewN q) _ ds (XLJ.out.keep ((Keep.refl wr).drewN q)) k hl (by omega)
    obtain⟨nz,rz,VZ,TZ⟩:=HEND.out (fun q=>by rw[hgo] at q;simp at q);have HV:=Lib.hid VZ;have HZ:=Lib.hid TZ;clear hle HEND VZ TZ;go_upto_region 3 with fail
    go_quiet ((first|(go_at_call 111;exact Calls.quiet_of_same (count_any _ _ _ _))|(go_at_call 117;exact Calls.quiet_of (CGO _))))
    go_wp2;go_end0;exact⟨rfl,nz,rz,by rw[←HT.out];exact HV.out.keep ((Keep.refl wr).drewN _),HZ.out.keep ((Keep.refl wr).drewN _)⟩
  ·
   have hd:decide ((k:Int)<(ds.length:Int))=false:=decide_eq_false (by omega);obtain⟨nz,rz,VZ,TZ⟩:=HEND.out (fun q=>hl q.1);have HV:=Lib.hid VZ;have HZ:=Lib.hid TZ;clear hle HEND VZ TZ;go_upto_region 3 with fail
   go_quiet ((first|(go_at_call 111;exact Calls.quiet_of_same (count_any _ _ _ _))|fail))
   go_wp2;go_end0;exact⟨rfl,nz,rz,by rw[←HT.out];exact HV.out.keep ((Keep.refl wr).drewN _),HZ.out.keep ((Keep.refl wr).drewN _)⟩
theorem blkI_V {v:BV}{nv rv:List Value}{g:Nat}(h:blkI v rv g):blkV v nv rv g:=by
 obtain⟨i,hi,e⟩:=h
 cases i with
 |plc=>exact⟨.plc,trivial,by simp,e⟩
 |lst=>exact⟨.lst,trivial,by simp,e⟩
 |rws=>exact⟨.rws,trivial,by simp,e⟩
 |rw p=>exact⟨.rw p,hi,by simp,e⟩
 |bd=>exact hi.elim
 |nts=>exact hi.elim
 |nxt=>exact hi.elim
 |sn=>exact hi.elim
 |fr=>exact hi.elim
 |nt c=>exact hi.elim
theorem bring_any (w:World)(m:Nat)(v:BV)(nv rv wv:List Value)(bs N:Nat)(dss:List (List Dd))(b:Bd)(n c:Nat)(x:Nt)(r:List Nt)(h:OwnVal w m v nv rv bs N dss b)(lw:OwnLW w bs N v.W wv dss)(hbs:m≤bs)(S:Shp dss b n)(hn:n≤1000)(hm:m≤w.heap.size)(hc:c<dss.length)(hz:b.nts.getD c []=x::r)(hx:0≤x.1∧x.1≤2):
  Calls Try.prog 101 #[v.agg,.int .i64 c] w fun e w'=>e = .returned (.tuple #[])∧FreeBd w' m w'.heap.size v dss (flushM b c)∧∃F',TurnB w w' (blkV v nv rv) F':=by
 have hcn:c<b.nts.length:=by rw[S.nts];exact hc
 obtain⟨x0,x1,x2⟩:=x;simp only at hx;obtain⟨p,rfl⟩:=Int.eq_ofNat_of_zero_le hx.1;have hp3:p<3:=by omega
 have HM:Hid (flushM b c=inkM { b with nts:=b.nts.set c r } p x1 x2):=Lib.hid (by unfold flushM;rw[hz];simp);have XS:=Lib.hid S;have lp:p<b.plc.length:=by rw[S.plc];exact hp3
 have ll:p<b.lst.length:=by rw[S.lst];exact hp3
 have lr:p<b.rws.length:=by rw[S.rws];exact hp3
 obtain⟨aW,aP,aL,aN,aX,aS,aF,aR,cW,cP,cL,cQ,cX,cS,cF,cR,rfl⟩:=h.rd0.shapes;have XSL:=Lib.hid h.rd0.sl;have O1:=h.box hm;obtain⟨a',c',eN,hN⟩:=O1.hN;simp only[Value.slice.injEq,true_and] at eN;obtain⟨rfl,rfl⟩:=eN;rcases hN with q|⟨gn,rfl,lgn,dn⟩
 · exfalso;rw[q] at hcn;simp at hcn
 obtain⟨w1,hw1⟩:∃W:World,W=w.alloc (.cells #[.slice aW dss.length cW,.slice aP b.plc.length cP,.slice aL b.lst.length cL,.slice (some ⟨gn,0,none⟩) b.nts.length cQ,.slice aX b.nxt.length cX,.slice aS b.sn.length cS,.slice aF b.fr.length cF,.slice aR b.rws.length cR] 29):=⟨_,rfl⟩;have y1w:w1.heap.size=w.heap.size+1:=by rw[hw1,heap_size]
 have K01:Keep w w1:=by rw[hw1];exact (Keep.refl w).alloc _
 replace O1:OwnBd w1 m w.heap.size ⟨.slice aW dss.length cW,.slice aP b.plc.length cP,.slice aL b.lst.length cL,.slice (some ⟨gn,0,none⟩) b.nts.length cQ,.slice aX b.nxt.length cX,.slice aS b.sn.length cS,.slice aF b.fr.length cF,.slice aR b.rws.length cR⟩ nv rv bs N dss b:=by rw[hw1];exact O1
 replace dn:∀i,i<b.nts.length→w1.cell? ⟨gn,i,none⟩=some (nv.getD i nilS):=by rw[hw1];exact dn
 have oq:=O1.oN hcn;rw[hz] at oq
 obtain⟨gq,cq,hq,lgq⟩:∃gq cq,nv.getD c nilS = .slice (some ⟨gq,0,none⟩) (r.length+1) cq∧gq<w1.heap.size:=by
  have hlt:=World.ownsRow.lt oq;rcases oq.2 with ⟨_,hz'⟩|⟨g,cap,cur,e,_⟩
  · simp at hz'
  · exact⟨g,cap,e,(hlt g (by rw[e];rfl)).2⟩
 have hcq:r.length+1≤cq:=by
  rcases oq.2 with ⟨_,hz'⟩|⟨g,cap,cur,e,_,_,hcap,_⟩
  · simp at hz'
  ·
   rw[hq] at e;simp only[Value.slice.injEq] at e;rw[e.2.2];simpa using hcap
 rw[hq] at oq;have q0:w1.cell? ⟨gq,0,none⟩=some (.int .i64 (p:Int)):=World.ownsRow.cellAt oq 0 (by simp);have q1:w1.cell? ⟨gq,1,none⟩=some (.int .i64 x1):=World.ownsRow.cellAt oq 1 (by show 1<(r.length+1)*3;omega);have q2:w1.cell? ⟨gq,2,none⟩=some (.int .i64 x2):=World.ownsRow.cellAt oq 2 (by show 2<(r.length+1)*3;omega);have d3:=dn c hcn;rw[hq] at d3;have hcv:c<nv.length:=by rw[O1.ln];exact hcn
 obtain⟨w2,hw2⟩:∃W:World,W=w1.alloc (noteO (p:Int) x1 x2):=⟨_,rfl⟩;have k2:Keep w1 w2:=by rw[hw2];exact (Keep.refl w1).alloc _
 have y2w:w2.heap.size=w.heap.size+2:=by rw[hw2,heap_size,y1w]
 have XN2:Hid (w2.heap[w.heap.size+1]? = some (.cells #[.int .i64 (p:Int),.int .i64 x1,.int .i64 x2] 66 (0,0))):=Lib.hid (by rw[hw2,←y1w];exact heap_alloc_new _ _);have O2:=O1.keep k2;have XD2:Hid (w2.heap[w.heap.size]? = some (.cells #[.slice aW dss.length cW,.slice aP b.plc.length cP,.slice aL b.lst.length cL,.slice (some ⟨gn,0,none⟩) b.nts.length cQ,.slice aX b.nxt.length cX,.slice aS b.sn.length cS,.slice aF b.fr.length cF,.slice aR b.rws.length cR] 29 (0,0))):=Lib.hid (by have:=O2.heapD;simp only[BV.arr] at this;exact this);have XA2:Hid (OwnA w2 m ⟨.slice aW dss.length cW,.slice aP b.plc.length cP,.slice aL b.lst.length cL,.slice (some ⟨gn,0,none⟩) b.nts.length cQ,.slice aX b.nxt.length cX,.slice aS b.sn.length cS,.slice aF b.fr.length cF,.slice aR b.rws.length cR⟩ nv rv wv dss b):=Lib.hid (O2.all ((lw.keep K01).keep k2) hbs);have XVN:Hid (BV.N ⟨.slice aW dss.length cW,.slice aP b.plc.length cP,.slice aL b.lst.length cL,.slice (some ⟨gn,0,none⟩) b.nts.length cQ,.slice aX b.nxt.length cX,.slice aS b.sn.length cS,.slice aF b.fr.length cF,.slice aR b.rws.length cR⟩ = .slice (some ⟨gn,0,none⟩) nv.length cQ):=Lib.hid (by rw[O1.ln]);have NB:Hid (∀q,blkV ⟨.slice aW dss.length cW,.slice aP b.plc.length cP,.slice aL b.lst.length cL,.slice (some ⟨gn,0,none⟩) b.nts.length cQ,.slice aX b.nxt.length cX,.slice aS b.sn.length cS,.slice aF b.fr.length cF,.slice aR b.rws.length cR⟩ nv rv q→q<w.heap.size):=Lib.hid (fun q hq=>(h.blk q hq).2.1);have T02:Hid (TurnB w w2 (blkV ⟨.slice aW dss.length cW,.slice aP b.plc.length cP,.slice aL b.lst.length cL,.slice (some ⟨gn,0,none⟩) b.nts.length cQ,.slice aX b.nxt.length cX,.slice aS b.sn.length cS,.slice aF b.fr.length cF,.slice aR b.rws.length cR⟩ nv rv) (blkV ⟨.slice aW dss.length cW,.slice aP b.plc.length cP,.slice aL b.lst.length cL,.slice (some ⟨gn,0,none⟩) b.nts.length cQ,.slice aX b.nxt.length cX,.slice aS b.sn.length cS,.slice aF b.fr.length cF,.slice aR b.rws.length cR⟩ nv rv)):=Lib.hid (((TurnB.refl w _).keep K01).keep k2);have c31:w1.cell? ⟨w.heap.size,3,none⟩=some (.slice (some ⟨gn,0,none⟩) b.nts.length cQ):=O1.cells.2.2.2.1;have c3:w2.cell? ⟨w.heap.size,3,none⟩=some (.slice (some ⟨gn,0,none⟩) b.nts.length cQ):=O2.cells.2.2.2.1;have d32:=(k2.cell (show gn<w1.heap.size from (O1.fam.lt (i:= .nts) trivial gn rfl).2)).trans d3;have f3:w2.frozen? ⟨gn,c,none⟩=false:=(Rw.put (r:=hdR 36 nv (BV.N ⟨.slice aW dss.length cW,.slice aP b.plc.length cP,.slice aL b.lst.length cL,.slice (some ⟨gn,0,none⟩) b.nts.length cQ,.slice aX b.nxt.length cX,.slice aS b.sn.length cS,.slice aF b.fr.length cF,.slice aR b.rws.length cR⟩)) (O2.fam.own .nts trivial) (g:=gn) (cap:=cQ) (k:=c) XVN.out (.bool true)).2.2;have i1:(0:Int)≤(c:Int):=Int.natCast_nonneg _;have i3:(c:Int)<(b.nts.length:Int):=by omega
 have i5:((r.length+1:Nat):Int)=(r.length:Int)+1:=by omega
 have j1:(1:Int)≤(r.length:Int)+1:=by omega
 have hz':=hz;have hq':=hq;have HZ1:=Lib.hid hz';have HZ2:=Lib.hid hq';clear O1 O2 oq dn h lw hz hq hz' hq' S hx;go_enter Try.func101,Try.ntmps101
 go_upto_region 1 with fail
 rw[←hw1];clear hw1;go_upto_region 2 with fail
 rw[←hw2];clear hw2 q0 q1 q2 c31 d3;have hz':=HZ1;have hq':=HZ2;have d3:=d32;clear d32;by_cases hq1:cq=1
 ·
  have j2:(1:Int)≤(cq:Int):=by omega
  have OC3:=(XA2.out.cut (g:=gn) (c:=c) (cap:=cQ) XVN.out (.slice (some ⟨gq,0,none⟩) r.length 0)).keep (Keep.refl _).drew;have T3:TurnB w2 _ (blkV ⟨.slice aW dss.length cW,.slice aP b.plc.length cP,.slice aL b.lst.length cL,.slice (some ⟨gn,0,none⟩) b.nts.length cQ,.slice aX b.nxt.length cX,.slice aS b.sn.length cS,.slice aF b.fr.length cF,.slice aR b.rws.length cR⟩ nv rv) (blkV ⟨.slice aW dss.length cW,.slice aP b.plc.length cP,.slice aL b.lst.length cL,.slice (some ⟨gn,0,none⟩) b.nts.length cQ,.slice aX b.nxt.length cX,.slice aS b.sn.length cS,.slice aF b.fr.length cF,.slice aR b.rws.length cR⟩ nv rv):=((TurnB.refl w2 _).grown (grown_set w2 gn c (.slice (some ⟨gq,0,none⟩) r.length 0)) (fun g hg=>⟨.nts,trivial,by simp,hg⟩)).keep (Keep.refl _).drew;have hDw:=(T3.block w.heap.size (by omega) (fun q=>by have:=NB.out _ q;omega)).trans XD2.out;have hNw:=(T3.block (w.heap.size+1) (by omega) (fun q=>by have:=NB.out _ q;omega)).trans XN2.out;have XC3:=Lib.hid OC3;have XT3:=Lib.hid T3;have XDw:=Lib.hid hDw;have XNw:=Lib.hid hNw;clear OC3 T3 hDw hNw;go_region
  go_upto_region 3 with fail
  obtain⟨w3,hw3⟩:∃W:World,W=(w2.setCell ⟨gn,c,none⟩ (.slice (some ⟨gq,0,none⟩) r.length 0)).drew:=⟨_,rfl⟩;rw[←hw3] at XC3 XT3 XDw XNw ⊢;clear hw3;have hDw:=XDw.out;have m0:w3.cell? ⟨w.heap.size+1,0,none⟩=some (.int .i64 (p:Int)):=by rw[cell_of_row w3 _ 0 _ _ _ XNw.out];rfl
  have m1:w3.cell? ⟨w.heap.size+1,1,none⟩=some (.int .i64 x1):=by rw[cell_of_row w3 _ 1 _ _ _ XNw.out];rfl
  have m2:w3.cell? ⟨w.heap.size+1,2,none⟩=some (.int .i64 x2):=by rw[cell_of_row w3 _ 2 _ _ _ XNw.out];rfl
  have s3:=XT3.out.size;have CPUT:=put_any w3 m ⟨.slice aW dss.length cW,.slice aP b.plc.length cP,.slice aL b.lst.length cL,.slice (some ⟨gn,0,none⟩) b.nts.length cQ,.slice aX b.nxt.length cX,.slice aS b.sn.length cS,.slice aF b.fr.length cF,.slice aR b.rws.length cR⟩ rv b p x1 x2 XC3.out.ink XSL.out (by omega) lp ll lr (by have:=XS.out.rl p;omega);clear d3 f3 c3;go_wp2_with (first|refine wpList_load_row rfl 29 _ rfl w.heap.size rfl 29 _ (0,0) _ hDw Try.underlying29 rfl board_info ?_|fail)
  refine CPUT.mono ?_;rintro e w4 ⟨rfl,rv',O4,T4⟩;have OC4:=XC3.out.turn O4 T4 rfl rfl rfl rfl;have FR:=Lib.hid (OC4.free hcv HZ1.out HZ2.out (.inl ⟨hq1,rfl⟩));have B4:=Lib.hid ((T02.out.trans XT3.out).trans (⟨T4.os,T4.tape,T4.output,T4.size,fun g h1 h2=>T4.block g h1 (fun q=>h2 (blkI_V q)),fun g h=>h⟩:TurnB w3 w4 (blkV ⟨.slice aW dss.length cW,.slice aP b.plc.length cP,.slice aL b.lst.length cL,.slice (some ⟨gn,0,none⟩) b.nts.length cQ,.slice aX b.nxt.length cX,.slice aS b.sn.length cS,.slice aF b.fr.length cF,.slice aR b.rws.length cR⟩ nv rv) (fun g=>blkV ⟨.slice aW dss.length cW,.slice aP b.plc.length cP,.slice aL b.lst.length cL,.slice (some ⟨gn,0,none⟩) b.nts.length cQ,.slice aX b.nxt.length cX,.slice aS b.sn.length cS,.slice aF b.fr.length cF,.slice aR b.rws.length cR⟩ nv rv g∨w3.heap.size≤g)));clear O4 T4 OC4 CPUT hDw m0 m1 m2;go_wp2;go_end0;exact⟨rfl,by rw[HM.out];exact FR.out,_,B4.out⟩
 ·
  have j2:(1:Int)<(cq:Int):=by omega
  have OC3:=(XA2.out.cut (g:=gn) (c:=c) (cap:=cQ) XVN.out (.slice (some ⟨gq,3,none⟩) r.length (cq-1))).keep (Keep.refl _).drew;have T3:TurnB w2 _ (blkV ⟨.slice aW dss.length cW,.slice aP b.plc.length cP,.slice aL b.lst.length cL,.slice (some ⟨gn,0,none⟩) b.nts.length cQ,.slice aX b.nxt.length cX,.slice aS b.sn.length cS,.slice aF b.fr.length cF,.slice aR b.rws.length cR⟩ nv rv) (blkV ⟨.slice aW dss.length cW,.slice aP b.plc.length cP,.slice aL b.lst.length cL,.slice (some ⟨gn,0,none⟩) b.nts.length cQ,.slice aX b.nxt.length cX,.slice aS b.sn.length cS,.slice aF b.fr.length cF,.slice aR b.rws.length cR⟩ nv rv):=((TurnB.refl w2 _).grown (grown_set w2 gn c (.slice (some ⟨gq,3,none⟩) r.length (cq-1))) (fun g hg=>⟨.nts,trivial,by simp,hg⟩)).keep (Keep.refl _).drew;have hDw:=(T3.block w.heap.size (by omega) (fun q=>by have:=NB.out _ q;omega)).trans XD2.out;have hNw:=(T3.block (w.heap.size+1) (by omega) (fun q=>by have:=NB.out _ q;omega)).trans XN2.out;have XC3:=Lib.hid OC3;have XT3:=Lib.hid T3;have XDw:=Lib.hid hDw;have XNw:=Lib.hid hNw;clear OC3 T3 hDw hNw;go_region
  go_upto_region 3 with fail
  obtain⟨w3,hw3⟩:∃W:World,W=(w2.setCell ⟨gn,c,none⟩ (.slice (some ⟨gq,3,none⟩) r.length (cq-1))).drew:=⟨_,rfl⟩;rw[←hw3] at XC3 XT3 XDw XNw ⊢;clear hw3;have hDw:=XDw.out;have m0:w3.cell? ⟨w.heap.size+1,0,none⟩=some (.int .i64 (p:Int)):=by rw[cell_of_row w3 _ 0 _ _ _ XNw.out];rfl
  have m1:w3.cell? ⟨w.heap.size+1,1,none⟩=some (.int .i64 x1):=by rw[cell_of_row w3 _ 1 _ _ _ XNw.out];rfl
  have m2:w3.cell? ⟨w.heap.size+1,2,none⟩=some (.int .i64 x2):=by rw[cell_of_row w3 _ 2 _ _ _ XNw.out];rfl
  have s3:=XT3.out.size;have CPUT:=put_any w3 m ⟨.slice aW dss.length cW,.slice aP b.plc.length cP,.slice aL b.lst.length cL,.slice (some ⟨gn,0,none⟩) b.nts.length cQ,.slice aX b.nxt.length cX,.slice aS b.sn.length cS,.slice aF b.fr.length cF,.slice aR b.rws.length cR⟩ rv b p x1 x2 XC3.out.ink XSL.out (by omega) lp ll lr (by have:=XS.out.rl p;omega);clear d3 f3 c3;go_wp2_with (first|refine wpList_load_row rfl 29 _ rfl w.heap.size rfl 29 _ (0,0) _ hDw Try.underlying29 rfl board_info ?_|fail)
  refine CPUT.mono ?_;rintro e w4 ⟨rfl,rv',O4,T4⟩;have OC4:=XC3.out.turn O4 T4 rfl rfl rfl rfl;have FR:=Lib.hid (OC4.free hcv HZ1.out HZ2.out (.inr rfl));have B4:=Lib.hid ((T02.out.trans XT3.out).trans (⟨T4.os,T4.tape,T4.output,T4.size,fun g h1 h2=>T4.block g h1 (fun q=>h2 (blkI_V q)),fun g h=>h⟩:TurnB w3 w4 (blkV ⟨.slice aW dss.length cW,.slice aP b.plc.length cP,.slice aL b.lst.length cL,.slice (some ⟨gn,0,none⟩) b.nts.length cQ,.slice aX b.nxt.length cX,.slice aS b.sn.length cS,.slice aF b.fr.length cF,.slice aR b.rws.length cR⟩ nv rv) (fun g=>blkV ⟨.slice aW dss.length cW,.slice aP b.plc.length cP,.slice aL b.lst.length cL,.slice (some ⟨gn,0,none⟩) b.nts.length cQ,.slice aX b.nxt.length cX,.slice aS b.sn.length cS,.slice aF b.fr.length cF,.slice aR b.rws.length cR⟩ nv rv g∨w3.heap.size≤g)));clear O4 T4 OC4 CPUT hDw m0 m1 m2;go_wp2;go_end0;exact⟨rfl,by rw[HM.out];exact FR.out,_,B4.out⟩
theorem ownA_zero (w:World)(m:Nat):OwnA w m bd0 [] [] [] [] zBd:=by
 have hv:∀i,liveA [] [] [] i→(famA bd0 [] [] [] [] zBd i).v.ownBlock=none:=fun i hi=>by
  cases i with
  |wk=>rfl
  |wd c=>exact absurd (show c<0 from hi) (by omega)
  |b i=>
   cases i with
   |bd=>exact absurd rfl hi.2
   |nt c=>exact absurd (show c<0 from hi.1) (by omega)
   |rw c=>exact absurd (show c<0 from hi.1) (by omega)
   |_=>rfl
 refine⟨⟨fun i hi=>?_,fun i j hi _ _ => .inl (hv i hi)⟩,rfl,rfl,rfl⟩
 cases i with
 |wk=>exact⟨rfl,.inl ⟨rfl,rfl⟩⟩
 |wd c=>exact absurd (show c<0 from hi) (by omega)
 |b i=>
  cases i with
  |bd=>exact absurd rfl hi.2
  |nt c=>exact absurd (show c<0 from hi.1) (by omega)
  |rw c=>exact absurd (show c<0 from hi.1) (by omega)
  |_=>exact⟨rfl,.inl ⟨rfl,rfl⟩⟩
theorem poss_canI {dss:List (List Dd)}{b:Bd}{c:Nat}(_:dss.length≤3)(h:canM dss b c=true)(hc:c<dss.length):isB (possM dss b) (c:Int)=true:=by
 unfold isB possM;rw[List.any_append,List.any_map];simp only[Bool.or_eq_true];left;rw[List.any_eq_true];exact⟨c,List.mem_filter.2 ⟨List.mem_range.2 hc,h⟩,by simp⟩
theorem poss_noteI {dss:List (List Dd)}{b:Bd}{c:Nat}(h:decide (0<(b.nts.getD c []).length)=true)(hc:c<dss.length):isB (possM dss b) (10+(c:Int))=true:=by
 unfold isB possM;rw[List.any_append];simp only[Bool.or_eq_true];right;rw[List.any_map,List.any_eq_true];refine⟨c,List.mem_filter.2 ⟨List.mem_range.2 hc,?_⟩,by simp⟩
 cases e:b.nts.getD c [] with
 |nil=>rw[e] at h;simp at h
 |cons x r=>rfl
theorem poss_noI {dss:List (List Dd)}{b:Bd}{s:Int}(h0:∀c:Nat,c<dss.length→s=(c:Int)→canM dss b c=false)(h1:∀c:Nat,c<dss.length→s=10+(c:Int)→decide (0<(b.nts.getD c []).length)=false):isB (possM dss b) s=false:=by
 cases e:isB (possM dss b) s with
 |false=>rfl
 |true=>
  exfalso;unfold isB possM at e;rw[List.any_append,List.any_map,List.any_map] at e;simp only[Bool.or_eq_true,List.any_eq_true,List.mem_filter,List.mem_range,Function.comp,beq_iff_eq] at e;rcases e with ⟨c,⟨hc,q⟩,e⟩|⟨c,⟨hc,q⟩,e⟩
  · rw[h0 c hc e.symm] at q;cases q
  ·
   have:=h1 c hc e.symm
   cases en:b.nts.getD c [] with
   |nil=>rw[en] at q;simp at q
   |cons x r=>rw[en] at this;simp at this
theorem FreeBd.wide {w:World}{m m' M M':Nat}{v:BV}{dss:List (List Dd)}{b:Bd}(h:FreeBd w m M v dss b)(hm:m'≤m)(hM:M≤M'):FreeBd w m' M' v dss b:=by
 obtain⟨Vw,Vn,Vr,h1,h2,h3⟩:=h.ex;have up:∀v n,HdM v n m→HdM v n m':=fun v n q b o l c e hn=>Nat.le_trans hm (q b o l c e hn)
 exact⟨h.rd,⟨Vw,Vn,Vr,h1,h2,fun x hx=>⟨Nat.le_trans hm (h3 x hx).1,Nat.lt_of_lt_of_le (h3 x hx).2 hM⟩⟩,up _ _ h.hd.1,up _ _ h.hd.2.1,up _ _ h.hd.2.2⟩
theorem OwnVal.all {w:World}{m:Nat}{v:BV}{nv rv wv:List Value}{bs N:Nat}{dss:List (List Dd)}{b:Bd}(h:OwnVal w m v nv rv bs N dss b)(lw:OwnLW w bs N v.W wv dss)(hm:m≤bs):OwnA w m v nv rv wv dss b:=by
 have wl:∀o,llLive wv.length o→∀k,(llR 72 ddR v.W wv dss o).v.ownBlock=some k→bs≤k∧k<N:=fun o ho k hk=>⟨(lw.ll.fam.lt ho k hk).1,lw.lt o ho k hk⟩
 have cross:∀i,liveB nv rv i→i≠.bd→∀o,llLive wv.length o→(famR 0 v nv rv b i).v.ownBlock=none∨(famR 0 v nv rv b i).v.ownBlock≠(llR 72 ddR v.W wv dss o).v.ownBlock:=fun i hi hb o ho=>by
  cases e:(famR 0 v nv rv b i).v.ownBlock with
  |none=>exact .inl rfl
  |some k=>exact .inr (fun q=>by have:=h.out i hi hb k e;have:=wl o ho k q.symm;omega)
 have cross':∀o,llLive wv.length o→∀i,liveB nv rv i→i≠.bd→(llR 72 ddR v.W wv dss o).v.ownBlock=none∨(llR 72 ddR v.W wv dss o).v.ownBlock≠(famR 0 v nv rv b i).v.ownBlock:=fun o ho i hi hb=>by
  cases e:(llR 72 ddR v.W wv dss o).v.ownBlock with
  |none=>exact .inl rfl
  |some k=>exact .inr (fun q=>by have:=h.out i hi hb k q.symm;have:=wl o ho k e;omega)
 refine⟨⟨fun j hj=>?_,fun i j hi hj hij=>?_⟩,h.ln,h.lr,lw.ll.len⟩
 ·
  cases j with
  |b i=>exact h.fam.own i hj
  |wk=>exact own_base (lw.ll.fam.own none trivial) hm
  |wd c=>exact own_base (lw.ll.fam.own (some c) hj) hm
 ·
  cases i with
  |b i=>
   cases j with
   |b j=>exact h.fam.apart i j hi hj (fun e=>hij (by rw[e]))
   |wk=>exact cross i hi.1 hi.2 none trivial
   |wd c=>exact cross i hi.1 hi.2 (some c) hj
  |wk=>
   cases j with
   |b j=>exact cross' none trivial j hj.1 hj.2
   |wk=>exact absurd rfl hij
   |wd c=>exact lw.ll.fam.apart none (some c) trivial hj (by simp)
  |wd c=>
   cases j with
   |b j=>exact cross' (some c) hi j hj.1 hj.2
   |wk=>exact lw.ll.fam.apart (some c) none hi trivial (by simp)
   |wd d=>exact lw.ll.fam.apart (some c) (some d) hi hj (fun e=>hij (by have:=Option.some.inj e;rw[this]))
theorem implStepped_any (w:World)(v:BV)(dss:List (List Dd))(b:Bd)(s:Int)(h:RdBd w v dss b)(hz:SzBd dss b):
  Calls Try.prog 33 #[v.agg,.int .i64 s] w fun e w'=>∃bv':BV,e = .returned (.tuple #[bv'.agg,.bool (stpT dss b s)])∧FreeBd w' w.heap.size w'.heap.size bv' (stpD dss b) (stpB dss b s)∧Keep w w':=by
 obtain⟨s0,hs0⟩:∃s0,s0=s:=⟨_,rfl⟩;have HS0:=Lib.hid hs0;clear hs0;have XRB:=Lib.hid h;have CB:=fun (W:World) (kW:Keep w W)=>implBoardOk_any W v dss b (h.keep kW) hz
 obtain⟨aW,aP,aL,aN,aX,aS,aF,aR,cW,cP,cL,cN,cX,cS,cF,cR,rfl⟩:=h.shapes;clear h hz;obtain⟨w1,hw1⟩:∃W:World,W=(w.alloc (.cells #[.slice aW dss.length cW,.slice aP b.plc.length cP,.slice aL b.lst.length cL,.slice aN b.nts.length cN,.slice aX b.nxt.length cX,.slice aS b.sn.length cS,.slice aF b.fr.length cF,.slice aR b.rws.length cR] 29)).alloc (.cells #[nilS,nilS,nilS,nilS,nilS,nilS,nilS,nilS] 29):=⟨_,rfl⟩;have K1:Keep w w1:=by rw[hw1];exact ((Keep.refl w).alloc _).alloc _
 have s1:w.heap.size+1<w1.heap.size:=by rw[hw1,heap_size,heap_size];omega
 have hB1:w1.heap[w.heap.size]? = some (.cells #[.slice aW dss.length cW,.slice aP b.plc.length cP,.slice aL b.lst.length cL,.slice aN b.nts.length cN,.slice aX b.nxt.length cX,.slice aS b.sn.length cS,.slice aF b.fr.length cF,.slice aR b.rws.length cR] 29 (0,0)):=by rw[hw1];exact box_heap ((Keep.refl _).alloc _)
 have hR1:w1.heap[w.heap.size+1]? = some (.cells #[nilS,nilS,nilS,nilS,nilS,nilS,nilS,nilS] 29 (0,0)):=by rw[hw1,←heap_size w (.cells #[.slice aW dss.length cW,.slice aP b.plc.length cP,.slice aL b.lst.length cL,.slice aN b.nts.length cN,.slice aX b.nxt.length cX,.slice aS b.sn.length cS,.slice aF b.fr.length cF,.slice aR b.rws.length cR] 29)];exact heap_alloc_new _ _
 go_enter Try.func33,Try.ntmps33
 go_upto_region 1 with fail
 rw[←hw1];clear hw1;go_wp2_with (first|refine wpList_load_row rfl 29 _ rfl w.heap.size rfl 29 _ (0,0) _ hB1 Try.underlying29 rfl board_info ?_|fail)
 refine (CB _ K1).mono ?_;rintro e w2 ⟨rfl,k2⟩;have K2:=K1.trans k2;have s2:=k2.size;have hB2:=(Below.block k2 w.heap.size (by omega)).trans hB1;have hR2:=(Below.block k2 (w.heap.size+1) (by omega)).trans hR1;clear CB hB1 hR1 k2;cases hb:boardB dss b
 ·
  have HD:Hid (stpD dss b=[]):=Lib.hid (by unfold stpD;rw[hb];rfl);have HB:Hid (stpB dss b s=zBd):=Lib.hid (by unfold stpB;rw[hb];rfl);have HT:Hid (stpT dss b s=false):=Lib.hid (by unfold stpT;rw[hb];rfl);have HG:=Lib.hid (grown_row3 w2 (w.heap.size+1) #[nilS,nilS,nilS,nilS,nilS,nilS,nilS,nilS]);have HZ:=Lib.hid (setRow_heap w2 (w.heap.size+1) _ #[nilS,nilS,nilS,nilS,nilS,nilS,nilS,nilS] _ _ hR2);have HK:=Lib.hid (K2.grown HG.out (fun q hq=>by have:=Option.some.inj hq;omega));clear K2 hB2;go_wp2_with (first|refine wpList_store_row rfl 29 _ _ rfl (w.heap.size+1) _ rfl rfl 29 _ hR2 board_info rfl (by simp[Value.oneCell']) ?_|fail)
  refine bodyPost_ret (results_row_tmp (by rfl) _ _ (w.heap.size+1) _ _ (0,0) _ (.bool false) rfl HZ.out rfl Try.underlying29 rfl board_info) rfl ?_;exact⟨bd0,by rw[HT.out],by rw[HD.out,HB.out];exact (ownA_zero _ _).free,HK.out⟩
 have XSH:=Lib.hid (Shp.of hb);have XD3:Hid (dss.length≤3):=Lib.hid (workB_useR XSH.out.work).1;have d3:=XD3.out;go_wp2_with (first|refine wpList_load_row rfl 29 _ rfl w.heap.size rfl 29 _ (0,0) _ hB2 Try.underlying29 rfl board_info ?_|fail)
 refine (copiedBoard_any w2 _ dss b (XRB.out.keep K2) hb).mono ?_;rintro e w3 ⟨bv',nv,rv,wv,bs,N,rfl,OV,LW,hbsm,k3⟩;obtain⟨uW,uP,uL,uN,uX,uS,uF,uR,eW,eP,eL,eN,eX,eS,eF,eR,rfl⟩:=OV.rd0.shapes;have XMV:=Lib.hid OV;have XLW:=Lib.hid LW;have s3:=k3.size;clear OV LW;obtain⟨w4,hw4⟩:∃W:World,W=w3.alloc (.cells #[.slice uW dss.length eW,.slice uP b.plc.length eP,.slice uL b.lst.length eL,.slice uN b.nts.length eN,.slice uX b.nxt.length eX,.slice uS b.sn.length eS,.slice uF b.fr.length eF,.slice uR b.rws.length eR] 29):=⟨_,rfl⟩;have k4:Keep w3 w4:=by rw[hw4];exact (Keep.refl w3).alloc _
 have hM4:w4.heap[w3.heap.size]? = some (.cells #[.slice uW dss.length eW,.slice uP b.plc.length eP,.slice uL b.lst.length eL,.slice uN b.nts.length eN,.slice uX b.nxt.length eX,.slice uS b.sn.length eS,.slice uF b.fr.length eF,.slice uR b.rws.length eR] 29 (0,0)):=by rw[hw4];exact heap_alloc_new _ _
 have y4:w3.heap.size<w4.heap.size:=by rw[hw4,heap_size];omega
 go_upto_region 4 with fail
 rw[←hw4];clear hw4;go_wp2_with fail
 refine (allSteps_any w4).mono ?_;rintro e w5 ⟨rfl,hw5⟩;have k5:Keep w4 w5:=by rw[hw5];exact (Keep.refl w4).alloc _
 have hT5:w5.heap[w4.heap.size]? = some (.cells stepT 91 (0,0)):=by rw[hw5];exact heap_alloc_new _ _
 have y5:w4.heap.size<w5.heap.size:=by rw[hw5,heap_size];omega
 have K35:=Lib.hid (k4.trans k5);have K25:=k3.trans (k4.trans k5);have K05:=Lib.hid (K2.trans K25);have XB5:=Lib.hid ((Below.block K25 w.heap.size (by omega)).trans hB2);have XR5:=Lib.hid ((Below.block K25 (w.heap.size+1) (by omega)).trans hR2);have XM5:=Lib.hid ((Below.block k5 w3.heap.size (by omega)).trans hM4);have XT5:=Lib.hid hT5;clear hw5 hB2 hR2 hM4 hT5 k3 k4 k5 K25 K2 K1;go_wp2;go_loopw [8,9,18] (fun _ _ i wr=>∃k:Nat,k≤2∧i = .int .i64 k∧Keep w5 wr∧(1≤k→∀cc:Nat,cc<dss.length→(s0=(cc:Int))→canM dss b cc=false)∧(2≤k→∀cc:Nat,cc<dss.length→(s0=10+(cc:Int))→decide (0<(b.nts.getD cc []).length)=false)) (fun _ _ i _=>2-(intOf i).toNat)
 case atStart=>exact⟨0,Nat.zero_le _,rfl,Keep.refl _,fun q=>absurd q (by omega),fun q=>absurd q (by omega)⟩
 case round=>
  obtain⟨k,hk,rfl,kr,hn0,hn1⟩:=hrel;have sr:=kr.size;have hBr:=(Below.block kr w.heap.size (by omega)).trans XB5.out;have hTr:=(Below.block kr w4.heap.size (by omega)).trans XT5.out;by_cases hlt:k<2
  ·
   have k01:k=0∨k=1:=by omega
   rcases k01 with rfl|rfl
   ·
    clear hn0 hn1;obtain⟨q0,q1,q2⟩:=(tbl_cells hTr).1;obtain⟨wa,hwa⟩:∃W:World,W=(wr.alloc (.cells #[.int .i64 0,.nilFunc,.nilFunc] 91)).setRow wr.heap.size #[.int .i64 0,.func (.func 99) #[] #[],.func (.func 100) #[] #[]]:=⟨_,rfl⟩;have hA:(wr.alloc (.cells #[.int .i64 0,.nilFunc,.nilFunc] 91)).heap[wr.heap.size]? = some (.cells #[.int .i64 0,.nilFunc,.nilFunc] 91 (0,0)):=heap_alloc_new _ _;have g4:(wr.alloc (.cells #[.int .i64 0,.nilFunc,.nilFunc] 91)).grownBy wa (some wr.heap.size):=by rw[hwa];exact grown_row3 _ _ _
    have k4:Keep wr wa:=((Keep.refl wr).alloc _).grown g4 (fun q hq=>Nat.le_of_eq (Option.some.inj hq));have hQ4:wa.heap[wr.heap.size]? = some (.cells #[.int .i64 0,.func (.func 99) #[] #[],.func (.func 100) #[] #[]] 91 (0,0)):=by rw[hwa];exact setRow_heap _ _ _ _ _ _ hA
    have y4:wr.heap.size<wa.heap.size:=by have:=g4.size;rw[heap_size] at this;omega
    go_upto_region 7 with (first|refine wpList_store_row rfl 91 _ _ rfl wr.heap.size _ rfl rfl 91 _ hA step_info rfl (by simp[Value.oneCell']) ?_|fail)
    rw[←hwa];clear hwa hA q0 q1 q2 g4;have K5a:=kr.trans k4;have KA:=K05.out.trans K5a;have hB4:=(Below.block k4 w.heap.size (by omega)).trans hBr;have z0:wa.cell? ⟨w.heap.size,0,none⟩=some (.slice aW dss.length cW):=by rw[cell_of_row wa _ 0 _ _ _ hB4];rfl
    have t0:wa.cell? ⟨wr.heap.size,0,none⟩=some (.int .i64 0):=by rw[cell_of_row wa _ 0 _ _ _ hQ4];rfl
    have t1:wa.cell? ⟨wr.heap.size,1,none⟩=some (.func (.func 99) #[] #[]):=by rw[cell_of_row wa _ 1 _ _ _ hQ4];rfl
    have hw1:IntKind.i64.wrap ((dss.length:Int))=(dss.length:Int):=by rw[IntKind.wrap_i64];omega
    have hw2:IntKind.i64.wrap ((dss.length:Int)-1)=(dss.length:Int)-1:=by rw[IntKind.wrap_i64];omega
    have s4:=k4.size;go_wp2_with fail
    refine (isFrom_any _ _ _ _).mono ?_;rintro e wa' ⟨rfl,hwa'⟩;rw[hwa'];clear hwa';by_cases hin:∃cc:Nat,cc<dss.length∧s=(cc:Int)
    ·
     obtain⟨cc,hcc,hs⟩:=hin;have hI:inB s 0 ((dss.length:Int)-1)=true:=by unfold inB;simp;omega
     rw[hI];subst hs;have hws:IntKind.i64.wrap ((cc:Int)-0)=(cc:Int):=by rw[IntKind.wrap_i64];omega
     have hws2:IntKind.i64.wrap (cc:Int)=(cc:Int):=by rw[IntKind.wrap_i64];omega
     have z1:wa.cell? ⟨w.heap.size,1,none⟩=some (.slice aP b.plc.length cP):=by rw[cell_of_row wa _ 1 _ _ _ hB4];rfl
     have z2:wa.cell? ⟨w.heap.size,2,none⟩=some (.slice aL b.lst.length cL):=by rw[cell_of_row wa _ 2 _ _ _ hB4];rfl
     have z3:wa.cell? ⟨w.heap.size,3,none⟩=some (.slice aN b.nts.length cN):=by rw[cell_of_row wa _ 3 _ _ _ hB4];rfl
     have z4:wa.cell? ⟨w.heap.size,4,none⟩=some (.slice aX b.nxt.length cX):=by rw[cell_of_row wa _ 4 _ _ _ hB4];rfl
     have z5:wa.cell? ⟨w.heap.size,5,none⟩=some (.slice aS b.sn.length cS):=by rw[cell_of_row wa _ 5 _ _ _ hB4];rfl
     have z6:wa.cell? ⟨w.heap.size,6,none⟩=some (.slice aF b.fr.length cF):=by rw[cell_of_row wa _ 6 _ _ _ hB4];rfl
     have z7:wa.cell? ⟨w.heap.size,7,none⟩=some (.slice aR b.rws.length cR):=by rw[cell_of_row wa _ 7 _ _ _ hB4];rfl
     have CAN:=canWork_any wa _ dss b cc (XRB.out.keep KA) hb hcc;clear hI;go_wp2_with fail
     refine CAN.mono ?_;rintro e wb ⟨rfl,kb⟩;have K5b:=K5a.trans kb;have K3b:=K35.out.trans K5b;have sb:=kb.size
     cases ht:canM dss b cc with
     |false=>
      have HN:Hid (∀cc:Nat,cc<dss.length→(s0=(cc:Int))→canM dss b cc=false):=Lib.hid (fun d hd e=>by
       have e2:(cc:Int)=(d:Int):=HS0.out.symm.trans e;obtain rfl:cc=d:=by omega
       exact ht)
      go_wp2;go_roundw;case rel=>exact⟨1,by omega,rfl,K5b,fun _=>HN.out,fun q=>absurd q (by omega)⟩
      case measure=>simp[intOf]
     |true=>
      have hQb:=(Below.block kb wr.heap.size y4).trans hQ4;have hMb:=(Below.block K5b w3.heap.size (by omega)).trans XM5.out;have hRb:=(Below.block K5b (w.heap.size+1) (by omega)).trans XR5.out;have u0:wb.cell? ⟨wr.heap.size,0,none⟩=some (.int .i64 0):=by rw[cell_of_row wb _ 0 _ _ _ hQb];rfl
      have u2:wb.cell? ⟨wr.heap.size,2,none⟩=some (.func (.func 100) #[] #[]):=by rw[cell_of_row wb _ 2 _ _ _ hQb];rfl
      have s5b:=K5b.size;obtain⟨cu1,cu2⟩:=can_use ht;have CDO:=work_any wb w2.heap.size ⟨.slice uW dss.length eW,.slice uP b.plc.length eP,.slice uL b.lst.length eL,.slice uN b.nts.length eN,.slice uX b.nxt.length eX,.slice uS b.sn.length eS,.slice uF b.fr.length eF,.slice uR b.rws.length eR⟩ nv rv bs N dss b 20 cc (XMV.out.keep K3b) XSH.out (by omega) (by omega) hcc (board_clerk hb hcc).1 cu1 (fun q3=>by rcases cu2 with q|q;omega;exact q);have HT:Hid (stpT dss b ((cc:Int))=true):=Lib.hid (by unfold stpT;rw[hb,poss_canI XD3.out ht hcc];rfl);have HB:Hid (stpB dss b ((cc:Int))=stepM dss (eventsB dss) b ((cc:Int))):=Lib.hid (by unfold stpB stepB;rw[if_pos hb,poss_canI XD3.out ht hcc,if_pos rfl]);have HD:Hid (stpD dss b=dss):=Lib.hid (by unfold stpD;rw[if_pos hb]);go_wp2_with (first|refine wpList_load_row rfl 29 _ rfl w3.heap.size rfl 29 _ (0,0) _ hMb Try.underlying29 rfl board_info ?_|fail)
      refine CDO.mono ?_;rintro e wd ⟨rfl,nv6,rv6,V6,T6⟩;have LW6:=OwnLW.turn (v:=⟨.slice uW dss.length eW,.slice uP b.plc.length eP,.slice uL b.lst.length eL,.slice uN b.nts.length eN,.slice uX b.nxt.length eX,.slice uS b.sn.length eS,.slice uF b.fr.length eF,.slice uR b.rws.length eR⟩) (XLW.out.keep K3b) (XMV.out.keep K3b) T6;have FR6:=Lib.hid ((V6.all LW6 hbsm).free);have XT6:=Lib.hid T6;clear V6 T6 LW6 CDO;have hM6:=(XT6.out.block w3.heap.size (by omega) (fun q=>by have:=(XMV.out.blk _ q).2.1;omega)).trans hMb;have hR6:=(XT6.out.block (w.heap.size+1) (by omega) (fun q=>by have:=(XMV.out.blk _ q).1;omega)).trans hRb;have K6:Keep w wd:=Below.trans (K05.out.trans K5b) (XT6.out.low (show w.heap.size≤wb.heap.size by omega) (fun g hg=>by have:=(XMV.out.blk g hg).1;omega));have s6:=XT6.out.size;clear hMb hRb u0 u2 hQb;have HG:=Lib.hid (grown_row3 wd (w.heap.size+1) #[.slice uW dss.length eW,.slice uP b.plc.length eP,.slice uL b.lst.length eL,.slice uN b.nts.length eN,.slice uX b.nxt.length eX,.slice uS b.sn.length eS,.slice uF b.fr.length eF,.slice uR b.rws.length eR]);have HZ:=Lib.hid (setRow_heap wd (w.heap.size+1) _ #[.slice uW dss.length eW,.slice uP b.plc.length eP,.slice uL b.lst.length eL,.slice uN b.nts.length eN,.slice uX b.nxt.length eX,.slice uS b.sn.length eS,.slice uF b.fr.length eF,.slice uR b.rws.length eR] _ _ hR6);have HF:=Lib.hid (((FR6.out).above (w':=wd.setRow (w.heap.size+1) #[.slice uW dss.length eW,.slice uP b.plc.length eP,.slice uL b.lst.length eL,.slice uN b.nts.length eN,.slice uX b.nxt.length eX,.slice uS b.sn.length eS,.slice uF b.fr.length eF,.slice uR b.rws.length eR]) (fun q h1 h2=>HG.out.block q h2 (fun e=>by have:=Option.some.inj e;omega)) HG.out.size).wide (show w.heap.size≤_ by omega) HG.out.size);have HKK:=Lib.hid ((K6).grown HG.out (fun q hq=>by have:=Option.some.inj hq;omega));go_wp2_with (first|refine wpList_load_row rfl 29 _ rfl w3.heap.size rfl 29 _ (0,0) _ hM6 Try.underlying29 rfl board_info ?_|refine wpList_store_row rfl 29 _ _ rfl (w.heap.size+1) _ rfl rfl 29 _ hR6 board_info rfl (by simp[Value.oneCell']) ?_|fail)
      refine bodyPost_ret (results_row_tmp (by rfl) _ _ (w.heap.size+1) _ _ (0,0) _ (.bool true) rfl HZ.out rfl Try.underlying29 rfl board_info) rfl ?_;exact⟨⟨.slice uW dss.length eW,.slice uP b.plc.length eP,.slice uL b.lst.length eL,.slice uN b.nts.length eN,.slice uX b.nxt.length eX,.slice uS b.sn.length eS,.slice uF b.fr.length eF,.slice uR b.rws.length eR⟩,by rw[HT.out],by rw[HD.out,HB.out];exact HF.out,HKK.out⟩
    ·
     have hI:inB s 0 ((dss.length:Int)-1)=false:=by
      unfold inB;rw[decide_eq_false];rintro⟨h1,h2⟩;exact hin ⟨(s-0).toNat,by omega,by omega⟩
     rw[hI];have HN:Hid (∀cc:Nat,cc<dss.length→(s0=(cc:Int))→canM dss b cc=false):=Lib.hid (fun d hd e=>(hin ⟨d,hd,HS0.out.symm.trans e⟩).elim);clear hI hin;go_wp2;go_roundw;case rel=>exact⟨1,by omega,rfl,K5a,fun _=>HN.out,fun q=>absurd q (by omega)⟩
     case measure=>simp[intOf]
   ·
    clear hn1;obtain⟨q0,q1,q2⟩:=(tbl_cells hTr).2;obtain⟨wa,hwa⟩:∃W:World,W=(wr.alloc (.cells #[.int .i64 0,.nilFunc,.nilFunc] 91)).setRow wr.heap.size #[.int .i64 10,.func (.func 34) #[] #[],.func (.func 101) #[] #[]]:=⟨_,rfl⟩;have hA:(wr.alloc (.cells #[.int .i64 0,.nilFunc,.nilFunc] 91)).heap[wr.heap.size]? = some (.cells #[.int .i64 0,.nilFunc,.nilFunc] 91 (0,0)):=heap_alloc_new _ _;have g4:(wr.alloc (.cells #[.int .i64 0,.nilFunc,.nilFunc] 91)).grownBy wa (some wr.heap.size):=by rw[hwa];exact grown_row3 _ _ _
    have k4:Keep wr wa:=((Keep.refl wr).alloc _).grown g4 (fun q hq=>Nat.le_of_eq (Option.some.inj hq));have hQ4:wa.heap[wr.heap.size]? = some (.cells #[.int .i64 10,.func (.func 34) #[] #[],.func (.func 101) #[] #[]] 91 (0,0)):=by rw[hwa];exact setRow_heap _ _ _ _ _ _ hA
    have y4:wr.heap.size<wa.heap.size:=by have:=g4.size;rw[heap_size] at this;omega
    go_upto_region 7 with (first|refine wpList_store_row rfl 91 _ _ rfl wr.heap.size _ rfl rfl 91 _ hA step_info rfl (by simp[Value.oneCell']) ?_|fail)
    rw[←hwa];clear hwa hA q0 q1 q2 g4;have K5a:=kr.trans k4;have KA:=K05.out.trans K5a;have hB4:=(Below.block k4 w.heap.size (by omega)).trans hBr;have z0:wa.cell? ⟨w.heap.size,0,none⟩=some (.slice aW dss.length cW):=by rw[cell_of_row wa _ 0 _ _ _ hB4];rfl
    have t0:wa.cell? ⟨wr.heap.size,0,none⟩=some (.int .i64 10):=by rw[cell_of_row wa _ 0 _ _ _ hQ4];rfl
    have t1:wa.cell? ⟨wr.heap.size,1,none⟩=some (.func (.func 34) #[] #[]):=by rw[cell_of_row wa _ 1 _ _ _ hQ4];rfl
    have hw1:IntKind.i64.wrap (10+(dss.length:Int))=10+(dss.length:Int):=by rw[IntKind.wrap_i64];omega
    have hw2:IntKind.i64.wrap (10+(dss.length:Int)-1)=10+(dss.length:Int)-1:=by rw[IntKind.wrap_i64];omega
    have s4:=k4.size;go_wp2_with fail
    refine (isFrom_any _ _ _ _).mono ?_;rintro e wa' ⟨rfl,hwa'⟩;rw[hwa'];clear hwa';by_cases hin:∃cc:Nat,cc<dss.length∧s=10+(cc:Int)
    ·
     obtain⟨cc,hcc,hs⟩:=hin;have hI:inB s 10 (10+(dss.length:Int)-1)=true:=by unfold inB;simp;omega
     rw[hI];subst hs;have hws:IntKind.i64.wrap (10+(cc:Int)-10)=(cc:Int):=by rw[IntKind.wrap_i64];omega
     have z1:wa.cell? ⟨w.heap.size,1,none⟩=some (.slice aP b.plc.length cP):=by rw[cell_of_row wa _ 1 _ _ _ hB4];rfl
     have z2:wa.cell? ⟨w.heap.size,2,none⟩=some (.slice aL b.lst.length cL):=by rw[cell_of_row wa _ 2 _ _ _ hB4];rfl
     have z3:wa.cell? ⟨w.heap.size,3,none⟩=some (.slice aN b.nts.length cN):=by rw[cell_of_row wa _ 3 _ _ _ hB4];rfl
     have z4:wa.cell? ⟨w.heap.size,4,none⟩=some (.slice aX b.nxt.length cX):=by rw[cell_of_row wa _ 4 _ _ _ hB4];rfl
     have z5:wa.cell? ⟨w.heap.size,5,none⟩=some (.slice aS b.sn.length cS):=by rw[cell_of_row wa _ 5 _ _ _ hB4];rfl
     have z6:wa.cell? ⟨w.heap.size,6,none⟩=some (.slice aF b.fr.length cF):=by rw[cell_of_row wa _ 6 _ _ _ hB4];rfl
     have z7:wa.cell? ⟨w.heap.size,7,none⟩=some (.slice aR b.rws.length cR):=by rw[cell_of_row wa _ 7 _ _ _ hB4];rfl
     have CAN:=hasNotes_any wa _ dss b cc (XRB.out.keep KA) (by rw[XSH.out.nts];exact hcc);clear hI;go_wp2_with fail
     refine CAN.mono ?_;rintro e wb ⟨rfl,kb⟩;have K5b:=K5a.trans kb;have K3b:=K35.out.trans K5b;have sb:=kb.size
     cases ht:decide (0<(b.nts.getD cc []).length) with
     |false=>
      have HN:Hid (∀cc:Nat,cc<dss.length→(s0=10+(cc:Int))→decide (0<(b.nts.getD cc []).length)=false):=Lib.hid (fun d hd e=>by
       have e2:10+(cc:Int)=10+(d:Int):=HS0.out.symm.trans e;obtain rfl:cc=d:=by omega
       exact ht)
      go_wp2;go_roundw;case rel=>exact⟨2,by omega,rfl,K5b,fun _=>hn0 (by omega),fun _=>HN.out⟩
      case measure=>simp[intOf]
     |true=>
      have hQb:=(Below.block kb wr.heap.size y4).trans hQ4;have hMb:=(Below.block K5b w3.heap.size (by omega)).trans XM5.out;have hRb:=(Below.block K5b (w.heap.size+1) (by omega)).trans XR5.out;have u0:wb.cell? ⟨wr.heap.size,0,none⟩=some (.int .i64 10):=by rw[cell_of_row wb _ 0 _ _ _ hQb];rfl
      have u2:wb.cell? ⟨wr.heap.size,2,none⟩=some (.func (.func 101) #[] #[]):=by rw[cell_of_row wb _ 2 _ _ _ hQb];rfl
      have s5b:=K5b.size
      obtain⟨xx,rr,hxr⟩:∃xx rr,b.nts.getD cc []=xx::rr:=by
       cases e:b.nts.getD cc [] with
       |nil=>rw[e] at ht;simp at ht
       |cons xx rr=>exact⟨xx,rr,rfl⟩
      have hxx:=(((RB.any hb).nl cc).2 xx (by rw[hxr];simp)).1;have CDO:=bring_any wb w2.heap.size ⟨.slice uW dss.length eW,.slice uP b.plc.length eP,.slice uL b.lst.length eL,.slice uN b.nts.length eN,.slice uX b.nxt.length eX,.slice uS b.sn.length eS,.slice uF b.fr.length eF,.slice uR b.rws.length eR⟩ nv rv wv bs N dss b 20 cc xx rr (XMV.out.keep K3b) (XLW.out.keep K3b) hbsm XSH.out (by omega) (by omega) hcc hxr hxx;have HT:Hid (stpT dss b (10+(cc:Int))=true):=Lib.hid (by unfold stpT;rw[hb,poss_noteI ht hcc];rfl);have HB:Hid (stpB dss b (10+(cc:Int))=flushM b cc):=Lib.hid (by unfold stpB stepB;rw[if_pos hb,poss_noteI ht hcc,if_pos rfl,flush_step]);have HD:Hid (stpD dss b=dss):=Lib.hid (by unfold stpD;rw[if_pos hb]);go_wp2_with (first|refine wpList_load_row rfl 29 _ rfl w3.heap.size rfl 29 _ (0,0) _ hMb Try.underlying29 rfl board_info ?_|fail)
      refine CDO.mono ?_;rintro e wd ⟨rfl,FR6,F6,T6⟩;replace FR6:=Lib.hid FR6;have XT6:=Lib.hid T6;clear T6 CDO;have hM6:=(XT6.out.block w3.heap.size (by omega) (fun q=>by have:=(XMV.out.blk _ q).2.1;omega)).trans hMb;have hR6:=(XT6.out.block (w.heap.size+1) (by omega) (fun q=>by have:=(XMV.out.blk _ q).1;omega)).trans hRb;have K6:Keep w wd:=Below.trans (K05.out.trans K5b) (XT6.out.low (show w.heap.size≤wb.heap.size by omega) (fun g hg=>by have:=(XMV.out.blk g hg).1;omega));have s6:=XT6.out.size;clear hMb hRb u0 u2 hQb;have HG:=Lib.hid (grown_row3 wd (w.heap.size+1) #[.slice uW dss.length eW,.slice uP b.plc.length eP,.slice uL b.lst.length eL,.slice uN b.nts.length eN,.slice uX b.nxt.length eX,.slice uS b.sn.length eS,.slice uF b.fr.length eF,.slice uR b.rws.length eR]);have HZ:=Lib.hid (setRow_heap wd (w.heap.size+1) _ #[.slice uW dss.length eW,.slice uP b.plc.length eP,.slice uL b.lst.length eL,.slice uN b.nts.length eN,.slice uX b.nxt.length eX,.slice uS b.sn.length eS,.slice uF b.fr.length eF,.slice uR b.rws.length eR] _ _ hR6);have HF:=Lib.hid (((FR6.out).above (w':=wd.setRow (w.heap.size+1) #[.slice uW dss.length eW,.slice uP b.plc.length eP,.slice uL b.lst.length eL,.slice uN b.nts.length eN,.slice uX b.nxt.length eX,.slice uS b.sn.length eS,.slice uF b.fr.length eF,.slice uR b.rws.length eR]) (fun q h1 h2=>HG.out.block q h2 (fun e=>by have:=Option.some.inj e;omega)) HG.out.size).wide (show w.heap.size≤_ by omega) HG.out.size);have HKK:=Lib.hid ((K6).grown HG.out (fun q hq=>by have:=Option.some.inj hq;omega));go_wp2_with (first|refine wpList_load_row rfl 29 _ rfl w3.heap.size rfl 29 _ (0,0) _ hM6 Try.underlying29 rfl board_info ?_|refine wpList_store_row rfl 29 _ _ rfl (w.heap.size+1) _ rfl rfl 29 _ hR6 board_info rfl (by simp[Value.oneCell']) ?_|fail)
      refine bodyPost_ret (results_row_tmp (by rfl) _ _ (w.heap.size+1) _ _ (0,0) _ (.bool true) rfl HZ.out rfl Try.underlying29 rfl board_info) rfl ?_;exact⟨⟨.slice uW dss.length eW,.slice uP b.plc.length eP,.slice uL b.lst.length eL,.slice uN b.nts.length eN,.slice uX b.nxt.length eX,.slice uS b.sn.length eS,.slice uF b.fr.length eF,.slice uR b.rws.length eR⟩,by rw[HT.out],by rw[HD.out,HB.out];exact HF.out,HKK.out⟩
    ·
     have hI:inB s 10 (10+(dss.length:Int)-1)=false:=by
      unfold inB;rw[decide_eq_false];rintro⟨h1,h2⟩;exact hin ⟨(s-10).toNat,by omega,by omega⟩
     rw[hI];have HN:Hid (∀cc:Nat,cc<dss.length→(s0=10+(cc:Int))→decide (0<(b.nts.getD cc []).length)=false):=Lib.hid (fun d hd e=>(hin ⟨d,hd,HS0.out.symm.trans e⟩).elim);clear hI hin;go_wp2;go_roundw;case rel=>exact⟨2,by omega,rfl,K5a,fun _=>hn0 (by omega),fun _=>HN.out⟩
     case measure=>simp[intOf]
  ·
   obtain rfl:k=2:=by omega
   have hno:=poss_noI (hn0 (by omega)) (hn1 (by omega));rw[HS0.out] at hno;have HT:Hid (stpT dss b s=false):=Lib.hid (by unfold stpT;rw[hno];simp);have HB:Hid (stpB dss b s=b):=Lib.hid (by unfold stpB stepB;rw[if_pos hb,hno];rfl);have HD:Hid (stpD dss b=dss):=Lib.hid (by unfold stpD;rw[if_pos hb]);have hMr:=(Below.block kr w3.heap.size (by omega)).trans XM5.out;have hRr:=(Below.block kr (w.heap.size+1) (by omega)).trans XR5.out;have FRr:=Lib.hid (((XMV.out.keep (K35.out.trans kr)).all (XLW.out.keep (K35.out.trans kr)) hbsm).free);have Kr:=K05.out.trans kr;clear hno hn0 hn1 hBr hTr hlt hk;have HG:=Lib.hid (grown_row3 wr (w.heap.size+1) #[.slice uW dss.length eW,.slice uP b.plc.length eP,.slice uL b.lst.length eL,.slice uN b.nts.length eN,.slice uX b.nxt.length eX,.slice uS b.sn.length eS,.slice uF b.fr.length eF,.slice uR b.rws.length eR]);have HZ:=Lib.hid (setRow_heap wr (w.heap.size+1) _ #[.slice uW dss.length eW,.slice uP b.plc.length eP,.slice uL b.lst.length eL,.slice uN b.nts.length eN,.slice uX b.nxt.length eX,.slice uS b.sn.length eS,.slice uF b.fr.length eF,.slice uR b.rws.length eR] _ _ hRr);have HF:=Lib.hid (((FRr.out).above (w':=wr.setRow (w.heap.size+1) #[.slice uW dss.length eW,.slice uP b.plc.length eP,.slice uL b.lst.length eL,.slice uN b.nts.length eN,.slice uX b.nxt.length eX,.slice uS b.sn.length eS,.slice uF b.fr.length eF,.slice uR b.rws.length eR]) (fun q h1 h2=>HG.out.block q h2 (fun e=>by have:=Option.some.inj e;omega)) HG.out.size).wide (show w.heap.size≤_ by omega) HG.out.size);have HKK:=Lib.hid ((Kr).grown HG.out (fun q hq=>by have:=Option.some.inj hq;omega));go_wp2_with (first|refine wpList_load_row rfl 29 _ rfl w3.heap.size rfl 29 _ (0,0) _ hMr Try.underlying29 rfl board_info ?_|refine wpList_store_row rfl 29 _ _ rfl (w.heap.size+1) _ rfl rfl 29 _ hRr board_info rfl (by simp[Value.oneCell']) ?_|fail)
   refine bodyPost_ret (results_row_tmp (by rfl) _ _ (w.heap.size+1) _ _ (0,0) _ (.bool false) rfl HZ.out rfl Try.underlying29 rfl board_info) rfl ?_;exact⟨⟨.slice uW dss.length eW,.slice uP b.plc.length eP,.slice uL b.lst.length eL,.slice uN b.nts.length eN,.slice uX b.nxt.length eX,.slice uS b.sn.length eS,.slice uF b.fr.length eF,.slice uR b.rws.length eR⟩,by rw[HT.out],by rw[HD.out,HB.out];exact HF.out,HKK.out⟩
theorem implQuick_low (w:World)(v:BV)(dss:List (List Dd))(b:Bd)(c:Int)(h:RdBd w v dss b)(hz:SzBd dss b)(hlo:(∀c,(b.nts.getD c []).length≤7)∧∀p,(b.rws.getD p []).length≤15):
  Calls Try.prog 8 #[v.agg,.int .i64 c] w fun e w'=>∃bv':BV,e = .returned (.tuple #[bv'.agg,.bool (boardB dss b&&qkT dss b c)])∧FreeBd w' w.heap.size w'.heap.size bv' (qkD dss b) (qkB dss b c)∧Keep w w':=by
 have XRB:=Lib.hid h;have XSZ:=Lib.hid hz;have XLO:=Lib.hid hlo;have hx:=hz.w1;obtain⟨aW,aP,aL,aN,aX,aS,aF,aR,cW,cP,cL,cN,cX,cS,cF,cR,rfl⟩:=h.shapes;clear h hz hlo;obtain⟨w1,hw1⟩:∃W:World,W=(w.alloc (.cells #[.slice aW dss.length cW,.slice aP b.plc.length cP,.slice aL b.lst.length cL,.slice aN b.nts.length cN,.slice aX b.nxt.length cX,.slice aS b.sn.length cS,.slice aF b.fr.length cF,.slice aR b.rws.length cR] 29)).alloc (.cells #[nilS,nilS,nilS,nilS,nilS,nilS,nilS,nilS] 29):=⟨_,rfl⟩;have K1:Keep w w1:=by rw[hw1];exact ((Keep.refl w).alloc _).alloc _
 have s1:w.heap.size+1<w1.heap.size:=by rw[hw1,heap_size,heap_size];omega
 have hB1:w1.heap[w.heap.size]? = some (.cells #[.slice aW dss.length cW,.slice aP b.plc.length cP,.slice aL b.lst.length cL,.slice aN b.nts.length cN,.slice aX b.nxt.length cX,.slice aS b.sn.length cS,.slice aF b.fr.length cF,.slice aR b.rws.length cR] 29 (0,0)):=by rw[hw1];exact box_heap ((Keep.refl _).alloc _)
 have hR1:w1.heap[w.heap.size+1]? = some (.cells #[nilS,nilS,nilS,nilS,nilS,nilS,nilS,nilS] 29 (0,0)):=by rw[hw1,←heap_size w (.cells #[.slice aW dss.length cW,.slice aP b.plc.length cP,.slice aL b.lst.length cL,.slice aN b.nts.length cN,.slice aX b.nxt.length cX,.slice aS b.sn.length cS,.slice aF b.fr.length cF,.slice aR b.rws.length cR] 29)];exact heap_alloc_new _ _
 have z0:w1.cell? ⟨w.heap.size,0,none⟩=some (.slice aW dss.length cW):=by rw[cell_of_row w1 _ 0 _ _ _ hB1];rfl
 have hw2:IntKind.i64.wrap ((dss.length:Int)-1)=(dss.length:Int)-1:=by rw[IntKind.wrap_i64];omega
 go_enter Try.func8,Try.ntmps8
 go_upto_region 1 with fail
 rw[←hw1];clear hw1;go_wp2_with fail
 refine (isFrom_any _ _ _ _).mono ?_;rintro e wa ⟨rfl,hwa⟩;rw[hwa];clear hwa;by_cases hin:∃cc:Nat,cc<dss.length∧c=(cc:Int)
 ·
  obtain⟨cc,hcc,rfl⟩:=hin;have hI:inB (cc:Int) 0 ((dss.length:Int)-1)=true:=by unfold inB;simp;omega
  rw[hI];clear hI z0;go_upto_region 3 with fail
  go_cut [6,7] from 8 (fun s6 s7 wx=>∃(yW yP yL yN yX yS yF yR:Option Addr) (ycW ycP ycL ycN ycX ycS ycF ycR Mb:Nat) (D1:List (List Dd)) (B1:Bd),s6 = .pointer (some ⟨Mb,0,none⟩)∧s7 = .bool (stpT dss b ((cc:Int)))∧D1=stpD dss b∧B1=stpB dss b ((cc:Int))∧Keep w wx∧w1.heap.size≤Mb∧Mb<wx.heap.size∧wx.heap[Mb]? = some (.cells #[.slice yW D1.length ycW,.slice yP B1.plc.length ycP,.slice yL B1.lst.length ycL,.slice yN B1.nts.length ycN,.slice yX B1.nxt.length ycX,.slice yS B1.sn.length ycS,.slice yF B1.fr.length ycF,.slice yR B1.rws.length ycR] 29 (0,0))∧wx.heap[w.heap.size+1]? = some (.cells #[nilS,nilS,nilS,nilS,nilS,nilS,nilS,nilS] 29 (0,0))∧FreeBd wx w1.heap.size Mb ⟨.slice yW D1.length ycW,.slice yP B1.plc.length ycP,.slice yL B1.lst.length ycL,.slice yN B1.nts.length ycN,.slice yX B1.nxt.length ycX,.slice yS B1.sn.length ycS,.slice yF B1.fr.length ycF,.slice yR B1.rws.length ycR⟩ D1 B1)
  case first=>
   have CS:=implStepped_any w1 _ dss b ((cc:Int)) (XRB.out.keep K1) XSZ.out;go_wp2_with (first|refine wpList_load_row rfl 29 _ rfl w.heap.size rfl 29 _ (0,0) _ hB1 Try.underlying29 rfl board_info ?_|fail)
   refine CS.mono ?_;rintro e w2 ⟨bv,rfl,F2,k2⟩;obtain⟨yW,yP,yL,yN,yX,yS,yF,yR,ycW,ycP,ycL,ycN,ycX,ycS,ycF,ycR,rfl⟩:=F2.rd.shapes;obtain⟨w3,hw3⟩:∃W:World,W=w2.alloc (.cells #[.slice yW (stpD dss b).length ycW,.slice yP (stpB dss b ((cc:Int))).plc.length ycP,.slice yL (stpB dss b ((cc:Int))).lst.length ycL,.slice yN (stpB dss b ((cc:Int))).nts.length ycN,.slice yX (stpB dss b ((cc:Int))).nxt.length ycX,.slice yS (stpB dss b ((cc:Int))).sn.length ycS,.slice yF (stpB dss b ((cc:Int))).fr.length ycF,.slice yR (stpB dss b ((cc:Int))).rws.length ycR] 29):=⟨_,rfl⟩;have k3:Keep w2 w3:=by rw[hw3];exact (Keep.refl w2).alloc _
   have hM3:w3.heap[w2.heap.size]? = some (.cells #[.slice yW (stpD dss b).length ycW,.slice yP (stpB dss b ((cc:Int))).plc.length ycP,.slice yL (stpB dss b ((cc:Int))).lst.length ycL,.slice yN (stpB dss b ((cc:Int))).nts.length ycN,.slice yX (stpB dss b ((cc:Int))).nxt.length ycX,.slice yS (stpB dss b ((cc:Int))).sn.length ycS,.slice yF (stpB dss b ((cc:Int))).fr.length ycF,.slice yR (stpB dss b ((cc:Int))).rws.length ycR] 29 (0,0)):=by rw[hw3];exact heap_alloc_new _ _
   have s2:=k2.size;have s3:w2.heap.size<w3.heap.size:=by rw[hw3,heap_size];omega
   have XK:=Lib.hid ((K1.trans k2).trans k3);have XR:=Lib.hid ((Below.block (k2.trans k3) (w.heap.size+1) (by omega)).trans hR1);have XF:=Lib.hid (F2.keep k3);have XM:=Lib.hid hM3;clear F2 CS k2 hM3;go_wp2;rw[←hw3];clear hw3;go_meet;case rel=>exact⟨_,_,_,_,_,_,_,_,_,_,_,_,_,_,_,_,_,_,_,rfl,rfl,rfl,rfl,XK.out,s2,s3,XM.out,XR.out,XF.out⟩
  case rest=>
   obtain⟨yW,yP,yL,yN,yX,yS,yF,yR,ycW,ycP,ycL,ycN,ycX,ycS,ycF,ycR,Mb,D1,B1,rfl,rfl,hD1,hB1',K3,s2,s3,hM3,hR3,XF3'⟩:=hcut;have XF3:=Lib.hid XF3';have XD1:=Lib.hid hD1;have XB1:=Lib.hid hB1';clear XF3' hD1 hB1' hB1 hR1 K1
   cases hT:stpT dss b (cc:Int) with
   |false=>
    have hqt:(boardB dss b&&qkT dss b (cc:Int))=false:=by
     unfold stpT at hT
     cases hb:boardB dss b with
     |false=>rfl
     |true=>
      rw[hb] at hT;have d3:dss.length≤3:=(workB_useR (Shp.of hb).work).1
      cases hcan:canM dss b cc with
      |true=>rw[poss_canI d3 hcan hcc] at hT;simp at hT
      |false=>unfold qkT;simp[hcan]
    have HT:Hid ((boardB dss b&&qkT dss b (cc:Int))=false):=Lib.hid hqt;have HD:Hid (qkD dss b=D1):=Lib.hid (by rw[XD1.out];rfl)
    have HB:Hid (qkB dss b (cc:Int)=B1):=Lib.hid (by
     rw[XB1.out];unfold qkB stpB
     cases hb:boardB dss b with
     |false=>rfl
     |true=>
      rw[if_pos rfl,if_pos rfl];rw[hb] at hqt;unfold stpT at hT;rw[hb] at hT;have q1:qkT dss b (cc:Int)=false:=by simpa using hqt
      have q2:isB (possM dss b) (cc:Int)=false:=by simpa using hT
      unfold qkM stepB;rw[q1,q2]
      simp only[Bool.false_eq_true,if_false])
    clear hqt hT;have HG:=Lib.hid (grown_row3 wc (w.heap.size+1) #[.slice yW D1.length ycW,.slice yP B1.plc.length ycP,.slice yL B1.lst.length ycL,.slice yN B1.nts.length ycN,.slice yX B1.nxt.length ycX,.slice yS B1.sn.length ycS,.slice yF B1.fr.length ycF,.slice yR B1.rws.length ycR]);have HZ:=Lib.hid (setRow_heap wc (w.heap.size+1) _ #[.slice yW D1.length ycW,.slice yP B1.plc.length ycP,.slice yL B1.lst.length ycL,.slice yN B1.nts.length ycN,.slice yX B1.nxt.length ycX,.slice yS B1.sn.length ycS,.slice yF B1.fr.length ycF,.slice yR B1.rws.length ycR] _ _ hR3);have HF:=Lib.hid (((XF3.out).above (w':=wc.setRow (w.heap.size+1) #[.slice yW D1.length ycW,.slice yP B1.plc.length ycP,.slice yL B1.lst.length ycL,.slice yN B1.nts.length ycN,.slice yX B1.nxt.length ycX,.slice yS B1.sn.length ycS,.slice yF B1.fr.length ycF,.slice yR B1.rws.length ycR]) (fun q h1 h2=>HG.out.block q h2 (fun e=>by have:=Option.some.inj e;omega)) HG.out.size).wide (show w.heap.size≤_ by omega) (Nat.le_trans (by omega) HG.out.size));have HKK:=Lib.hid ((K3).grown HG.out (fun q hq=>by have:=Option.some.inj hq;omega));go_wp2_with (first|refine wpList_load_row rfl 29 _ rfl Mb rfl 29 _ (0,0) _ hM3 Try.underlying29 rfl board_info ?_|refine wpList_store_row rfl 29 _ _ rfl (w.heap.size+1) _ rfl rfl 29 _ hR3 board_info rfl (by simp[Value.oneCell']) ?_|fail)
    refine bodyPost_ret (results_row_tmp (by rfl) _ _ (w.heap.size+1) _ _ (0,0) _ (.bool false) rfl HZ.out rfl Try.underlying29 rfl board_info) rfl ?_;exact⟨⟨.slice yW D1.length ycW,.slice yP B1.plc.length ycP,.slice yL B1.lst.length ycL,.slice yN B1.nts.length ycN,.slice yX B1.nxt.length ycX,.slice yS B1.sn.length ycS,.slice yF B1.fr.length ycF,.slice yR B1.rws.length ycR⟩,by rw[HT.out],by rw[HD.out,HB.out];exact HF.out,HKK.out⟩
   |true=>
    have hb:boardB dss b=true:=by unfold stpT at hT;simp at hT;exact hT.1
    have d3:dss.length≤3:=(workB_useR (Shp.of hb).work).1
    have hcan:canM dss b cc=true:=by
     cases hcan:canM dss b cc with
     |true=>rfl
     |false=>
      unfold stpT at hT
      rw[poss_noI (fun d hd e=>by
       obtain rfl:d=cc:=by omega
       exact hcan) (fun d hd e=>by omega)] at hT
      simp at hT
    have hpo:=poss_canI d3 hcan hcc;have eD1:dss=D1:=by rw[XD1.out];unfold stpD;rw[if_pos hb]
    subst eD1;have eB1:B1=stepM dss (eventsB dss) b (cc:Int):=by rw[XB1.out];unfold stpB stepB;rw[if_pos hb,if_pos hpo]
    have hb1:boardB dss B1=true:=by rw[eB1];exact step_board hb XLO.out.1 XLO.out.2 hcc hcan
    have HT:Hid ((boardB dss b&&qkT dss b (cc:Int))=true):=Lib.hid (by unfold qkT;simp[hb,hcan];omega);have HD:Hid (qkD dss b=dss):=Lib.hid (by unfold qkD;rw[if_pos hb])
    have HQ:Hid (qkB dss b (cc:Int)=if (B1.nts.getD cc []).isEmpty=true then B1 else stepM dss (eventsB dss) B1 (10+(cc:Int))):=Lib.hid (by
     unfold qkB qkM;rw[if_pos hb,if_pos (by unfold qkT;simp[hcan];omega)];unfold quickM;rw[eB1]
     simp only[Int.toNat_natCast])
    have XF4:=XF3.out;have lnt:cc<B1.nts.length:=by rw[(Shp.of hb1).nts];exact hcc
    have rd4:RdBd wc ⟨.slice yW dss.length ycW,.slice yP B1.plc.length ycP,.slice yL B1.lst.length ycL,.slice yN B1.nts.length ycN,.slice yX B1.nxt.length ycX,.slice yS B1.sn.length ycS,.slice yF B1.fr.length ycF,.slice yR B1.rws.length ycR⟩ dss B1:=XF4.rd;have CH:=hasNotes_any wc _ dss B1 cc rd4 lnt;have XF5:=Lib.hid XF4;have XRD:=Lib.hid rd4;have HB1:=Lib.hid hb1;clear hpo eB1 hb1 hT XF4 rd4 XF3;have z0:wc.cell? ⟨Mb,0,none⟩=some (.slice yW dss.length ycW):=by rw[cell_of_row wc _ 0 _ _ _ hM3];rfl
    have z1:wc.cell? ⟨Mb,1,none⟩=some (.slice yP B1.plc.length ycP):=by rw[cell_of_row wc _ 1 _ _ _ hM3];rfl
    have z2:wc.cell? ⟨Mb,2,none⟩=some (.slice yL B1.lst.length ycL):=by rw[cell_of_row wc _ 2 _ _ _ hM3];rfl
    have z3:wc.cell? ⟨Mb,3,none⟩=some (.slice yN B1.nts.length ycN):=by rw[cell_of_row wc _ 3 _ _ _ hM3];rfl
    have z4:wc.cell? ⟨Mb,4,none⟩=some (.slice yX B1.nxt.length ycX):=by rw[cell_of_row wc _ 4 _ _ _ hM3];rfl
    have z5:wc.cell? ⟨Mb,5,none⟩=some (.slice yS B1.sn.length ycS):=by rw[cell_of_row wc _ 5 _ _ _ hM3];rfl
    have z6:wc.cell? ⟨Mb,6,none⟩=some (.slice yF B1.fr.length ycF):=by rw[cell_of_row wc _ 6 _ _ _ hM3];rfl
    have z7:wc.cell? ⟨Mb,7,none⟩=some (.slice yR B1.rws.length ycR):=by rw[cell_of_row wc _ 7 _ _ _ hM3];rfl
    go_wp2_with fail
    refine CH.mono ?_;rintro e w4 ⟨rfl,k4⟩;have s4:=k4.size;have hM4:=(Below.block k4 Mb s3).trans hM3;have hR4:=(Below.block k4 (w.heap.size+1) (by omega)).trans hR3;have K4:=K3.trans k4;clear z0 z1 z2 z3 z4 z5 z6 z7 CH hM3 hR3
    cases hN:decide (0<(B1.nts.getD cc []).length) with
    |false=>
     have HB:Hid (qkB dss b (cc:Int)=B1):=Lib.hid (by
      rw[HQ.out,if_pos]
      cases e:B1.nts.getD cc [] with
      |nil=>rfl
      |cons x r=>rw[e] at hN;simp at hN)
     have HD:Hid (qkD dss b=dss):=HD;have FX:=XF5.out.keep k4;clear hN;have HG:=Lib.hid (grown_row3 w4 (w.heap.size+1) #[.slice yW dss.length ycW,.slice yP B1.plc.length ycP,.slice yL B1.lst.length ycL,.slice yN B1.nts.length ycN,.slice yX B1.nxt.length ycX,.slice yS B1.sn.length ycS,.slice yF B1.fr.length ycF,.slice yR B1.rws.length ycR]);have HZ:=Lib.hid (setRow_heap w4 (w.heap.size+1) _ #[.slice yW dss.length ycW,.slice yP B1.plc.length ycP,.slice yL B1.lst.length ycL,.slice yN B1.nts.length ycN,.slice yX B1.nxt.length ycX,.slice yS B1.sn.length ycS,.slice yF B1.fr.length ycF,.slice yR B1.rws.length ycR] _ _ hR4);have HF:=Lib.hid (((FX).above (w':=w4.setRow (w.heap.size+1) #[.slice yW dss.length ycW,.slice yP B1.plc.length ycP,.slice yL B1.lst.length ycL,.slice yN B1.nts.length ycN,.slice yX B1.nxt.length ycX,.slice yS B1.sn.length ycS,.slice yF B1.fr.length ycF,.slice yR B1.rws.length ycR]) (fun q h1 h2=>HG.out.block q h2 (fun e=>by have:=Option.some.inj e;omega)) HG.out.size).wide (show w.heap.size≤_ by omega) (Nat.le_trans (by omega) HG.out.size));have HKK:=Lib.hid ((K4).grown HG.out (fun q hq=>by have:=Option.some.inj hq;omega));go_wp2_with (first|refine wpList_load_row rfl 29 _ rfl Mb rfl 29 _ (0,0) _ hM4 Try.underlying29 rfl board_info ?_|refine wpList_store_row rfl 29 _ _ rfl (w.heap.size+1) _ rfl rfl 29 _ hR4 board_info rfl (by simp[Value.oneCell']) ?_|fail)
     refine bodyPost_ret (results_row_tmp (by rfl) _ _ (w.heap.size+1) _ _ (0,0) _ (.bool true) rfl HZ.out rfl Try.underlying29 rfl board_info) rfl ?_;exact⟨⟨.slice yW dss.length ycW,.slice yP B1.plc.length ycP,.slice yL B1.lst.length ycL,.slice yN B1.nts.length ycN,.slice yX B1.nxt.length ycX,.slice yS B1.sn.length ycS,.slice yF B1.fr.length ycF,.slice yR B1.rws.length ycR⟩,by rw[HT.out],by rw[HD.out,HB.out];exact HF.out,HKK.out⟩
    |true=>
     have hw10:IntKind.i64.wrap (10+(cc:Int))=10+(cc:Int):=by rw[IntKind.wrap_i64];omega
     have HB:Hid (qkB dss b (cc:Int)=stpB dss B1 (10+(cc:Int))):=Lib.hid (by
      rw[HQ.out,if_neg]
      ·
       unfold stpB stepB;rw[if_pos HB1.out,poss_noteI hN hcc,if_pos rfl]
      ·
       intro q
       cases e:B1.nts.getD cc [] with
       |nil=>rw[e] at hN;simp at hN
       |cons x r=>rw[e] at q;simp at q)
     have HE:Hid (stpD dss B1=dss):=Lib.hid (by unfold stpD;rw[if_pos HB1.out]);have CS:=implStepped_any w4 _ dss B1 (10+(cc:Int)) (XRD.out.keep k4) ((Shp.of HB1.out).sz (by omega));clear hN;go_wp2_with (first|refine wpList_load_row rfl 29 _ rfl Mb rfl 29 _ (0,0) _ hM4 Try.underlying29 rfl board_info ?_|fail)
     refine CS.mono ?_;rintro e w5 ⟨bv5,rfl,F5,k5⟩;rw[HE.out] at F5;obtain⟨B2,hB2⟩:∃B2,B2=stpB dss B1 (10+(cc:Int)):=⟨_,rfl⟩;rw[←hB2] at F5;replace HB:Hid (qkB dss b (cc:Int)=B2):=Lib.hid (by rw[HB.out,hB2]);obtain⟨zW,zP,zL,zN,zX,zS,zF,zR,zcW,zcP,zcL,zcN,zcX,zcS,zcF,zcR,rfl⟩:=F5.rd.shapes;have s5:=k5.size;have hR5:=(Below.block k5 (w.heap.size+1) (by omega)).trans hR4;have hM5:=(Below.block k5 Mb (by omega)).trans hM4;have G6:=grown_row3 w5 Mb #[.slice zW dss.length zcW,.slice zP B2.plc.length zcP,.slice zL B2.lst.length zcL,.slice zN B2.nts.length zcN,.slice zX B2.nxt.length zcX,.slice zS B2.sn.length zcS,.slice zF B2.fr.length zcF,.slice zR B2.rws.length zcR];have hM6:=setRow_heap w5 Mb _ #[.slice zW dss.length zcW,.slice zP B2.plc.length zcP,.slice zL B2.lst.length zcL,.slice zN B2.nts.length zcN,.slice zX B2.nxt.length zcX,.slice zS B2.sn.length zcS,.slice zF B2.fr.length zcF,.slice zR B2.rws.length zcR] _ _ hM5;have F6:=F5.above (w':=w5.setRow Mb #[.slice zW dss.length zcW,.slice zP B2.plc.length zcP,.slice zL B2.lst.length zcL,.slice zN B2.nts.length zcN,.slice zX B2.nxt.length zcX,.slice zS B2.sn.length zcS,.slice zF B2.fr.length zcF,.slice zR B2.rws.length zcR]) (fun q h1 h2=>G6.block q h2 (fun e=>by have:=Option.some.inj e;omega)) G6.size;have K6:=(K4.trans k5).grown G6 (fun q hq=>by have:=Option.some.inj hq;omega);have hR6:=(G6.block (w.heap.size+1) (by omega) (fun e=>by have:=Option.some.inj e;omega)).trans hR5;have s6:=G6.size;obtain⟨w6,hw6⟩:∃W:World,W=w5.setRow Mb #[.slice zW dss.length zcW,.slice zP B2.plc.length zcP,.slice zL B2.lst.length zcL,.slice zN B2.nts.length zcN,.slice zX B2.nxt.length zcX,.slice zS B2.sn.length zcS,.slice zF B2.fr.length zcF,.slice zR B2.rws.length zcR]:=⟨_,rfl⟩;rw[←hw6] at hM6 F6 K6 hR6 s6;clear F5 hB2 CS G6 hM4 hR4 hR5;go_upto_region 6 with (first|refine wpList_store_row rfl 29 _ _ rfl Mb _ rfl rfl 29 _ hM5 board_info rfl (by simp[Value.oneCell']) ?_|fail)
     rw[←hw6];clear hw6 hM5;have HG:=Lib.hid (grown_row3 w6 (w.heap.size+1) #[.slice zW dss.length zcW,.slice zP B2.plc.length zcP,.slice zL B2.lst.length zcL,.slice zN B2.nts.length zcN,.slice zX B2.nxt.length zcX,.slice zS B2.sn.length zcS,.slice zF B2.fr.length zcF,.slice zR B2.rws.length zcR]);have HZ:=Lib.hid (setRow_heap w6 (w.heap.size+1) _ #[.slice zW dss.length zcW,.slice zP B2.plc.length zcP,.slice zL B2.lst.length zcL,.slice zN B2.nts.length zcN,.slice zX B2.nxt.length zcX,.slice zS B2.sn.length zcS,.slice zF B2.fr.length zcF,.slice zR B2.rws.length zcR] _ _ hR6);have HF:=Lib.hid (((F6).above (w':=w6.setRow (w.heap.size+1) #[.slice zW dss.length zcW,.slice zP B2.plc.length zcP,.slice zL B2.lst.length zcL,.slice zN B2.nts.length zcN,.slice zX B2.nxt.length zcX,.slice zS B2.sn.length zcS,.slice zF B2.fr.length zcF,.slice zR B2.rws.length zcR]) (fun q h1 h2=>HG.out.block q h2 (fun e=>by have:=Option.some.inj e;omega)) HG.out.size).wide (show w.heap.size≤_ by omega) (Nat.le_trans (by omega) HG.out.size));have HKK:=Lib.hid ((K6).grown HG.out (fun q hq=>by have:=Option.some.inj hq;omega));go_wp2_with (first|refine wpList_load_row rfl 29 _ rfl Mb rfl 29 _ (0,0) _ hM6 Try.underlying29 rfl board_info ?_|refine wpList_store_row rfl 29 _ _ rfl (w.heap.size+1) _ rfl rfl 29 _ hR6 board_info rfl (by simp[Value.oneCell']) ?_|fail)
     refine bodyPost_ret (results_row_tmp (by rfl) _ _ (w.heap.size+1) _ _ (0,0) _ (.bool true) rfl HZ.out rfl Try.underlying29 rfl board_info) rfl ?_;exact⟨⟨.slice zW dss.length zcW,.slice zP B2.plc.length zcP,.slice zL B2.lst.length zcL,.slice zN B2.nts.length zcN,.slice zX B2.nxt.length zcX,.slice zS B2.sn.length zcS,.slice zF B2.fr.length zcF,.slice zR B2.rws.length zcR⟩,by rw[HT.out],by rw[HD.out,HB.out];exact HF.out,HKK.out⟩
 ·
  have hI:inB c 0 ((dss.length:Int)-1)=false:=by
   unfold inB;rw[decide_eq_false];rintro⟨h1,h2⟩;exact hin ⟨c.toNat,by omega,by omega⟩
  rw[hI];clear hI z0
  have hq0:qkT dss b c=false:=by
   unfold qkT;by_cases h1:0≤c
   · rw[decide_eq_false (show ¬c<(dss.length:Int) from fun h2=>hin ⟨c.toNat,by omega,by omega⟩)];simp
   · rw[decide_eq_false h1];rfl
  have hno:isB (possM dss b) (-1)=false:=poss_noI (fun d hd e=>by omega) (fun d hd e=>by omega);go_upto_region 3 with fail
  go_cut [6,7] from 8 (fun s6 s7 wx=>∃(yW yP yL yN yX yS yF yR:Option Addr) (ycW ycP ycL ycN ycX ycS ycF ycR Mb:Nat) (D1:List (List Dd)) (B1:Bd),s6 = .pointer (some ⟨Mb,0,none⟩)∧s7 = .bool (stpT dss b (-1))∧D1=stpD dss b∧B1=stpB dss b (-1)∧Keep w wx∧w1.heap.size≤Mb∧Mb<wx.heap.size∧wx.heap[Mb]? = some (.cells #[.slice yW D1.length ycW,.slice yP B1.plc.length ycP,.slice yL B1.lst.length ycL,.slice yN B1.nts.length ycN,.slice yX B1.nxt.length ycX,.slice yS B1.sn.length ycS,.slice yF B1.fr.length ycF,.slice yR B1.rws.length ycR] 29 (0,0))∧wx.heap[w.heap.size+1]? = some (.cells #[nilS,nilS,nilS,nilS,nilS,nilS,nilS,nilS] 29 (0,0))∧FreeBd wx w1.heap.size Mb ⟨.slice yW D1.length ycW,.slice yP B1.plc.length ycP,.slice yL B1.lst.length ycL,.slice yN B1.nts.length ycN,.slice yX B1.nxt.length ycX,.slice yS B1.sn.length ycS,.slice yF B1.fr.length ycF,.slice yR B1.rws.length ycR⟩ D1 B1)
  case first=>
   have CS:=implStepped_any w1 _ dss b (-1) (XRB.out.keep K1) XSZ.out;go_wp2_with (first|refine wpList_load_row rfl 29 _ rfl w.heap.size rfl 29 _ (0,0) _ hB1 Try.underlying29 rfl board_info ?_|fail)
   refine CS.mono ?_;rintro e w2 ⟨bv,rfl,F2,k2⟩;obtain⟨yW,yP,yL,yN,yX,yS,yF,yR,ycW,ycP,ycL,ycN,ycX,ycS,ycF,ycR,rfl⟩:=F2.rd.shapes;obtain⟨w3,hw3⟩:∃W:World,W=w2.alloc (.cells #[.slice yW (stpD dss b).length ycW,.slice yP (stpB dss b (-1)).plc.length ycP,.slice yL (stpB dss b (-1)).lst.length ycL,.slice yN (stpB dss b (-1)).nts.length ycN,.slice yX (stpB dss b (-1)).nxt.length ycX,.slice yS (stpB dss b (-1)).sn.length ycS,.slice yF (stpB dss b (-1)).fr.length ycF,.slice yR (stpB dss b (-1)).rws.length ycR] 29):=⟨_,rfl⟩;have k3:Keep w2 w3:=by rw[hw3];exact (Keep.refl w2).alloc _
   have hM3:w3.heap[w2.heap.size]? = some (.cells #[.slice yW (stpD dss b).length ycW,.slice yP (stpB dss b (-1)).plc.length ycP,.slice yL (stpB dss b (-1)).lst.length ycL,.slice yN (stpB dss b (-1)).nts.length ycN,.slice yX (stpB dss b (-1)).nxt.length ycX,.slice yS (stpB dss b (-1)).sn.length ycS,.slice yF (stpB dss b (-1)).fr.length ycF,.slice yR (stpB dss b (-1)).rws.length ycR] 29 (0,0)):=by rw[hw3];exact heap_alloc_new _ _
   have s2:=k2.size;have s3:w2.heap.size<w3.heap.size:=by rw[hw3,heap_size];omega
   have XK:=Lib.hid ((K1.trans k2).trans k3);have XR:=Lib.hid ((Below.block (k2.trans k3) (w.heap.size+1) (by omega)).trans hR1);have XF:=Lib.hid (F2.keep k3);have XM:=Lib.hid hM3;clear F2 CS k2 hM3;go_wp2;rw[←hw3];clear hw3;go_meet;case rel=>exact⟨_,_,_,_,_,_,_,_,_,_,_,_,_,_,_,_,_,_,_,rfl,rfl,rfl,rfl,XK.out,s2,s3,XM.out,XR.out,XF.out⟩
  case rest=>
   obtain⟨yW,yP,yL,yN,yX,yS,yF,yR,ycW,ycP,ycL,ycN,ycX,ycS,ycF,ycR,Mb,D1,B1,rfl,rfl,hD1,hB1',K3,s2,s3,hM3,hR3,XF3'⟩:=hcut;have XF3:=Lib.hid XF3';have XD1:=Lib.hid hD1;have XB1:=Lib.hid hB1';clear XF3' hD1 hB1' hB1 hR1 K1;have HS:Hid (stpT dss b (-1)=false):=Lib.hid (by unfold stpT;rw[hno];simp);rw[HS.out];have HT:Hid ((boardB dss b&&qkT dss b c)=false):=Lib.hid (by rw[hq0];simp);have HD:Hid (qkD dss b=D1):=Lib.hid (by rw[XD1.out];rfl)
   have HB:Hid (qkB dss b c=B1):=Lib.hid (by
    rw[XB1.out];unfold qkB stpB qkM stepB;rw[hq0,hno]
    simp only[Bool.false_eq_true,if_false])
   clear hq0 hno hin;have HG:=Lib.hid (grown_row3 wc (w.heap.size+1) #[.slice yW D1.length ycW,.slice yP B1.plc.length ycP,.slice yL B1.lst.length ycL,.slice yN B1.nts.length ycN,.slice yX B1.nxt.length ycX,.slice yS B1.sn.length ycS,.slice yF B1.fr.length ycF,.slice yR B1.rws.length ycR]);have HZ:=Lib.hid (setRow_heap wc (w.heap.size+1) _ #[.slice yW D1.length ycW,.slice yP B1.plc.length ycP,.slice yL B1.lst.length ycL,.slice yN B1.nts.length ycN,.slice yX B1.nxt.length ycX,.slice yS B1.sn.length ycS,.slice yF B1.fr.length ycF,.slice yR B1.rws.length ycR] _ _ hR3);have HF:=Lib.hid (((XF3.out).above (w':=wc.setRow (w.heap.size+1) #[.slice yW D1.length ycW,.slice yP B1.plc.length ycP,.slice yL B1.lst.length ycL,.slice yN B1.nts.length ycN,.slice yX B1.nxt.length ycX,.slice yS B1.sn.length ycS,.slice yF B1.fr.length ycF,.slice yR B1.rws.length ycR]) (fun q h1 h2=>HG.out.block q h2 (fun e=>by have:=Option.some.inj e;omega)) HG.out.size).wide (show w.heap.size≤_ by omega) (Nat.le_trans (by omega) HG.out.size));have HKK:=Lib.hid ((K3).grown HG.out (fun q hq=>by have:=Option.some.inj hq;omega));go_wp2_with (first|refine wpList_load_row rfl 29 _ rfl Mb rfl 29 _ (0,0) _ hM3 Try.underlying29 rfl board_info ?_|refine wpList_store_row rfl 29 _ _ rfl (w.heap.size+1) _ rfl rfl 29 _ hR3 board_info rfl (by simp[Value.oneCell']) ?_|fail)
   refine bodyPost_ret (results_row_tmp (by rfl) _ _ (w.heap.size+1) _ _ (0,0) _ (.bool false) rfl HZ.out rfl Try.underlying29 rfl board_info) rfl ?_;exact⟨⟨.slice yW D1.length ycW,.slice yP B1.plc.length ycP,.slice yL B1.lst.length ycL,.slice yN B1.nts.length ycN,.slice yX B1.nxt.length ycX,.slice yS B1.sn.length ycS,.slice yF B1.fr.length ycF,.slice yR B1.rws.length ycR⟩,by rw[HT.out],by rw[HD.out,HB.out];exact HF.out,HKK.out⟩
end Go.Proofs.Ytgakfkjjkobpiaa
