/- Gathered texts. -/
import Derived.Test.YtflehmepjhikcaaGreatDoorML
import Derived.Test.YtflehmepjhikcaaGreatDoorMM
import Derived.Test.YtflehmepjhikcaaGreatDoorMN
import Derived.Deep.LoopGhost
import Derived.Deep.Cut
import Derived.Deep.QuietTactic
import Derived.BigQuiet
import Derived.Deep.RegionHeld3
set_option maxRecDepth 100000
set_option maxHeartbeats 8000000
namespace Go.Proofs.YtflehmepjhikcaaGreatDoor
open Go.ChangeShapes Go.WideShapes Go.ChangeAt Go.RowKit
theorem Tryz.pW:(Tryz.prog.info? 103).map (fun i=>(i.zero,i.size,i.bytes))=some (some (.agg #[AF,AF,AF,AF,AF,AF,AF,AF]),8,192):=by kernel_rfl
theorem MG (w:World)(v:Value)(AA:List (List Dd))(quick:Bool)(h:Fw w v AA)(hb:AL AA=true):
  Calls Tryz.prog 32 #[v,.bool quick] w fun e w'=>∃v' l,e = .returned v'/\KF w.heap.size w' v' l/\Hv AA quick l/\l.length<=1099511627776/\AC w w':=by
 have C0:=US (two w) v AA (h.keep (((AC.refl w).alloc _).alloc _)) hb;obtain⟨j0,hj,hy0,hy1,hy2⟩:=KA3 Tryz.pW;clear h;go_enter Tryz.func32,Tryz.ntmps32
 go_wp2_with fail
 refine C0.mono ?_;rintro e w1 ⟨bv,nv,rv,bs,N,rfl,V1,hm1,k1⟩;obtain⟨aW,aP,aL,aN,aX,aS,aF,aR,cW,cP,cL,cN,cX,cS,cF,cR,rfl⟩:=V1.rd0.shapes;have I0:=om k1 V1 hm1;have G0:=qU hb quick;clear C0 V1 hm1 k1;go_wp2_with fail
 go_loopg [5,6,7,8,9,10,11,12] (KE AA [C5 AA]) (fun k s5 s6 s7 _ _ _ _ _ wr=>∃(E Sn:List (List Int)) (O:List Bd) (ve vs vo:Value) (he hs:List Value) (ho:List BV) (P:Nat->Prop),ve=s5/\vs=s6/\vo=s7/\KE AA O=k/\EI w wr P AA E Sn O ve vs vo he hs ho/\SG AA quick E Sn O)
 case atStart=>
  exact⟨[],[],[C5 AA],_,_,_,_,_,_,_,by rfl,by rfl,by rfl,rfl,I0,G0⟩
 case round=>
  obtain⟨E,Sn,O,ve,vs,vo,he,hs,ho,P,rfl,rfl,rfl,hk,I1,G1⟩:=hrel;clear I0 G0;rcases O.eq_nil_or_concat with rfl|⟨l,b,rfl⟩
  ·
   obtain⟨a0,c0,rfl⟩:=I1.o.shape;have HE:=AI (TN hb G1.si rfl);have HL:=AI (G1.lens hb).1;have RE:=I1.e.yV;have RH:=AI (I1.e.uq I1.low);have KK:=I1.K;obtain⟨ae,ce,rfl,-⟩:=id RE;clear G1 I1;go_wp2;go_ret;exact⟨_,rfl,E,RH.out,HE.out,HL.out,KK⟩
  ·
   rw[List.concat_eq_append] at hk I1 G1;obtain⟨g,cap,bz,rfl,hcap,H1,I2,hg,hcells⟩:=I1.pop;have hO:=(G1.lens hb).2.2;rw[KAJ,KA5] at hO;have HR:=N1 hb G1.reach;have HRR:=AI G1.reach;have HG:=AI G1;have HK:=AI hk;obtain⟨bW,bP,bL,bN,bX,bS,bF,bR,dW,dP,dL,dN,dX,dS,dF,dR,rfl⟩:=H1.rd.shapes;have x0:=hcells 0 (by omega);have x1:=hcells 1 (by omega);have x2:=hcells 2 (by omega);have x3:=hcells 3 (by omega);have x4:=hcells 4 (by omega);have x5:=hcells 5 (by omega);have x6:=hcells 6 (by omega);have x7:=hcells 7 (by omega);simp only[cB,List.getElem?_cons_zero,KC2,Nat.add_zero] at x0 x1 x2 x3 x4 x5 x6 x7;have i1:(0:Int)<=(l.length:Int):=KAK _;have i2:(l.length:Int)<(l.length:Int)+1:=by omega
   have i3:(l.length:Int)<=(cap:Int):=by omega
   clear hcells I1 G1 hk;go_upto_region 6 with fail
   obtain⟨w2,hw2⟩:∃W:World,W=wr.alloc (.cells #[.slice bW AA.length dW,.slice bP b.AM.length dP,.slice bL b.AQ.length dL,.slice bN b.AJ.length dN,.slice bX b.AK.length dX,.slice bS b.sn.length dS,.slice bF b.fr.length dF,.slice bR b.rws.length dR] 103):=⟨_,rfl⟩;have kb:AC wr w2:=by rw[hw2];exact (AC.refl wr).alloc _
   have hD:w2.heap[wr.heap.size]? = some (.cells #[.slice bW AA.length dW,.slice bP b.AM.length dP,.slice bL b.AQ.length dL,.slice bN b.AJ.length dN,.slice bX b.AK.length dX,.slice bS b.sn.length dS,.slice bF b.fr.length dF,.slice bR b.rws.length dR] 103 (0,0)):=by rw[hw2];exact KAX _ _
   have s2:wr.heap.size<w2.heap.size:=by rw[hw2,AD];omega
   rw[<-hw2];clear hw2 x0 x1 x2 x3 x4 x5 x6 x7;have CK:=UV w2 _ AA b (H1.on (BA.B7 kb)).rd HR.x HR.l HR.s HR.n HR.q;have YW:=AI HR;clear HR;go_wp2_with (first|refine KAr rfl 103 _ rfl (wr.heap.size) rfl 103 _ (0,0) _ hD Tryz.underlying103 rfl AR ?_|fail)
   refine CK.mono ?_;rintro e w3 ⟨vk,rfl,OK,k3⟩;have k13:=kb.trans k3;have I4:=I2.wide k13;have pk:∀g,vk.ownBlock=some g->P g\/(wr.heap.size<=g/\g<w3.heap.size):=fun g hg => .inr ⟨KAU (Nat.le_of_lt s2) (OK.ge g hg),(KAY OK g hg).2⟩
   have CP:=Ni w3 _ w.heap.size vs vk hs Sn (Ct b) I4.s (fun g hg=>(I4.low g hg).2) OK.rd pk HG.out.si.os (HG.out.lens hb).2.1 (HG.out.wR hb) I4.K.size;have O4:=AI (show KI w3 (fun g=>P g\/(wr.heap.size<=g/\g<w3.heap.size)) wr.heap.size ⟨.slice bW AA.length dW,.slice bP b.AM.length dP,.slice bL b.AQ.length dL,.slice bN b.AJ.length dN,.slice bX b.AK.length dX,.slice bS b.sn.length dS,.slice bF b.fr.length dF,.slice bR b.rws.length dR⟩ AA b (.slice none 0 0) [] from ⟨(KAW k3 _ s2).trans hD,.inr ⟨KAM _,by have:=k3.size;omega⟩,(H1.on (BA.B7 k13)).mono (fun _ => .inl),⟨none,0,rfl,.inl rfl⟩,by simp[Value.ownBlock]⟩);obtain⟨P4,hP4⟩:∃P4:Nat->Prop,P4=fun g=>P g\/(wr.heap.size<=g/\g<w3.heap.size):=⟨_,rfl⟩
   rw[<-hP4] at I4 CP O4;obtain⟨D,hDe⟩:∃D,D=wr.heap.size:=⟨_,rfl⟩;rw[<-hDe] at O4 ⊢;have k1w:=I2.K;clear CK OK pk k13 hD kb k3 I2 H1 hP4 hDe s2;go_wp2_with fail
   refine CP.mono ?_;rintro e w5 ⟨v',hs',rfl,o5,g5,b5⟩;obtain⟨I5,S5⟩:=I4.jv o5 g5 b5;have O5:=AI (O4.out.on S5);clear CP o5 g5 b5 I4 O4 S5;obtain⟨q,hq⟩:∃q,q=Qn Sn (Ct b):=⟨_,rfl⟩;rw[<-hq];cases q
   ·
    have hs0:=hq.symm;have d5:=O5.out.box;have CE:=Qp w5 _ AA b O5.out.held.rd (by have:=YW.out.d;omega) YW.out.dx YW.out.dn;rw[ST YW.out.ok] at CE;have HS0:=AI hs0;clear hq hs0;go_wp2_with (first|refine KAr rfl 103 _ rfl (D) rfl 103 _ (0,0) _ d5 Tryz.underlying103 rfl AR ?_|fail)
    refine CE.mono ?_;rintro e w6 ⟨rfl,k6⟩;have I6:=I5.keep k6;have O6:=AI (O5.out.on (BA.B7 k6));have d6:=O6.out.box;clear CE I5 O5 d5 k6;obtain⟨q,hq⟩:∃q,q=Dl AA b:=⟨_,rfl⟩;rw[<-hq];cases q
    ·
     have HE0:=AI hq.symm;clear hq;have CO:=MX w6 _ AA b O6.out.held.rd (wI YW.out.ok);go_wp2_with (first|refine KAr rfl 103 _ rfl (D) rfl 103 _ (0,0) _ d6 Tryz.underlying103 rfl AR ?_|fail)
     refine CO.mono ?_;rintro e w7 ⟨vp,rfl,OP,k7⟩;have I7:=I6.wide k7
     have O7:=AI (show KI w7 (fun g=>P4 g\/(w6.heap.size<=g/\g<w7.heap.size)) D ⟨.slice bW AA.length dW,.slice bP b.AM.length dP,.slice bL b.AQ.length dL,.slice bN b.AJ.length dN,.slice bX b.AK.length dX,.slice bS b.sn.length dS,.slice bF b.fr.length dF,.slice bR b.rws.length dR⟩ AA b vp (Aq AA b) from by
      have q:=(O6.out.on (BA.B7 k7)).mono (P':=fun g=>P4 g\/(w6.heap.size<=g/\g<w7.heap.size)) (fun _ => .inl)
      exact⟨q.box,q.pD,q.held,OP.rd,fun g hg => .inr ⟨OP.ge g hg,(KAY OP g hg).2⟩⟩)
     obtain⟨P7,hP7⟩:∃P7:Nat->Prop,P7=fun g=>P4 g\/(w6.heap.size<=g/\g<w7.heap.size):=⟨_,rfl⟩
     rw[<-hP7] at I7 O7;obtain⟨ap,cp,rfl,-⟩:=id O7.out.rp;have hp6:=YA hb b;clear CO OP k7 I6 O6 d6 hP7;obtain⟨wo,rfl⟩:∃wo:World,wo=wr:=⟨_,rfl⟩;go_wp2;go_loopw [7,11,12] (fun s7 s11 _ wq=>∃(i:Nat) (vo:Value) (ho:List BV) (P:Nat->Prop),vo=s7/\i<=(Aq AA b).length/\s11 = .int .i64 (i:Int)/\EI w wq P AA E (Ek Sn (Ct b)) (l++DV AA (AB AA) quick b i) ve v' vo he hs' ho/\KI wq P D ⟨.slice bW AA.length dW,.slice bP b.AM.length dP,.slice bL b.AQ.length dL,.slice bN b.AJ.length dN,.slice bX b.AK.length dX,.slice bS b.sn.length dS,.slice bF b.fr.length dF,.slice bR b.rws.length dR⟩ AA b (.slice ap (Aq AA b).length cp) (Aq AA b)) (fun _ s11 _ _=>(Aq AA b).length-(intOf s11).toNat)
     case atStart=>
      exact⟨0,_,_,P7,rfl,KAb _,rfl,by simpa [DV] using I7,O7.out⟩
     case round=>
      obtain⟨i,vo,ho,Pq,rfl,hi,rfl,Iq,Oq⟩:=hrel;clear I7 O7;by_cases hlt:i<(Aq AA b).length
      ·
       have hmem:(Aq AA b).getD i 0∈Aq AA b:=by rw[IT,KAH hlt];exact KBI hlt
       obtain⟨a',c',e',hp⟩:=id Oq.rp;simp only[KAT,KA8] at e';obtain⟨rfl,rfl⟩:=e';rcases hp with h0|⟨bp,op,rfl,hbp,hcp⟩
       . exfalso;rw[h0] at hlt;simp at hlt
       have d1:=hcp i hlt;clear hcp;obtain⟨x,hx⟩:∃x,x=(Aq AA b).getD i 0:=⟨_,rfl⟩;rw[<-hx] at d1 hmem;have HX:=AI hx;clear hx;have j1:(0:Int)<=(i:Int):=KAK _;have j2:(i:Int)<((Aq AA b).length:Int):=by omega
       cases quick
       ·
        have sH:=AI (show DV AA (AB AA) false b (i+1)=DV AA (AB AA) false b i++[Ar AA (AB AA) b x] from by rw[Ia _ _ _ _ hlt,HX.out];rfl);have HMB:=AI (Kt hmem);clear hmem;have CC:=ME wr _ AA b Oq.held.rd YW.out.ok;have dq:=Oq.box;go_wp2_with (first|refine KAr rfl 103 _ rfl (D) rfl 103 _ (0,0) _ dq Tryz.underlying103 rfl AR ?_|fail)
        refine CC.mono ?_;rintro e w8 ⟨bv',nv,rv,bs',N',rfl,V8,hm8,k8⟩;obtain⟨xW,xP,xL,xN,xX,xS,xF,xR,yW,yP,yL,yN,yX,yS,yF,yR,rfl⟩:=V8.rd0.shapes;have s8:=k8.size;go_upto_region 18 with fail
        have B9:=V8.box s8;have k9:AC wr (w8.alloc (.cells #[.slice xW AA.length yW,.slice xP b.AM.length yP,.slice xL b.AQ.length yL,.slice xN b.AJ.length yN,.slice xX b.AK.length yX,.slice xS b.sn.length yS,.slice xF b.fr.length yF,.slice xR b.rws.length yR] 103)):=k8.trans ((AC.refl w8).alloc _);obtain⟨w9,hw9⟩:∃W:World,W=w8.alloc (.cells #[.slice xW AA.length yW,.slice xP b.AM.length yP,.slice xL b.AQ.length yL,.slice xN b.AJ.length yN,.slice xX b.AK.length yX,.slice xS b.sn.length yS,.slice xF b.fr.length yF,.slice xR b.rws.length yR] 103):=⟨_,rfl⟩;rw[<-hw9] at B9 k9 ⊢;have g1:=(k9.cell hbp).trans d1;have z9:wr.heap.size<=w9.heap.size:=k9.size;have z8:w8.heap.size<w9.heap.size:=by rw[hw9,AD];omega
        clear CC dq V8 hw9 d1;have CS:=MF w9 wr.heap.size w8.heap.size _ nv rv bs' N' AA b x B9 YW.out.ok HMB.out;go_wp2_with fail
        refine CS.mono ?_;clear CS;rintro e w10 ⟨rfl,nv10,rv10,B10,T10⟩;have TL:=T10.low z9 (fun g hg=>(B9.blk g hg).1);have k10:AC wr w10:=KCS k9 TL;have I10:=Iq.wide k10;have O10:=AI ((Oq.on (BA.B7 k10)).mono (P':=fun g=>Pq g\/(wr.heap.size<=g/\g<w10.heap.size)) (fun _ => .inl));have HB:=AI ((B10.val.held hm8).mono (P':=fun g=>Pq g\/(wr.heap.size<=g/\g<w10.heap.size)) (fun g hg => .inr hg));have d10:=B10.MA;obtain⟨P10,hP10⟩:∃P10:Nat->Prop,P10=fun g=>Pq g\/(wr.heap.size<=g/\g<w10.heap.size):=⟨_,rfl⟩
        rw[<-hP10] at I10 O10 HB;clear Iq Oq B9 B10 T10 TL k10 k9 hP10 g1;have k11:AC w10 (w10.alloc (.cells #[.slice xW AA.length yW,.slice xP b.AM.length yP,.slice xL b.AQ.length yL,.slice xN b.AJ.length yN,.slice xX b.AK.length yX,.slice xS b.sn.length yS,.slice xF b.fr.length yF,.slice xR b.rws.length yR] 103)):=(AC.refl w10).alloc _;have hN:=KAX w10 (.cells #[.slice xW AA.length yW,.slice xP b.AM.length yP,.slice xL b.AQ.length yL,.slice xN b.AJ.length yN,.slice xX b.AK.length yX,.slice xS b.sn.length yS,.slice xF b.fr.length yF,.slice xR b.rws.length yR] 103);obtain⟨w11,hw11⟩:∃W:World,W=w10.alloc (.cells #[.slice xW AA.length yW,.slice xP b.AM.length yP,.slice xL b.AQ.length yL,.slice xN b.AJ.length yN,.slice xX b.AK.length yX,.slice xS b.sn.length yS,.slice xF b.fr.length yF,.slice xR b.rws.length yR] 103):=⟨_,rfl⟩;have s11:w11.heap.size=w10.heap.size+1:=by rw[hw11,AD]
        rw[<-hw11] at k11 hN;have I11:=I10.keep k11;have hO11:=Ns AA (AB AA) false b i;have hlen:(l++DV AA (AB AA) false b i).length<=131:=by rw[KAJ];omega
        go_upto_region 21 with fail
        go_wp2_with (first|refine KAr rfl 103 _ rfl (w8.heap.size) rfl 103 _ (0,0) _ d10 Tryz.underlying103 rfl AR ?_|(at_builtin;rw[<-hw11];refine KAe _ rfl _ _ 105 rfl w.heap.size 103 j0 (.agg #[AF,AF,AF,AF,AF,AF,AF,AF]) 8 192 Tryz.underlying105 hj hy0 hy1 hy2 rfl (by decide) _ _ _ rfl I11.o.row ⟨w10.heap.size,0,none⟩ 1 1 [.slice xW AA.length yW,.slice xP b.AM.length yP,.slice xL b.AQ.length yL,.slice xN b.AJ.length yN,.slice xX b.AK.length yX,.slice xS b.sn.length yS,.slice xF b.fr.length yF,.slice xR b.rws.length yR] rfl rfl (KBd (cs:=#[.slice xW AA.length yW,.slice xP b.AM.length yP,.slice xL b.AQ.length yL,.slice xN b.AJ.length yN,.slice xX b.AK.length yX,.slice xS b.sn.length yS,.slice xF b.fr.length yF,.slice xR b.rws.length yR]) (t:=103) (fr:=(0,0)) hN) (by simp[Value.oneCell']) ?e3 ?e4 ?e5 ?_)|fail)
        case e3=>unfold maxLen;omega
        case e4=>omega
        case e5=>exact KAU I11.K.size (KAM _)
        intro v12 w12 hown12 hgrow12 _ hblk12;rw[<-hw11] at hgrow12;obtain⟨I12,S12⟩:=I11.push (HB.out.on (BA.B7 k11)) (by rw[KAJ];exact hown12) hgrow12 (by rcases hblk12 with e|e;exact .inl e;exact .inr ⟨_,e,KBP s11⟩);have O12:=AI ((O10.out.on (BA.B7 k11)).on S12);rw[KA2] at I12;clear hown12 hgrow12 hblk12 I11 I10 S12 O10 HB hN d10 k11 s11 hw11;go_wp2;go_roundw;case rel=>exact⟨i+1,_,_,P10,rfl,by omega,by go_num,by rw[sH.out];exact I12,O12.out⟩
        case measure=>simp[intOf];omega
       ·
        rcases Ln hmem (Da hb) with ⟨c,ec,hc,hcan,hlt10⟩|⟨c,ec,hc,hne,hge10⟩
        ·
         have sH:=AI (show DV AA (AB AA) true b (i+1)=DV AA (AB AA) true b i++[CZ AA (AB AA) b c] from by rw[Ia _ _ _ _ hlt,<-HX.out,KAi (by omega),ec];simp);have hb1:decide ((10:Int)<=x)=false:=KAi (by omega);have HC:=AI (And.intro hc hcan);clear hmem hlt10 hc hcan;subst ec;have CC:=ME wr _ AA b Oq.held.rd YW.out.ok;have dq:=Oq.box;go_wp2_with (first|refine KAr rfl 103 _ rfl (D) rfl 103 _ (0,0) _ dq Tryz.underlying103 rfl AR ?_|fail)
         refine CC.mono ?_;rintro e w8 ⟨bv',nv,rv,bs',N',rfl,V8,hm8,k8⟩;obtain⟨xW,xP,xL,xN,xX,xS,xF,xR,yW,yP,yL,yN,yX,yS,yF,yR,rfl⟩:=V8.rd0.shapes;have s8:=k8.size;go_upto_region 18 with fail
         have B9:=V8.box s8;have k9:AC wr (w8.alloc (.cells #[.slice xW AA.length yW,.slice xP b.AM.length yP,.slice xL b.AQ.length yL,.slice xN b.AJ.length yN,.slice xX b.AK.length yX,.slice xS b.sn.length yS,.slice xF b.fr.length yF,.slice xR b.rws.length yR] 103)):=k8.trans ((AC.refl w8).alloc _);obtain⟨w9,hw9⟩:∃W:World,W=w8.alloc (.cells #[.slice xW AA.length yW,.slice xP b.AM.length yP,.slice xL b.AQ.length yL,.slice xN b.AJ.length yN,.slice xX b.AK.length yX,.slice xS b.sn.length yS,.slice xF b.fr.length yF,.slice xR b.rws.length yR] 103):=⟨_,rfl⟩;rw[<-hw9] at B9 k9 ⊢;have g1:=(k9.cell hbp).trans d1;have z9:wr.heap.size<=w9.heap.size:=k9.size;have z8:w8.heap.size<w9.heap.size:=by rw[hw9,AD];omega
         clear CC dq V8 hw9 d1;have CS:=Qs w9 wr.heap.size w8.heap.size _ nv rv bs' N' AA b c B9 YW.out.ok HC.out.1 HC.out.2;go_wp2_with fail
         refine CS.mono ?_;clear CS;rintro e w10 ⟨rfl,nv10,rv10,B10,T10⟩;have TL:=T10.low z9 (fun g hg=>(B9.blk g hg).1);have k10:AC wr w10:=KCS k9 TL;have I10:=Iq.wide k10;have O10:=AI ((Oq.on (BA.B7 k10)).mono (P':=fun g=>Pq g\/(wr.heap.size<=g/\g<w10.heap.size)) (fun _ => .inl));have HB:=AI ((B10.val.held hm8).mono (P':=fun g=>Pq g\/(wr.heap.size<=g/\g<w10.heap.size)) (fun g hg => .inr hg));have d10:=B10.MA;obtain⟨P10,hP10⟩:∃P10:Nat->Prop,P10=fun g=>Pq g\/(wr.heap.size<=g/\g<w10.heap.size):=⟨_,rfl⟩
         rw[<-hP10] at I10 O10 HB;clear Iq Oq B9 B10 T10 TL k10 k9 hP10 g1;have k11:AC w10 (w10.alloc (.cells #[.slice xW AA.length yW,.slice xP b.AM.length yP,.slice xL b.AQ.length yL,.slice xN b.AJ.length yN,.slice xX b.AK.length yX,.slice xS b.sn.length yS,.slice xF b.fr.length yF,.slice xR b.rws.length yR] 103)):=(AC.refl w10).alloc _;have hN:=KAX w10 (.cells #[.slice xW AA.length yW,.slice xP b.AM.length yP,.slice xL b.AQ.length yL,.slice xN b.AJ.length yN,.slice xX b.AK.length yX,.slice xS b.sn.length yS,.slice xF b.fr.length yF,.slice xR b.rws.length yR] 103);obtain⟨w11,hw11⟩:∃W:World,W=w10.alloc (.cells #[.slice xW AA.length yW,.slice xP b.AM.length yP,.slice xL b.AQ.length yL,.slice xN b.AJ.length yN,.slice xX b.AK.length yX,.slice xS b.sn.length yS,.slice xF b.fr.length yF,.slice xR b.rws.length yR] 103):=⟨_,rfl⟩;have s11:w11.heap.size=w10.heap.size+1:=by rw[hw11,AD]
         rw[<-hw11] at k11 hN;have I11:=I10.keep k11;have hO11:=Ns AA (AB AA) true b i;have hlen:(l++DV AA (AB AA) true b i).length<=131:=by rw[KAJ];omega
         go_upto_region 21 with fail
         go_wp2_with (first|refine KAr rfl 103 _ rfl (w8.heap.size) rfl 103 _ (0,0) _ d10 Tryz.underlying103 rfl AR ?_|(at_builtin;rw[<-hw11];refine KAe _ rfl _ _ 105 rfl w.heap.size 103 j0 (.agg #[AF,AF,AF,AF,AF,AF,AF,AF]) 8 192 Tryz.underlying105 hj hy0 hy1 hy2 rfl (by decide) _ _ _ rfl I11.o.row ⟨w10.heap.size,0,none⟩ 1 1 [.slice xW AA.length yW,.slice xP b.AM.length yP,.slice xL b.AQ.length yL,.slice xN b.AJ.length yN,.slice xX b.AK.length yX,.slice xS b.sn.length yS,.slice xF b.fr.length yF,.slice xR b.rws.length yR] rfl rfl (KBd (cs:=#[.slice xW AA.length yW,.slice xP b.AM.length yP,.slice xL b.AQ.length yL,.slice xN b.AJ.length yN,.slice xX b.AK.length yX,.slice xS b.sn.length yS,.slice xF b.fr.length yF,.slice xR b.rws.length yR]) (t:=103) (fr:=(0,0)) hN) (by simp[Value.oneCell']) ?e3 ?e4 ?e5 ?_)|fail)
         case e3=>unfold maxLen;omega
         case e4=>omega
         case e5=>exact KAU I11.K.size (KAM _)
         intro v12 w12 hown12 hgrow12 _ hblk12;rw[<-hw11] at hgrow12;obtain⟨I12,S12⟩:=I11.push (HB.out.on (BA.B7 k11)) (by rw[KAJ];exact hown12) hgrow12 (by rcases hblk12 with e|e;exact .inl e;exact .inr ⟨_,e,KBP s11⟩);have O12:=AI ((O10.out.on (BA.B7 k11)).on S12);rw[KA2] at I12;clear hown12 hgrow12 hblk12 I11 I10 S12 O10 HB hN d10 k11 s11 hw11;go_wp2;go_roundw;case rel=>exact⟨i+1,_,_,P10,rfl,by omega,by go_num,by rw[sH.out];exact I12,O12.out⟩
         case measure=>simp[intOf];omega
        ·
         have sH:=AI (show DV AA (AB AA) true b (i+1)=DV AA (AB AA) true b i from by rw[Ia _ _ _ _ hlt,<-HX.out,KAl hge10];simp);have hb1:decide ((10:Int)<=x)=true:=KAl hge10;have HOQ:=AI Oq;clear hmem hc hne Oq;go_wp2;go_roundw;case rel=>exact⟨i+1,_,_,Pq,rfl,by omega,by go_num,by rw[sH.out];exact Iq,HOQ.out⟩
         case measure=>simp[intOf];omega
      ·
       obtain rfl:i=(Aq AA b).length:=by omega
       rw[Ue] at Iq;have GO:=HG.out.on hb HS0.out HE0.out;clear Oq;go_wp2;go_roundg (KE AA (l++Bp AA (AB AA) quick b))
       case measure=>rw[<-HK.out];exact GO.2
       case rel=>exact⟨_,_,_,_,_,_,_,_,_,_,rfl,rfl,rfl,rfl,Iq,GO.1⟩
    ·
     have GO:=HG.out.end hb HS0.out hq.symm;have CW:=Qq w6 _ AA b O6.out.held.rd (by have:=YW.out.p;omega) (by have:=YW.out.p;omega) (by have:=YW.out.s;omega);clear hq;go_wp2_with (first|refine KAr rfl 103 _ rfl (D) rfl 103 _ (0,0) _ d6 Tryz.underlying103 rfl AR ?_|fail)
     refine CW.mono ?_;rintro e w7 ⟨vx,rfl,OX,k7⟩;have I7:=I6.wide k7;have px:∀g,vx.ownBlock=some g->P4 g\/(w6.heap.size<=g/\g<w7.heap.size):=fun g hg => .inr ⟨OX.ge g hg,(KAY OX g hg).2⟩
     have CP:=Ni w7 _ w.heap.size ve vx he E (An b) I7.e (fun g hg=>(I7.low g hg).2) OX.rd px HG.out.si.oe (HG.out.lens hb).1 (fun i hi=>by have:=HG.out.endl hb i hi;omega) I7.K.size;obtain⟨P7,hP7⟩:∃P7:Nat->Prop,P7=fun g=>P4 g\/(w6.heap.size<=g/\g<w7.heap.size):=⟨_,rfl⟩
     rw[<-hP7] at I7 CP;clear CW OX k7 px I6 O6 d6 hP7;go_wp2_with fail
     refine CP.mono ?_;rintro e w8 ⟨v8,he8,rfl,o8,g8,b8⟩;obtain⟨I8,-⟩:=I7.putE o8 g8 b8;clear CP o8 g8 b8 I7;go_wp2;go_roundg (KE AA l)
     case measure=>rw[<-HK.out];exact GO.2
     case rel=>exact⟨_,_,l,_,_,_,_,_,_,_,rfl,rfl,rfl,rfl,I8,GO.1⟩
   ·
    have GO:=HG.out.old hb hq.symm;have e:Ek Sn (Ct b)=Sn:=by unfold Ek;rw[KAP hq.symm]
    rw[e] at I5;clear O5 e hq;go_wp2;go_roundg (KE AA l)
    case measure=>rw[<-HK.out];exact GO.2
    case rel=>exact⟨E,Sn,l,_,_,_,_,_,_,_,rfl,rfl,rfl,rfl,I5,GO.1⟩
theorem It (w:World)(v vR vV:Value)(AA:List (List Dd))(rs vs:List Int)(h:Fw w v AA)(hr:Rd w vR rs)(hv:Rd w vV vs)(hx:AA.length<=1048576)(hm:∀i,i<AA.length->(AA.getD i []).length<=1048576)(lr:rs.length<=1048576):
  Calls Tryz.prog 10 #[v,.agg #[vR,vV]] w fun e w'=>∃a b,e = .returned (.tuple #[.int .i64 a,.int .i64 b])/\Lu AA rs vs a b/\AC w w':=by
 have CA:=fun (W:World) (kW:AC w W)=>GS W v vR vV AA rs vs (h.keep kW) (hr.keep kW) (hv.keep kW) hx hm lr
 have HH:=AI h;have H1:=AI hr;have H2:=AI hv;obtain⟨aR,cR,rfl,-⟩:=hr;obtain⟨aV,cV,rfl,-⟩:=hv;obtain⟨av,cv,rfl,-⟩:=h;clear hx hm;obtain⟨A,hA⟩:∃A,A=Db AA rs vs:=⟨_,rfl⟩;rw[<-hA] at CA;have XA:=AI hA;clear hA;go_enter Tryz.func10,Tryz.ntmps10
 go_wp2_with fail
 refine (CA _ ((AC.refl w).alloc _)).mono ?_;rintro e w1 ⟨rfl,k1⟩;have c0:=AO k1 0;have c1:=AO k1 1;simp at c0 c1;have K1:=((AC.refl w).alloc _).trans k1;have s1:w.heap.size<w1.heap.size:=by have:=k1.size;rw[AD] at this;omega
 clear CA;cases A
 ·
  go_wp2;go_ret2
  exact⟨-1,-1,rfl,⟨fun _=>⟨rfl,rfl⟩,fun q=>(by rw[<-XA.out] at q;cases q)⟩,K1⟩
 ·
  have hb:=XA.out.symm;have hwb:AL AA=true:=by unfold Db at hb;rw[KAO] at hb;exact hb.1
  have hok:Q0 (Oc AA) rs vs=true:=by unfold Db at hb;rw[KAO] at hb;exact hb.2
  have XO:=AI (Q4 hok);have XB:=AI hwb;have CE:=MG w1 _ AA false (HH.out.keep K1) hwb;clear hb hwb hok;go_wp2_with fail
  refine CE.mono ?_;rintro e w2 ⟨v2,l,rfl,r2,hi,hl,k2⟩;have XE:Hid (DD AA false l):=AI ⟨fun _=>hi,fun q=>(by rw[XB.out] at q;cases q)⟩;replace c0:=(k2.cell s1).trans c0;replace c1:=(k2.cell s1).trans c1;have K2:=AI (K1.trans k2);have s2:=KAC s1 k2.size
  have HM:Hid (∀(W:World),AC w2 W->∀(u:Value) i,i<l.length->Rd W u (l.getD i [])->Calls Tryz.prog 33 #[.agg #[.slice aR rs.length cR,.slice aV vs.length cV],u] W fun e w'=>e = .returned (.bool (DF rs vs (l.getD i [])))/\AC W w'):=AI (fun W kW u i hi hu=>
   Ko W _ _ u rs vs (l.getD i []) (H1.out.keep (K2.out.trans kW)) (H2.out.keep (K2.out.trans kW)) hu XO.out.1 XO.out.2.1 (by have:=XE.out.lens i hi;omega) (fun j hj=>⟨UR (XO.out.2.2 j hj).1 (GM AA).1 (GM AA).2,QS (XO.out.2.2 j hj).1 (XE.out.same XB.out hi) (GM AA).1 (GM AA).2⟩))
  obtain⟨al,cl,rfl,rl⟩:=r2.rd;have XR:=AI rl;have hll:l.length<=78125:=XE.out.len;clear CE hi r2 rl k1 k2 K1 s1 hl;go_wp2;go_loopw [7,8] (fun s7 i wr=>∃k:Nat,k<=l.length/\i = .int .i64 k/\(∃n:Nat,s7 = .int .i64 n/\n<=k/\Hid (n=JV rs vs l k))/\Hid (AC w2 wr)) (fun _ i _=>l.length-(intOf i).toNat)
  case atStart=>exact⟨0,KAb _,rfl,⟨0,rfl,KAM _,AI rfl⟩,AI (AC.refl _)⟩
  case round=>
   obtain⟨k,hk,rfl,⟨n,rfl,hnk,hn⟩,hK⟩:=hrel;by_cases hlt:k<l.length
   ·
    rcases XR.out with q|⟨bl,ol,rfl,hbl,dl⟩
    . exfalso;rw[q] at hlt;simp at hlt
    obtain⟨vi,d1,r1⟩:=dl k hlt;have e1:=(hK.out.cell hbl).trans d1;have q0:=(hK.out.cell s2).trans c0;have q1:=(hK.out.cell s2).trans c1;have z0:w.heap.size<wr.heap.size:=KAC s2 hK.out.size;have z1:bl<wr.heap.size:=KAC hbl hK.out.size;have CM:Hid (∀(W:World),AC wr W->Calls Tryz.prog 33 #[.agg #[.slice aR rs.length cR,.slice aV vs.length cV],vi] W fun e w'=>e = .returned (.bool (DF rs vs (l.getD k [])))/\AC W w'):=AI (fun W kW=>HM.out W (hK.out.trans kW) vi k hlt (r1.keep (hK.out.trans kW)));have XS:Hid (JV rs vs l (k+1)=JV rs vs l k+(if DF rs vs (l.getD k [])=true then 1 else 0)):=AI rfl;obtain⟨ai,ci,mV,-⟩:=id r1;generalize (l.getD k []).length=m at mV;obtain⟨A,hA⟩:∃A,A=DF rs vs (l.getD k []):=⟨_,rfl⟩;rw[<-hA] at CM XS;subst mV;have i1:(0:Int)<=(k:Int):=KAK _;have i2:(k:Int)<(l.length:Int):=by omega
    have hw1:IntKind.i64.wrap ((n:Int)+1)=(n:Int)+1:=by rw[KAk];omega
    clear dl d1 r1 hA c0 c1 HM;go_upto_region 8 with fail
    go_cut [26] from 27 to 28 (fun s26 wx=>s26 = .bool A/\AC wr wx)
    case first=>
     go_region_held3 (fun w'=>w'.cell? ⟨w.heap.size,0,none⟩=some (.slice aR rs.length cR)/\w'.cell? ⟨w.heap.size,1,none⟩=some (.slice aV vs.length cV)/\w'.cell? ⟨bl,ol+k,none⟩=some (.slice ai m ci))
      (first|go_keep|(go_split_ands;refine⟨?_,?_,?_⟩<;>(rw[kk.cell (by assumption)];assumption)))
      ((go_at_call 33;refine (CM.out _ (AC.refl wr).drew).mono ?_;rintro e wz ⟨rfl,kk⟩))
     all_goals
      go_wp2;go_meet;case rel=>exact⟨rfl,(AC.refl wr).drew.trans kk⟩
    case rest=>
     obtain⟨rfl,kc⟩:=hcut;have XC:=AI (hK.out.trans kc);clear kc e1 q0 q1 z0 z1 CM;cases A
     ·
      go_wp2;go_roundw;case rel=>exact⟨k+1,by omega,by go_num,⟨n,rfl,by omega,AI (by rw[XS.out,KAQ (by simp),<-hn.out];rfl)⟩,AI XC.out⟩
      case measure=>simp[intOf];omega
     ·
      go_wp2;go_roundw;case rel=>exact⟨k+1,by omega,by go_num,⟨n+1,by go_num,by omega,AI (by rw[XS.out,KAP rfl,<-hn.out])⟩,AI XC.out⟩
      case measure=>simp[intOf];omega
   ·
    obtain rfl:k=l.length:=by omega
    go_wp2;go_ret2
    exact⟨n,l.length,rfl,⟨fun q=>(by rw[<-XA.out] at q;cases q),fun _=>⟨l,XE.out,by rw[hn.out],rfl⟩⟩,K2.out.trans hK.out⟩
end Go.Proofs.YtflehmepjhikcaaGreatDoor
