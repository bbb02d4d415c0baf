/- Gathered texts. -/
import Derived.RegionTactic
import Derived.Deep.Cut
import Derived.Test.YtflehmepjhikcaaGreatDoorMQ
import Derived.BigRegion
import Derived.Defers
import Derived.Recover
import Derived.Lib.Hide
import Derived.Laws.Rows
set_option maxRecDepth 100000
set_option maxHeartbeats 8000000
namespace Go.Proofs.YtflehmepjhikcaaGreatDoor
open Go.ChangeShapes Go.WideShapes Go.ChangeAt Go.RowKit
abbrev No:=@List.getElem_cons_zero
abbrev KAD:=@List.getElem_toArray
structure nZ (w:World)(wc:World)(m:Nat)(b:Bd)(p:Nat)(x:Int)(ev:Int)(rv:List Value)(Z:List Int)(au:Option Addr)(cu:Nat)(gp:Nat)(gl:Nat)(gr:Nat)(aW:Option Addr)(aN:Option Addr)(aX:Option Addr)(aS:Option Addr)(aF:Option Addr)(nW:Nat)(nN:Nat)(nX:Nat)(nS:Nat)(nF:Nat)(cW:Nat)(cP:Nat)(cL:Nat)(cQ:Nat)(cX:Nat)(cS:Nat)(cF:Nat)(cR:Nat)(B:Nat->Bool)(G:Nat)(x18 x19 x20 x21 x22 x23 x24 x25 x26 x27 x28 x29 x30 x31 x32:Value)(w3:World):Prop where
 HB:w3.heap[w.heap.size]? = some (.cells #[.slice aW nW cW,.slice (some ⟨gp,0,none⟩) b.AM.length cP,.slice (some ⟨gl,0,none⟩) b.AQ.length cL,.slice aN nN cQ,.slice aX nX cX,.slice aS nS cS,.slice aF nF cF,.slice (some ⟨gr,0,none⟩) b.rws.length cR] 103 (0,0))
 HN:w3.heap[w.heap.size+1]? = some (.cells #[.int .i64 (p:Int),.int .i64 x,.int .i64 ev] 155 (0,0))
 HS:wc.heap.size<=w3.heap.size
 HO:B 13=false->AC wc w3
 F0:B 0=true->x18 = .pointer (some ⟨w.heap.size,7,none⟩)
 F1:B 1=true->x19 = .slice (some ⟨gr,0,none⟩) b.rws.length cR
 F2:B 2=true->x20 = .pointer (some ⟨w.heap.size+1,0,none⟩)
 F3:B 3=true->x21 = .int .i64 (p:Int)
 F4:B 4=true->x22 = .pointer (some ⟨w.heap.size,7,none⟩)
 F5:B 5=true->x23 = .slice (some ⟨gr,0,none⟩) b.rws.length cR
 F6:B 6=true->x24 = .pointer (some ⟨w.heap.size+1,0,none⟩)
 F7:B 7=true->x25 = .int .i64 (p:Int)
 F8:B 8=true->x26 = .pointer (some ⟨gr,p,none⟩)
 F9:B 9=true->x27 = .slice au Z.length cu
 F10:B 10=true->x28 = .pointer (some ⟨w.heap.size+1,2,none⟩)
 F11:B 11=true->x29 = .int .i64 ev
 F12:B 12=true->x30 = .slice (some ⟨G,0,none⟩) 1 1/\(B 13=false->w3.cell? ⟨G,0,none⟩=some (.int .i64 ev))
 F13:B 13=true->(B 9=true/\B 12=true)/\∃a c,x31 = .slice a (Z.length+1) c
 P13:B 13=true->B 15=false->Dt (w3.setCell ⟨gr,p,none⟩ x31) m ⟨.slice aW nW cW,.slice (some ⟨gp,0,none⟩) b.AM.length cP,.slice (some ⟨gl,0,none⟩) b.AQ.length cL,.slice aN nN cQ,.slice aX nX cX,.slice aS nS cS,.slice aF nF cF,.slice (some ⟨gr,0,none⟩) b.rws.length cR⟩ (rv.set p x31) { { { b with AM:=b.AM.set p x } with AQ:=b.AQ.set p ev } with rws:=b.rws.set p (Z++[ev]) }/\w3.cell? ⟨gr,p,none⟩=some (rv.getD p AF)/\w3.frozen? ⟨gr,p,none⟩=false/\Ai w w3 (Fg ⟨.slice aW nW cW,.slice (some ⟨gp,0,none⟩) b.AM.length cP,.slice (some ⟨gl,0,none⟩) b.AQ.length cL,.slice aN nN cQ,.slice aX nX cX,.slice aS nS cS,.slice aF nF cF,.slice (some ⟨gr,0,none⟩) b.rws.length cR⟩ rv) (Fg ⟨.slice aW nW cW,.slice (some ⟨gp,0,none⟩) b.AM.length cP,.slice (some ⟨gl,0,none⟩) b.AQ.length cL,.slice aN nN cQ,.slice aX nX cX,.slice aS nS cS,.slice aF nF cF,.slice (some ⟨gr,0,none⟩) b.rws.length cR⟩ rv)/\(∀g,x31.ownBlock=some g->Fg ⟨.slice aW nW cW,.slice (some ⟨gp,0,none⟩) b.AM.length cP,.slice (some ⟨gl,0,none⟩) b.AQ.length cL,.slice aN nN cQ,.slice aX nX cX,.slice aS nS cS,.slice aF nF cF,.slice (some ⟨gr,0,none⟩) b.rws.length cR⟩ rv g\/w.heap.size<=g)
 F14:B 14=true->x32 = .pointer (some ⟨gr,p,none⟩)
 F15:B 15=true->B 13=true/\Dt w3 m ⟨.slice aW nW cW,.slice (some ⟨gp,0,none⟩) b.AM.length cP,.slice (some ⟨gl,0,none⟩) b.AQ.length cL,.slice aN nN cQ,.slice aX nX cX,.slice aS nS cS,.slice aF nF cF,.slice (some ⟨gr,0,none⟩) b.rws.length cR⟩ (rv.set p x31) { { { b with AM:=b.AM.set p x } with AQ:=b.AQ.set p ev } with rws:=b.rws.set p (Z++[ev]) }/\Ai w w3 (Fg ⟨.slice aW nW cW,.slice (some ⟨gp,0,none⟩) b.AM.length cP,.slice (some ⟨gl,0,none⟩) b.AQ.length cL,.slice aN nN cQ,.slice aX nX cX,.slice aS nS cS,.slice aF nF cF,.slice (some ⟨gr,0,none⟩) b.rws.length cR⟩ rv) (Fg ⟨.slice aW nW cW,.slice (some ⟨gp,0,none⟩) b.AM.length cP,.slice (some ⟨gl,0,none⟩) b.AQ.length cL,.slice aN nN cQ,.slice aX nX cX,.slice aS nS cS,.slice aF nF cF,.slice (some ⟨gr,0,none⟩) b.rws.length cR⟩ (rv.set p x31))
theorem Q7 (w:World)(m:Nat)(v:BV)(rv:List Value)(b:Bd)(p:Nat)(x ev:Int)(h:Dt w m v rv b)(hs:v.Sl)(hm:m<=w.heap.size)(hp:p<b.AM.length)(hl:p<b.AQ.length)(hr:p<b.rws.length)(ht:(b.rws.getD p []).length<=1048576):
  Calls Tryz.prog 169 #[v.agg,.agg #[.int .i64 (p:Int),.int .i64 x,.int .i64 ev]] w fun e w'=>e = .returned (.tuple #[])/\∃rv',Dt w' m v rv' (EJ b p x ev)/\Ai w w' (Fg v rv) (Fg v rv'):=by
 obtain⟨i0,hii,hz0,hz1,hz2⟩:=KA3 Tryz.FM;obtain⟨aW,aP,aL,aN,aX,aS,aF,aR,nW,nP,nL,nN,nX,nS,nF,nR,cW,cP,cL,cQ,cX,cS,cF,cR,rfl⟩:=hs;obtain⟨gp,cp,eP,lp,-,-⟩:=h.oP.lit hp;obtain⟨gl,cl,eL,ll,-,-⟩:=h.oL.lit hl;obtain⟨aR',cR',eR,hR⟩:=h.hR;rcases hR with h0|⟨gr,rfl,lr,-⟩
 . exfalso;rw[h0] at hr;simp at hr
 simp only[KAT] at eP eL eR;obtain⟨rfl,rfl,rfl⟩:=eP;obtain⟨rfl,rfl,rfl⟩:=eL;obtain⟨rfl,rfl,rfl⟩:=eR;obtain⟨Z,hZ⟩:∃Z,Z=b.rws.getD p []:=⟨_,rfl⟩;rw[<-hZ] at ht;have XZ:Hid (EJ b p x ev={ { { b with AM:=b.AM.set p x } with AQ:=b.AQ.set p ev } with rws:=b.rws.set p (Z++[ev]) }):=AI (by rw[hZ];rfl);have qh:Hid (∀q,w.heap.size<=q->¬Fg ⟨.slice aW nW cW,.slice (some ⟨gp,0,none⟩) b.AM.length cP,.slice (some ⟨gl,0,none⟩) b.AQ.length cL,.slice aN nN cQ,.slice aX nX cX,.slice aS nS cS,.slice aF nF cF,.slice (some ⟨gr,0,none⟩) b.rws.length cR⟩ rv q):=AI (fun q hq hB=>by have:=(h.blk q hB).2;omega);have HH:=AI h;have i1:(0:Int)<=(p:Int):=KAK _;have i2:(p:Int)<(b.AM.length:Int):=by omega
 have i3:(p:Int)<(b.AQ.length:Int):=by omega
 have i4:(p:Int)<(b.rws.length:Int):=by omega
 clear h;go_enter Tryz.func169,Tryz.ntmps169
 go_upto_region 1 with fail
 go_cut [] from 4 (fun wx=>Dt wx m ⟨.slice aW nW cW,.slice (some ⟨gp,0,none⟩) b.AM.length cP,.slice (some ⟨gl,0,none⟩) b.AQ.length cL,.slice aN nN cQ,.slice aX nX cX,.slice aS nS cS,.slice aF nF cF,.slice (some ⟨gr,0,none⟩) b.rws.length cR⟩ rv { { b with AM:=b.AM.set p x } with AQ:=b.AQ.set p ev }/\Ai w wx (Fg ⟨.slice aW nW cW,.slice (some ⟨gp,0,none⟩) b.AM.length cP,.slice (some ⟨gl,0,none⟩) b.AQ.length cL,.slice aN nN cQ,.slice aX nX cX,.slice aS nS cS,.slice aF nF cF,.slice (some ⟨gr,0,none⟩) b.rws.length cR⟩ rv) (Fg ⟨.slice aW nW cW,.slice (some ⟨gp,0,none⟩) b.AM.length cP,.slice (some ⟨gl,0,none⟩) b.AQ.length cL,.slice aN nN cQ,.slice aX nX cX,.slice aS nS cS,.slice aF nF cF,.slice (some ⟨gr,0,none⟩) b.rws.length cR⟩ rv)/\wx.heap[w.heap.size]? = some (.cells #[.slice aW nW cW,.slice (some ⟨gp,0,none⟩) b.AM.length cP,.slice (some ⟨gl,0,none⟩) b.AQ.length cL,.slice aN nN cQ,.slice aX nX cX,.slice aS nS cS,.slice aF nF cF,.slice (some ⟨gr,0,none⟩) b.rws.length cR] 103 (0,0))/\wx.heap[w.heap.size+1]? = some (.cells #[.int .i64 (p:Int),.int .i64 x,.int .i64 ev] 155 (0,0))/\w.heap.size+1<wx.heap.size)
 case first=>
  obtain⟨w1,hw1⟩:∃W:World,W=(w.alloc (.cells #[.slice aW nW cW,.slice (some ⟨gp,0,none⟩) b.AM.length cP,.slice (some ⟨gl,0,none⟩) b.AQ.length cL,.slice aN nN cQ,.slice aX nX cX,.slice aS nS cS,.slice aF nF cF,.slice (some ⟨gr,0,none⟩) b.rws.length cR] 103)).alloc (.cells #[.int .i64 (p:Int),.int .i64 x,.int .i64 ev] 155):=⟨_,rfl⟩;have K1:AC w w1:=by rw[hw1];exact ((AC.refl w).alloc _).alloc _
  have s1:w1.heap.size=w.heap.size+1+1:=by rw[hw1,AD,AD]
  have hB1:w1.heap[w.heap.size]? = some (.cells #[.slice aW nW cW,.slice (some ⟨gp,0,none⟩) b.AM.length cP,.slice (some ⟨gl,0,none⟩) b.AQ.length cL,.slice aN nN cQ,.slice aX nX cX,.slice aS nS cS,.slice aF nF cF,.slice (some ⟨gr,0,none⟩) b.rws.length cR] 103 (0,0)):=by rw[hw1];exact DM ((AC.refl _).alloc _)
  have hN1:w1.heap[w.heap.size+1]? = some (.cells #[.int .i64 (p:Int),.int .i64 x,.int .i64 ev] 155 (0,0)):=by rw[hw1,<-AD w (.cells #[.slice aW nW cW,.slice (some ⟨gp,0,none⟩) b.AM.length cP,.slice (some ⟨gl,0,none⟩) b.AQ.length cL,.slice aN nN cQ,.slice aX nX cX,.slice aS nS cS,.slice aF nF cF,.slice (some ⟨gr,0,none⟩) b.rws.length cR] 103)];exact KAX _ _
  rw[<-hw1];clear hw1;have H1:=HH.out.keep K1;obtain⟨gp',cp',eP,lp1,dp,fp⟩:=H1.oP.lit hp;simp only[KAT,KAg,KA6,KBX,KA8] at eP;obtain⟨rfl,rfl⟩:=eP;have d1:=dp p hp;have f1:=fp p;have H2:=H1.qK (k:=p) (x:=x) rfl;obtain⟨gl',cl',eL,ll2,dl,fl⟩:=H2.oL.lit hl;simp only[KAT,KAg,KA6,KBX,KA8] at eL;obtain⟨rfl,rfl⟩:=eL;have d2:=dl p hl;have f2:=fl p;have c1:w1.cell? ⟨w.heap.size,1,none⟩=some (.slice (some ⟨gp,0,none⟩) b.AM.length cP):=by rw[KAL w1 _ 1 _ _ _ hB1];rfl
  have c2:w1.cell? ⟨w.heap.size,2,none⟩=some (.slice (some ⟨gl,0,none⟩) b.AQ.length cL):=by rw[KAL w1 _ 2 _ _ _ hB1];rfl
  have n0:w1.cell? ⟨w.heap.size+1,0,none⟩=some (.int .i64 (p:Int)):=by rw[KAL w1 _ 0 _ _ _ hN1];rfl
  have n1:w1.cell? ⟨w.heap.size+1,1,none⟩=some (.int .i64 x):=by rw[KAL w1 _ 1 _ _ _ hN1];rfl
  have n2:w1.cell? ⟨w.heap.size+1,2,none⟩=some (.int .i64 ev):=by rw[KAL w1 _ 2 _ _ _ hN1];rfl
  have T4:Hid (Ai w1 _ (Fg ⟨.slice aW nW cW,.slice (some ⟨gp,0,none⟩) b.AM.length cP,.slice (some ⟨gl,0,none⟩) b.AQ.length cL,.slice aN nN cQ,.slice aX nX cX,.slice aS nS cS,.slice aF nF cF,.slice (some ⟨gr,0,none⟩) b.rws.length cR⟩ rv) (Fg ⟨.slice aW nW cW,.slice (some ⟨gp,0,none⟩) b.AM.length cP,.slice (some ⟨gl,0,none⟩) b.AQ.length cL,.slice aN nN cQ,.slice aX nX cX,.slice aS nS cS,.slice aF nF cF,.slice (some ⟨gr,0,none⟩) b.rws.length cR⟩ rv)):=AI ((((Ai.refl w1 _).grown (Ad w1 gp p (.int .i64 x)) (fun g hg=>⟨.AM,trivial,hg⟩)).grown (Ad _ gl p (.int .i64 ev)) (fun g hg=>⟨.AQ,trivial,hg⟩)).keep (AC.refl _).drew);have H3:=AI ((H2.Ek (k:=p) (x:=ev) rfl).keep (AC.refl _).drew);have XB:=AI hB1;have XN:=AI hN1;clear dp fp dl fl H1 H2 hB1 hN1 lp1 ll2;go_region
  go_wp2;go_meet;case rel=>exact⟨H3.out,((Ai.refl w _).keep K1).trans T4.out,(T4.out.block _ (by omega) (qh.out _ (KAM _))).trans XB.out,(T4.out.block _ (by omega) (qh.out _ (by omega))).trans XN.out,KAC (by omega) T4.out.size⟩
 case rest=>
  obtain⟨H3,T3,hB2,hN2,y2⟩:=hcut;obtain⟨aR',cR',eR',hR'⟩:=H3.hR;simp only[KAT,KA8] at eR';obtain⟨rfl,rfl⟩:=eR';rcases hR' with h0|⟨gr',er,lr2,dr⟩
  . exfalso;rw[h0] at hr;simp at hr
  simp only[KAg,KA6,KBX] at er;subst er;have d3:=dr p hr;have ow:A8 wc m (rv.getD p AF) Z:=by rw[hZ];exact H3.oR hr
  obtain⟨au,cu,hu⟩:∃a c,rv.getD p AF = .slice a Z.length c:=by obtain⟨a,c,e,_⟩:=ow.rd;exact⟨a,c,e⟩
  rw[hu] at d3;have hpr:p<rv.length:=by rw[H3.lr];exact hr
  have XH3:=AI H3;have iH:=AI T3;have XU:=AI hu;have XO:Hid (wc.ownsRow m 2 1 (.slice au Z.length cu) Z.length (Z.map (Value.int .i64))):=AI (by rw[<-hu];exact ow);have XB:=AI hB2;have XN:=AI hN2;have XD:=AI d3;clear H3 T3 hZ hu hB2 hN2 d3 ow dr HH;go_wp2_with fail
  refine Bv (by kernel_rfl) (fun listed a w3=>∃(B:Nat->Bool) (G:Nat) (x18 x19 x20 x21 x22 x23 x24 x25 x26 x27 x28 x29 x30 x31 x32:Value),listed=#[B 0,B 1,B 2,B 3,B 4,B 5,B 6,B 7,B 8,B 9,B 10,B 11,B 12,B 13,B 14,B 15]/\a=⟨#[.agg #[.slice aW nW cW,.slice (some ⟨gp,0,none⟩) b.AM.length cP,.slice (some ⟨gl,0,none⟩) b.AQ.length cL,.slice aN nN cQ,.slice aX nX cX,.slice aS nS cS,.slice aF nF cF,.slice (some ⟨gr,0,none⟩) b.rws.length cR],.agg #[.int .i64 (p:Int),.int .i64 x,.int .i64 ev],.pointer (some ⟨w.heap.size,0,none⟩),.pointer (some ⟨w.heap.size+1,0,none⟩),u4,u5,u6,u7,u8,u9,u10,u11,u12,u13,u14,u15,u16,u17,x18,x19,x20,x21,x22,x23,x24,x25,x26,x27,x28,x29,x30,x31,x32],[]⟩/\nZ w wc m b p x ev rv Z au cu gp gl gr aW aN aX aS aF nW nN nX nS nF cW cP cL cQ cX cS cF cR B G x18 x19 x20 x21 x22 x23 x24 x25 x26 x27 x28 x29 x30 x31 x32 w3) ?_ ?_ ?_
  . exact⟨fun _=>false,0,u18,u19,u20,u21,u22,u23,u24,u25,u26,u27,u28,u29,u30,u31,u32,rfl,rfl,⟨XB.out,XN.out,KAM _,(fun _=>(AC.refl wc).drew),(fun q=>by cases q),(fun q=>by cases q),(fun q=>by cases q),(fun q=>by cases q),(fun q=>by cases q),(fun q=>by cases q),(fun q=>by cases q),(fun q=>by cases q),(fun q=>by cases q),(fun q=>by cases q),(fun q=>by cases q),(fun q=>by cases q),(fun q=>by cases q),(fun q=>by cases q),(fun q=>by cases q),(fun q=>by cases q),(fun q=>by cases q)⟩⟩
  ·
   rintro listed a w3 ⟨B,G,x18,x19,x20,x21,x22,x23,x24,x25,x26,x27,x28,x29,x30,x31,x32,rfl,rfl,h'⟩ i hi;have hlt:=(AE hi).1;have hcs:i=0\/i=1\/i=2\/i=3\/i=4\/i=5\/i=6\/i=7\/i=8\/i=9\/i=10\/i=11\/i=12\/i=13\/i=14\/i=15:=by simp at hlt;omega
   rcases hcs with rfl|rfl|rfl|rfl|rfl|rfl|rfl|rfl|rfl|rfl|rfl|rfl|rfl|rfl|rfl|rfl
   ·
    have hbi:B 0=false:=by simpa using (AE hi).2.1
    refine AG rfl rfl (fun K hK=>?_);simp only[KAD,No];go_simp;refine hK.out _ _ ?_;exact⟨AY B 0,G,_,_,_,_,_,_,_,_,_,_,_,_,_,_,_,rfl,rfl,{ h' with F0:=(fun _=>rfl) }⟩
   ·
    have hbi:B 1=false:=by simpa using (AE hi).2.1
    have d0:B 0=true:=AH hi 0 rfl (by kernel_rfl);have dc:w3.cell? ⟨w.heap.size,7,none⟩=some (.slice (some ⟨gr,0,none⟩) b.rws.length cR):=by rw[KAL w3 _ 7 _ _ _ h'.HB];rfl
    have Ex:=AI (h'.F0 d0);rw[Ex.out];refine AG rfl rfl (fun K hK=>?_);simp only[KAD,KAB,No];go_simp;refine hK.out _ _ ?_;have ex:=Ex.out;subst ex;exact⟨AY B 1,G,_,_,_,_,_,_,_,_,_,_,_,_,_,_,_,rfl,rfl,{ h' with F1:=(fun _=>rfl) }⟩
   ·
    have hbi:B 2=false:=by simpa using (AE hi).2.1
    refine AG rfl rfl (fun K hK=>?_);simp only[KAD,KAB,No];go_simp;refine hK.out _ _ ?_;exact⟨AY B 2,G,_,_,_,_,_,_,_,_,_,_,_,_,_,_,_,rfl,rfl,{ h' with F2:=(fun _=>rfl) }⟩
   ·
    have hbi:B 3=false:=by simpa using (AE hi).2.1
    have d2:B 2=true:=AH hi 2 rfl (by kernel_rfl);have dc:w3.cell? ⟨w.heap.size+1,0,none⟩=some (.int .i64 (p:Int)):=by rw[KAL w3 _ 0 _ _ _ h'.HN];rfl
    have Ex:=AI (h'.F2 d2);rw[Ex.out];refine AG rfl rfl (fun K hK=>?_);simp only[KAD,KAB,No];go_simp;refine hK.out _ _ ?_;have ex:=Ex.out;subst ex;exact⟨AY B 3,G,_,_,_,_,_,_,_,_,_,_,_,_,_,_,_,rfl,rfl,{ h' with F3:=(fun _=>rfl) }⟩
   ·
    have hbi:B 4=false:=by simpa using (AE hi).2.1
    refine AG rfl rfl (fun K hK=>?_);simp only[KAD,KAB,No];go_simp;refine hK.out _ _ ?_;exact⟨AY B 4,G,_,_,_,_,_,_,_,_,_,_,_,_,_,_,_,rfl,rfl,{ h' with F4:=(fun _=>rfl) }⟩
   ·
    have hbi:B 5=false:=by simpa using (AE hi).2.1
    have d4:B 4=true:=AH hi 4 rfl (by kernel_rfl);have dc:w3.cell? ⟨w.heap.size,7,none⟩=some (.slice (some ⟨gr,0,none⟩) b.rws.length cR):=by rw[KAL w3 _ 7 _ _ _ h'.HB];rfl
    have Ex:=AI (h'.F4 d4);rw[Ex.out];refine AG rfl rfl (fun K hK=>?_);simp only[KAD,KAB,No];go_simp;refine hK.out _ _ ?_;have ex:=Ex.out;subst ex;exact⟨AY B 5,G,_,_,_,_,_,_,_,_,_,_,_,_,_,_,_,rfl,rfl,{ h' with F5:=(fun _=>rfl) }⟩
   ·
    have hbi:B 6=false:=by simpa using (AE hi).2.1
    refine AG rfl rfl (fun K hK=>?_);simp only[KAD,KAB,No];go_simp;refine hK.out _ _ ?_;exact⟨AY B 6,G,_,_,_,_,_,_,_,_,_,_,_,_,_,_,_,rfl,rfl,{ h' with F6:=(fun _=>rfl) }⟩
   ·
    have hbi:B 7=false:=by simpa using (AE hi).2.1
    have d6:B 6=true:=AH hi 6 rfl (by kernel_rfl);have dc:w3.cell? ⟨w.heap.size+1,0,none⟩=some (.int .i64 (p:Int)):=by rw[KAL w3 _ 0 _ _ _ h'.HN];rfl
    have Ex:=AI (h'.F6 d6);rw[Ex.out];refine AG rfl rfl (fun K hK=>?_);simp only[KAD,KAB,No];go_simp;refine hK.out _ _ ?_;have ex:=Ex.out;subst ex;exact⟨AY B 7,G,_,_,_,_,_,_,_,_,_,_,_,_,_,_,_,rfl,rfl,{ h' with F7:=(fun _=>rfl) }⟩
   ·
    have hbi:B 8=false:=by simpa using (AE hi).2.1
    have d5:B 5=true:=AH hi 5 rfl (by kernel_rfl);have d7:B 7=true:=AH hi 7 rfl (by kernel_rfl);have Ex:=AI (h'.F5 d5);rw[Ex.out];have Ey:=AI (h'.F7 d7);rw[Ey.out];refine AG rfl rfl (fun K hK=>?_);simp only[KAD,KAB,No];go_simp;refine hK.out _ _ ?_;have ex:=Ex.out;subst ex;have ey:=Ey.out;subst ey;exact⟨AY B 8,G,_,_,_,_,_,_,_,_,_,_,_,_,_,_,_,rfl,rfl,{ h' with F8:=(fun _=>rfl) }⟩
   ·
    have hbi:B 9=false:=by simpa using (AE hi).2.1
    have d8:B 8=true:=AH hi 8 rfl (by kernel_rfl)
    have hac:B 13=false:=by
     cases e:B 13 with
     |false=>rfl
     |true=>exact absurd (h'.F13 e).1.1 (by rw[hbi];simp)
    have dc:w3.cell? ⟨gr,p,none⟩=some (.slice au Z.length cu):=((h'.HO hac).cell lr2).trans XD.out;have Ex:=AI (h'.F8 d8);rw[Ex.out];refine AG rfl rfl (fun K hK=>?_);simp only[KAD,KAB,No];go_simp;refine hK.out _ _ ?_;have ex:=Ex.out;subst ex;exact⟨AY B 9,G,_,_,_,_,_,_,_,_,_,_,_,_,_,_,_,rfl,rfl,{ h' with F13:=(fun q=>absurd (h'.F13 q).1.1 (by rw[hbi];simp)),P13:=(fun q=>absurd (h'.F13 q).1.1 (by rw[hbi];simp)),F15:=(fun q=>absurd (h'.F13 (h'.F15 q).1).1.1 (by rw[hbi];simp)),F9:=(fun _=>rfl) }⟩
   ·
    have hbi:B 10=false:=by simpa using (AE hi).2.1
    refine AG rfl rfl (fun K hK=>?_);simp only[KAD,KAB,No];go_simp;refine hK.out _ _ ?_;exact⟨AY B 10,G,_,_,_,_,_,_,_,_,_,_,_,_,_,_,_,rfl,rfl,{ h' with F10:=(fun _=>rfl) }⟩
   ·
    have hbi:B 11=false:=by simpa using (AE hi).2.1
    have d10:B 10=true:=AH hi 10 rfl (by kernel_rfl);have dc:w3.cell? ⟨w.heap.size+1,2,none⟩=some (.int .i64 ev):=by rw[KAL w3 _ 2 _ _ _ h'.HN];rfl
    have Ex:=AI (h'.F10 d10);rw[Ex.out];refine AG rfl rfl (fun K hK=>?_);simp only[KAD,KAB,No];go_simp;refine hK.out _ _ ?_;have ex:=Ex.out;subst ex;exact⟨AY B 11,G,_,_,_,_,_,_,_,_,_,_,_,_,_,_,_,rfl,rfl,{ h' with F11:=(fun _=>rfl) }⟩
   ·
    have hbi:B 12=false:=by simpa using (AE hi).2.1
    have d11:B 11=true:=AH hi 11 rfl (by kernel_rfl)
    have hac:B 13=false:=by
     cases e:B 13 with
     |false=>rfl
     |true=>exact absurd (h'.F13 e).1.2 (by rw[hbi];simp)
    have KQ:=h'.HO hac;have sq:=KQ.size;have Ex:=AI (h'.F11 d11);rw[Ex.out];refine AG rfl rfl (fun K hK=>?_);simp only[KAD,KAB,No];go_simp;refine hK.out _ _ ?_;have ex:=Ex.out;subst ex;exact⟨AY B 12,w3.heap.size,_,_,_,_,_,_,_,_,_,_,_,_,_,_,_,rfl,rfl,{ h' with F13:=(fun q=>absurd (h'.F13 q).1.2 (by rw[hbi];simp)),P13:=(fun q=>absurd (h'.F13 q).1.2 (by rw[hbi];simp)),F15:=(fun q=>absurd (h'.F13 (h'.F15 q).1).1.2 (by rw[hbi];simp)),HB:=(KAW ((AC.refl w3).alloc _) w.heap.size (by omega)).trans h'.HB,HN:=(KAW ((AC.refl w3).alloc _) (w.heap.size+1) (by omega)).trans h'.HN,HS:=KAU h'.HS ((AC.refl w3).alloc _).size,HO:=(fun q=>(h'.HO q).alloc _),F12:=(fun _=>⟨rfl,fun _=>AO (AC.refl _) 0⟩) }⟩
   ·
    have hbi:B 13=false:=by simpa using (AE hi).2.1
    have d9:B 9=true:=AH hi 9 rfl (by kernel_rfl);have d12:B 12=true:=AH hi 12 rfl (by kernel_rfl);have KQ:=h'.HO hbi;have sq:=KQ.size;obtain⟨eG,cG⟩:=h'.F12 d12;have cG2:=cG hbi;have HR:=KAs XO.out KQ.grownBy (by cases (Value.slice au Z.length cu).ownBlock<;>simp);have Ex:=AI (h'.F9 d9);rw[Ex.out];have Ey:=AI (eG);rw[Ey.out];refine AG rfl rfl (fun K hK=>?_);simp only[KAD,KAB,No];clear eG;refine EY _ _ 25 rfl m 2 i0 (.int .i64 0) 1 8 Tryz.underlying25 hii hz0 hz1 hz2 rfl (by decide) (.slice au Z.length cu) Z.length (Z.map (Value.int .i64)) rfl HR ⟨G,0,none⟩ 1 1 [.int .i64 ev] rfl rfl (fun j u hu=>?_) (fun u hu=>by simp at hu;subst hu;rfl) (by unfold maxLen;omega) (by omega) (by omega) ?_
    ·
     match j,hu with
     | 0,hu=>simp at hu;subst hu;simpa [Addr.add] using cG2
    intro vz wz oz gz bz;simp only[Act.put,KAR,KAa,KAc];refine hK.out _ _ ?_;have ex:=Ex.out;subst ex;have ey:=Ey.out;subst ey;have vv:∀q,w.heap.size<=q->q<wc.heap.size->wz.heap[q]? = w3.heap[q]?:=fun q h1 h2=>gz.block q (by omega) (fun e=>qh.out q h1 ⟨.rw p,hpr,by show (rv.getD p AF).ownBlock=_;rw[XU.out];exact e.symm⟩)
    obtain⟨P1,P2,P3⟩:=(XH3.out.keep KQ).Zy hr (u:=vz) (zs:=Z++[ev]) (by rw[XU.out];exact gz) (by rw[XU.out];rcases bz with e|e;exact .inl e;exact .inr (.inl e)) (B8 oz) rfl;obtain⟨a5,q5,hv5,-⟩:=(B8 oz).rd;rw[KAJ,KA5] at hv5;have TQ:=(iH.out.keep KQ).grown gz (fun k hk=>⟨.rw p,hpr,by show (rv.getD p AF).ownBlock=_;rw[XU.out];exact hk⟩)
    have BQ:∀g,vz.ownBlock=some g->Fg ⟨.slice aW nW cW,.slice (some ⟨gp,0,none⟩) b.AM.length cP,.slice (some ⟨gl,0,none⟩) b.AQ.length cL,.slice aN nN cQ,.slice aX nX cX,.slice aS nS cS,.slice aF nF cF,.slice (some ⟨gr,0,none⟩) b.rws.length cR⟩ rv g\/w.heap.size<=g:=fun g hg=>by
     rcases bz with e|e
     . exact .inl ⟨.rw p,hpr,by show (rv.getD p AF).ownBlock=_;rw[XU.out,<-e];exact hg⟩
     ·
      rw[e] at hg;have:=KAI hg;right;omega
    exact⟨AY B 13,G,_,_,_,_,_,_,_,_,_,_,_,_,_,_,_,rfl,rfl,{ h' with HB:=(vv w.heap.size (by omega) (by omega)).trans h'.HB,HN:=(vv (w.heap.size+1) (by omega) (by omega)).trans h'.HN,HS:=KAU h'.HS gz.size,HO:=(fun q=>by cases q),F12:=(fun _=>⟨rfl,fun q=>by cases q⟩),F13:=(fun _=>⟨⟨d9,d12⟩,a5,q5,hv5⟩),P13:=(fun _ _=>⟨P1,P2,P3,TQ,BQ⟩),F15:=(fun q=>absurd (h'.F15 q).1 (by rw[hbi];simp)) }⟩
   ·
    have hbi:B 14=false:=by simpa using (AE hi).2.1
    have d1:B 1=true:=AH hi 1 rfl (by kernel_rfl);have d3:B 3=true:=AH hi 3 rfl (by kernel_rfl);have Ex:=AI (h'.F1 d1);rw[Ex.out];have Ey:=AI (h'.F3 d3);rw[Ey.out];refine AG rfl rfl (fun K hK=>?_);simp only[KAD,KAB,No];go_simp;refine hK.out _ _ ?_;have ex:=Ex.out;subst ex;have ey:=Ey.out;subst ey;exact⟨AY B 14,G,_,_,_,_,_,_,_,_,_,_,_,_,_,_,_,rfl,rfl,{ h' with F14:=(fun _=>rfl) }⟩
   ·
    have hbi:B 15=false:=by simpa using (AE hi).2.1
    have d13:B 13=true:=AH hi 13 rfl (by kernel_rfl);have d14:B 14=true:=AH hi 14 rfl (by kernel_rfl);obtain⟨P1,P2,P3,P4,P5⟩:=h'.P13 d13 hbi;obtain⟨-,a5,q5,e9⟩:=h'.F13 d13;have HP1:=AI P1;have gs:=Ad w3 gr p x31;have ngr:∀q,w.heap.size<=q->gr≠q:=fun q hq e=>qh.out q hq ⟨.rws,trivial,by show some gr=_;rw[e]⟩
    clear P1;have Ex:=AI (h'.F14 d14);rw[Ex.out];have Ey:=AI (e9);rw[Ey.out];refine AG rfl rfl (fun K hK=>?_);simp only[KAD,KAB,No];clear e9;go_simp;refine hK.out _ _ ?_;have ex:=Ex.out;subst ex;have ey:=Ey.out;subst ey;have P1:=HP1.out;exact⟨AY B 15,G,_,_,_,_,_,_,_,_,_,_,_,_,_,_,_,rfl,rfl,{ h' with HB:=(gs.block w.heap.size (by have:=h'.HS;omega) (fun e=>ngr _ (KAM _) (KAI e).symm)).trans h'.HB,HN:=(gs.block (w.heap.size+1) (by have:=h'.HS;omega) (fun e=>ngr _ (by omega) (KAI e).symm)).trans h'.HN,HS:=KAU h'.HS gs.size,HO:=(fun q=>Gs d13 q),F12:=(fun q=>⟨(h'.F12 q).1,fun r=>Gs d13 r⟩),P13:=(fun _ q=>by cases q),F15:=(fun _=>⟨d13,P1,(P4.grown gs (fun g hg=>⟨.rws,trivial,hg⟩)).more (fun g hg=>by rcases Wm hpr hg with q|q;exact .inl q;exact P5 g q)⟩) }⟩
  ·
   rintro listed a w3 ⟨B,G,x18,x19,x20,x21,x22,x23,x24,x25,x26,x27,x28,x29,x30,x31,x32,rfl,rfl,h'⟩ hr;have hall:=Dx hr rfl (by kernel_rfl);have b15:B 15=true:=hall 15 (by simp);clear hall;obtain⟨HB,HN,HS,HO,F0,F1,F2,F3,F4,F5,F6,F7,F8,F9,F10,F11,F12,F13,P13,F14,F15⟩:=h';clear hr;obtain⟨-,Q2,Q3⟩:=F15 b15;have HQ2:=AI Q2;have HQ3:=AI Q3;clear Q2 Q3 HB HN HS HO F0 F1 F2 F3 F4 F5 F6 F7 F8 F9 F10 F11 F12 F13 P13 F14 F15;go_wp2;go_end0;exact⟨rfl,_,by rw[XZ.out];exact HQ2.out,HQ3.out⟩
abbrev Pw (p x l:Int):Obj:= .cells #[.int .i64 p,.int .i64 x,.int .i64 l] 155
theorem Lm:(Tryz.prog.info? 155).map (·.size)=some 3:=by kernel_rfl
abbrev mr (w:World)(B:Nat)(a0 a1 a2:Value):World:=((w.setCell ⟨B,0,none⟩ a0).setCell ⟨B,1,none⟩ a1).setCell ⟨B,2,none⟩ a2
theorem qQ {w:World}{B:Nat}{T:TypeId}{b0 b1 b2:Value}(h:w.heap[B]? = some (.cells #[b0,b1,b2] T))(a0 a1 a2:Value):
  (mr w B a0 a1 a2).heap[B]? = some (.cells #[a0,a1,a2] T):=by
 have h0:=KAt w B 0 _ _ a0 h;have h1:=KAt _ B 1 _ _ a1 h0;exact KAt _ B 2 _ _ a2 h1
theorem aJ {w wr:World}(h:AC w wr){g:Nat}(hg:w.heap.size<=g)(i:Nat)(x:Value):AC w (wr.setCell ⟨g,i,none⟩ x):=
 h.grown (row:=some g) ⟨rfl,rfl,rfl,by simp,fun k _ hk=>KBM wr ⟨g,i,none⟩ k x (fun e=>hk (by simp[e]))⟩ (fun k hk=>by simp at hk;omega)
theorem aI {w wr:World}(h:AC w wr){g:Nat}(hg:w.heap.size<=g)(a0 a1 a2:Value):AC w (mr wr g a0 a1 a2):=aJ (aJ (aJ h hg 0 a0) hg 1 a1) hg 2 a2
theorem OC (w:World)(v:BV)(AA:List (List Dd))(b:Bd)(p:Nat)(h:Cw w v AA b)(hp:p<b.AM.length)(hq:p<b.AQ.length):
  Calls Tryz.prog 176 #[v.agg,.int .i64 p] w fun e w'=>e = .returned (.agg #[.int .i64 p,.int .i64 (b.AM.getD p 0),.int .i64 (b.AQ.getD p 0)])/\AC w w':=by
 obtain⟨aW,aP,aL,aN,aX,aS,aF,aR,cW,cP,cL,cN,cX,cS,cF,cR,rfl⟩:=h.shapes;obtain⟨w1,hw1⟩:∃W:World,W=(w.alloc (.cells #[.slice aW AA.length cW,.slice aP b.AM.length cP,.slice aL b.AQ.length cL,.slice aN b.AJ.length cN,.slice aX b.AK.length cX,.slice aS b.sn.length cS,.slice aF b.fr.length cF,.slice aR b.rws.length cR] 103)).alloc (Pw 0 0 0):=⟨_,rfl⟩;have K1:AC w w1:=by rw[hw1];exact ((AC.refl w).alloc _).alloc _
 have s1:w1.heap.size=w.heap.size+2:=by rw[hw1,AD,AD]
 have hR1:w1.heap[w.heap.size+1]? = some (.cells #[.int .i64 0,.int .i64 0,.int .i64 0] 155 (0,0)):=by
  rw[hw1,<-AD w (.cells #[.slice aW AA.length cW,.slice aP b.AM.length cP,.slice aL b.AQ.length cL,.slice aN b.AJ.length cN,.slice aX b.AK.length cX,.slice aS b.sn.length cS,.slice aF b.fr.length cF,.slice aR b.rws.length cR] 103)];exact KAX _ _
 have hB1:w1.heap[w.heap.size]? = some (.cells #[.slice aW AA.length cW,.slice aP b.AM.length cP,.slice aL b.AQ.length cL,.slice aN b.AJ.length cN,.slice aX b.AK.length cX,.slice aS b.sn.length cS,.slice aF b.fr.length cF,.slice aR b.rws.length cR] 103 (0,0)):=by rw[hw1];exact (KAW ((AC.refl _).alloc _) _ (by rw[AD];omega)).trans (KAX _ _)
 have h':=h.keep K1;obtain⟨a',c',he',hP⟩:=h'.P;simp only[KAT,KA8] at he';obtain⟨rfl,rfl⟩:=he';rcases hP with h0|⟨bp,op,rfl,hbp,hcp⟩
 . exfalso;rw[h0] at hp;simp at hp
 obtain⟨a',c',he',hL⟩:=h'.L;simp only[KAT,KA8] at he';obtain⟨rfl,rfl⟩:=he';rcases hL with h0|⟨bl,ol,rfl,hbl,hcl⟩
 . exfalso;rw[h0] at hq;simp at hq
 have d1:=hcp p hp;have d2:=hcl p hq;have f1:w1.cell? ⟨w.heap.size,1,none⟩=some (.slice (some ⟨bp,op,none⟩) b.AM.length cP):=by rw[KAL w1 _ 1 _ _ _ hB1];rfl
 have f2:w1.cell? ⟨w.heap.size,2,none⟩=some (.slice (some ⟨bl,ol,none⟩) b.AQ.length cL):=by rw[KAL w1 _ 2 _ _ _ hB1];rfl
 have g0:w1.cell? ⟨w.heap.size+1,0,none⟩=some (.int .i64 0):=by rw[KAL w1 _ 0 _ _ _ hR1];rfl
 have g1:w1.cell? ⟨w.heap.size+1,1,none⟩=some (.int .i64 0):=by rw[KAL w1 _ 1 _ _ _ hR1];rfl
 have g2:w1.cell? ⟨w.heap.size+1,2,none⟩=some (.int .i64 0):=by rw[KAL w1 _ 2 _ _ _ hR1];rfl
 have hfr:=fun j=>KA1 w1 (w.heap.size+1) j _ _ hR1
 have i1:(0:Int)<=(p:Int):=KAK _;have i2:(p:Int)<(b.AM.length:Int):=by omega
 have i3:(p:Int)<(b.AQ.length:Int):=by omega
 generalize b.AM.getD p 0=xp at *;generalize b.AQ.getD p 0=xl at *;have S:=fun (W:World) (e:W.heap=w1.heap)=>qQ (w:=W) (B:=w.heap.size+1) (by rw[e];exact hR1) (.int .i64 p) (.int .i64 xp) (.int .i64 xl)
 have HS:=AI S;clear S hcp hcl h h';go_enter Tryz.func176,Tryz.ntmps176
 go_upto_region 1 with fail
 rw[<-hw1];clear hw1 hB1 hR1;go_region
 go_wp2;refine KA7 (Aw (by rfl) _ _ (w.heap.size+1) _ _ _ _ rfl (HS.out w1 rfl) Tryz.underlying155 rfl Lm) rfl ?_;exact⟨rfl,(aI K1 (by omega) _ _ _).drew⟩
theorem He {w:World}{B:Nat}{T:TypeId}{a0 a1 a2:Value}(h:w.heap[B]? = some (.cells #[a0,a1,a2] T)):w.cell? ⟨B,0,none⟩=some a0/\w.cell? ⟨B,1,none⟩=some a1/\w.cell? ⟨B,2,none⟩=some a2/\∀j,w.frozen? ⟨B,j,none⟩=false:=
 ⟨by rw[KAL w _ 0 _ _ _ h];rfl,by rw[KAL w _ 1 _ _ _ h];rfl,by rw[KAL w _ 2 _ _ _ h];rfl,fun j=>KA1 w B j _ _ h⟩
theorem Uq (w:World)(v:BV)(AA:List (List Dd))(b:Bd)(c p:Nat)(h:Cw w v AA b)(hc:c<b.AJ.length)(hp:p<b.AM.length)(hq:p<b.AQ.length)(hz:MS AA b):
  Calls Tryz.prog 175 #[v.agg,.int .i64 c,.int .i64 p] w fun e w'=>∃y:Nt,e = .returned (.agg #[.int .i64 y.1,.int .i64 y.2.1,.int .i64 y.2.2])/\y.2=C7 b c p/\AC w w':=by
 obtain⟨aW,aP,aL,aN,aX,aS,aF,aR,cW,cP,cL,cN,cX,cS,cF,cR,rfl⟩:=h.shapes;have CS:=fun (W:World) (kW:AC w W)=>OC W _ AA b p (h.keep kW) hp hq
 have HA:=AI (YK b c p);have hzn:=hz.n2 c hc;obtain⟨w1,hw1⟩:∃W:World,W=(w.alloc (.cells #[.slice aW AA.length cW,.slice aP b.AM.length cP,.slice aL b.AQ.length cL,.slice aN b.AJ.length cN,.slice aX b.AK.length cX,.slice aS b.sn.length cS,.slice aF b.fr.length cF,.slice aR b.rws.length cR] 103)).alloc (Pw 0 0 0):=⟨_,rfl⟩;have K1:AC w w1:=by rw[hw1];exact ((AC.refl w).alloc _).alloc _
 have s1:w1.heap.size=w.heap.size+2:=by rw[hw1,AD,AD]
 have hR1:w1.heap[w.heap.size+1]? = some (.cells #[.int .i64 0,.int .i64 0,.int .i64 0] 155 (0,0)):=by
  rw[hw1,<-AD w (.cells #[.slice aW AA.length cW,.slice aP b.AM.length cP,.slice aL b.AQ.length cL,.slice aN b.AJ.length cN,.slice aX b.AK.length cX,.slice aS b.sn.length cS,.slice aF b.fr.length cF,.slice aR b.rws.length cR] 103)];exact KAX _ _
 have hB1:w1.heap[w.heap.size]? = some (.cells #[.slice aW AA.length cW,.slice aP b.AM.length cP,.slice aL b.AQ.length cL,.slice aN b.AJ.length cN,.slice aX b.AK.length cX,.slice aS b.sn.length cS,.slice aF b.fr.length cF,.slice aR b.rws.length cR] 103 (0,0)):=by rw[hw1];exact (KAW ((AC.refl _).alloc _) _ (by rw[AD];omega)).trans (KAX _ _)
 have h':=h.keep K1;obtain⟨a',c',he',hN⟩:=h'.N;simp only[KAT,KA8] at he';obtain⟨rfl,rfl⟩:=he';rcases hN with h0|⟨bn,on,rfl,hbn,hcn⟩
 . exfalso;rw[h0] at hc;simp at hc
 obtain⟨vn,d3,r3⟩:=hcn c hc;obtain⟨an,cn,rfl,r3⟩:=r3;clear hcn h h' hz;generalize b.AJ.getD c []=ns at *;generalize b.AM.getD p 0=xp at *;generalize b.AQ.getD p 0=xl at *;generalize C7 b c p=ANS at *;have i1:(0:Int)<=(c:Int):=KAK _;have i2:(c:Int)<(b.AJ.length:Int):=by omega
 go_enter Tryz.func175,Tryz.ntmps175
 go_upto_region 1 with fail
 rw[<-hw1];clear hw1;go_wp2_with (first|refine KAq rfl 103 _ rfl w.heap.size rfl 103 _ (0,0) _ hB1 Tryz.underlying103 rfl AR ?_|fail)
 refine (CS _ K1).mono ?_;rintro e w2 ⟨rfl,k2⟩;have K2:=K1.trans k2;have z2:=k2.size;have hB2:=(KAW k2 w.heap.size (by omega)).trans hB1;have hR2:=(KAW k2 (w.heap.size+1) (by omega)).trans hR1;obtain⟨w3,hw3⟩:∃W:World,W=w2.alloc (Pw p xp xl):=⟨_,rfl⟩;have k3:AC w2 w3:=by rw[hw3];exact (AC.refl w2).alloc _
 have z3:w3.heap.size=w2.heap.size+1:=by rw[hw3,AD]
 have hS3:w3.heap[w2.heap.size]? = some (.cells #[.int .i64 p,.int .i64 xp,.int .i64 xl] 155 (0,0)):=by rw[hw3];exact KAX _ _
 have f3:w3.cell? ⟨w.heap.size,3,none⟩=some (.slice (some ⟨bn,on,none⟩) b.AJ.length cN):=by rw[k3.cell (by omega),KAL w2 _ 3 _ _ _ hB2];rfl
 have d4:=((k2.trans k3).cell hbn).trans d3;have hbn3:bn<w3.heap.size:=by omega
 clear hB1 hB2 hR1 CS d3;go_upto_region 2 with fail
 rw[<-hw3];clear hw3;go_wp2;go_loopw [19] (fun i wr=>∃k:Nat,∃y:Nt,k<=ns.length/\i = .int .i64 k/\Hid (y=ML ns (p:Int) ((p:Int),xp,xl) k)/\wr.heap[w2.heap.size]? = some (.cells #[.int .i64 y.1,.int .i64 y.2.1,.int .i64 y.2.2] 155 (0,0))/\AC w2 wr/\w2.heap.size<wr.heap.size) (fun i _=>ns.length-(intOf i).toNat)
 case atStart=>exact⟨0,((p:Int),xp,xl),KAb _,rfl,AI rfl,hS3,k3,by omega⟩
 case round=>
  obtain⟨k,y,hk,rfl,hY,hS,hK,zr⟩:=hrel;by_cases hlt:k<ns.length
  ·
   rcases r3 with h|⟨bq,oq,rfl,hbq,hcq⟩
   . exfalso;rw[h] at hlt;simp at hlt
   obtain⟨g0,g1,g2⟩:=yD (hcq k _ (Ky hlt));have q0:=((k2.trans hK).cell hbq).trans g0;have q1:=((k2.trans hK).cell hbq).trans g1;have q2:=((k2.trans hK).cell hbq).trans g2;have HM:=AI (Ur ns (p:Int) ((p:Int),xp,xl) k hlt);have hbw:bq<wr.heap.size:=by have:=hK.size;omega
   have j1:(0:Int)<=(k:Int):=KAK _;have j2:(k:Int)<(ns.length:Int):=by omega
   clear hcq g0 g1 g2;change Hid (_=if (ns.getD k zN).1=_ then ns.getD k zN else _) at HM;generalize ns.getD k zN=x at *;obtain⟨x0,x1,x2⟩:=x;obtain⟨y0,y1,y2⟩:=y;simp only at q0 q1 q2 HM hS;obtain⟨w4,hw4⟩:∃W:World,W=wr.alloc (Pw x0 x1 x2):=⟨_,rfl⟩;have k4:AC wr w4:=by rw[hw4];exact (AC.refl wr).alloc _
   have z4:w4.heap.size=wr.heap.size+1:=by rw[hw4,AD]
   obtain⟨n0,n1,n2,-⟩:=He (w:=w4) (B:=wr.heap.size) (T:=155) (a0:= .int .i64 x0) (a1:= .int .i64 x1) (a2:= .int .i64 x2) (by rw[hw4];exact KAX _ _);have hS4:=(KAW k4 _ zr).trans hS;obtain⟨m0,m1,m2,hfr⟩:=He hS4;have S:=qQ hS4 (.int .i64 x0) (.int .i64 x1) (.int .i64 x2);have KS:=aI (hK.trans k4) (KAM w2.heap.size) (.int .i64 x0) (.int .i64 x1) (.int .i64 x2);by_cases t:x0=(p:Int)
   ·
    have HE:Hid (ML ns (p:Int) ((p:Int),xp,xl) (k+1)=(x0,x1,x2)):=AI (by rw[HM.out,KAP t]);subst t;go_upto_region 5 with fail
    rw[<-hw4];clear hw4 HM hY;go_wp2;go_roundw;case rel=>exact⟨k+1,((p:Int),x1,x2),by omega,by go_num,AI HE.out.symm,S,KS,by simp;omega⟩
    case measure=>simp[intOf];omega
   ·
    have HE:Hid (ML ns (p:Int) ((p:Int),xp,xl) (k+1)=(y0,y1,y2)):=AI (by rw[HM.out,KAQ t,<-hY.out]);have t':(x0==(p:Int))=false:=by simpa using t
    clear S KS;go_upto_region 5 with fail
    rw[<-hw4];clear hw4 HM hY t;go_wp2;go_roundw;case rel=>exact⟨k+1,(y0,y1,y2),by omega,by go_num,AI HE.out.symm,hS4,hK.trans k4,by omega⟩
    case measure=>simp[intOf];omega
  have HE:Hid (y.2=ANS):=AI (by rw[<-HA.out,hY.out,show k=ns.length by omega]);obtain rfl:k=ns.length:=by omega
  clear hY HA;obtain⟨y0,y1,y2⟩:=y;obtain⟨n0,n1,n2,-⟩:=He hS;have hR3:=(KAW hK (w.heap.size+1) (by omega)).trans hR2;obtain⟨m0,m1,m2,hfr⟩:=He hR3;have S:=qQ hR3 (.int .i64 y0) (.int .i64 y1) (.int .i64 y2);have KS:=aI (K2.trans hK) (g:=w.heap.size+1) (by omega) (.int .i64 y0) (.int .i64 y1) (.int .i64 y2);simp only at n0 n1 n2;go_wp2;refine KA7 (Aw (by rfl) _ _ (w.heap.size+1) _ _ _ _ rfl S Tryz.underlying155 rfl Lm) rfl ?_;exact⟨y0,y1,y2,rfl,HE.out,KS⟩
end Go.Proofs.YtflehmepjhikcaaGreatDoor
