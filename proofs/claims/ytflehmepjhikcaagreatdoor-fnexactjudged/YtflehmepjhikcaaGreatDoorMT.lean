/- Gathered texts. -/
import Derived.Test.YtflehmepjhikcaaGreatDoorMJ
import Derived.Test.YtflehmepjhikcaaGreatDoorMS
import Derived.BigQuiet
import Derived.RegionTactic
import Derived.Deep.Cut
set_option maxRecDepth 100000
set_option maxHeartbeats 8000000
namespace Go.Proofs.YtflehmepjhikcaaGreatDoor
open Go.ChangeShapes Go.WideShapes Go.ChangeAt Go.RowKit
abbrev KBv:=@Nat.lt_of_le_of_lt
abbrev KB6:=@Nat.le_of_lt
theorem Sg (w:World)(v:Value)(zs:List Int)(h:Rd w v zs)(hn:zs.length<=1048576)(n:Int)(i:Nat)(hi:i<zs.length)(he:zs.getD i 0=n)(hno:∀q,q<i->zs.getD q 0≠n):
  Calls Tryz.prog 174 #[v,.int .i64 n] w fun e w'=>e = .returned (.int .i64 (i:Int))/\w'=w:=by
 obtain⟨a,c,rfl,h⟩:=h;have HN:=AI hno;have HE:=AI he;clear hno he;go_enter Tryz.func174,Tryz.ntmps174
 go_wp2;go_loop [8] (fun s=>∃k:Nat,k<=i/\s = .int .i64 k) (fun s=>zs.length-(intOf s).toNat)
 case atStart=>exact⟨0,KAb _,rfl⟩
 case round=>
  obtain⟨k,hk,rfl⟩:=hrel;rcases h with h|⟨b,o,rfl,hb,hc⟩
  . exfalso;rw[h] at hi;simp at hi
  have d1:=hc k (by omega);have i1:(0:Int)<=(k:Int):=KAK _;have i2:(k:Int)<(zs.length:Int):=by omega
  clear hc;by_cases e:k=i
  ·
   rw[e,HE.out] at d1;rw[e];rw[e] at i1 i2;have hb:(n==n)=true:=by simp
   go_wp2;go_ret;exact⟨rfl,rfl⟩
  ·
   have hne:=HN.out k (by omega);obtain⟨p,hp⟩:∃p,p=zs.getD k 0:=⟨_,rfl⟩;rw[<-hp] at d1 hne;clear hp;have hb:(n==p)=false:=by simp;exact fun h=>hne h.symm
   go_wp2;go_round
   case rel=>exact⟨k+1,by omega,by go_num⟩
   case measure=>simp[intOf];omega
structure rP (w:World)(w1:World)(b:Bd)(AA:List (List Dd))(c:Nat)(k:Nat)(bw:Nat)(ow:Nat)(cW:Nat)(gx:Nat)(cX:Nat)(bd:Nat)(od:Nat)(dn:Nat)(cd:Nat)(y0:Int)(y1:Int)(y2:Int)(y3:Int)(P:Bool)(B:Nat->Bool)  (x4 x11 x12 x13 x14 x15 x16 x17 x18 x19 x20 x21 x22 x23:Value)(w3:World):Prop where
 HK:AC w1 w3
 F0:B 0=true->x11 = .pointer (some ⟨w.heap.size,0,none⟩)
 F1:B 1=true->x12 = .slice (some ⟨bw,ow,none⟩) AA.length cW
 F2:B 2=true->x13 = .int .i64 (c:Int)
 F3:B 3=true->x14 = .pointer (some ⟨bw,ow+c,none⟩)
 F4:B 4=true->x15 = .slice (some ⟨bd,od,none⟩) dn (dn+cd)
 F5:B 5=true->x16 = .pointer (some ⟨w.heap.size,4,none⟩)
 F6:B 6=true->x17 = .slice (some ⟨gx,0,none⟩) b.AK.length cX
 F7:B 7=true->x18 = .int .i64 (c:Int)
 F8:B 8=true->x19 = .pointer (some ⟨gx,c,none⟩)
 F9:B 9=true->x20 = .int .i64 (k:Int)
 F10:B 10=true->x21 = .pointer (some ⟨bd,od+k*4,none⟩)
 F11:B 11=true->x22 = .agg #[.int .i64 y0,.int .i64 y1,.int .i64 y2,.int .i64 y3]
 F12:B 12=true->x23 = .bool P
 F13:B 13=true->x4 = .bool P
structure rT (wc:World)(b:Bd)(AA:List (List Dd))(es:List Ev)(c:Nat)(j:Nat)(i:Nat)(p:Nat)(r1:Int)(r2:Int)(bw:Nat)(ow:Nat)(cW:Nat)(gx:Nat)(cX:Nat)(aP:Option Addr)(cP:Nat)(aL:Option Addr)(cL:Nat)(aN:Option Addr)(cQ:Nat)(aS:Option Addr)(cS:Nat)(aF:Option Addr)(cF:Nat)(aR:Option Addr)(cR:Nat)(ge:Nat)(ce:Nat)(Eb:Nat)(Nb:Nat)(B:Nat->Bool)(G:Nat)(x9 x10 x60 x61 x62 x63 x64 x65 x66 x67 x68 x69:Value)(w3:World):Prop where
 HK:AC wc w3
 F0:B 0=true->x60 = .slice (some ⟨ge,0,none⟩) es.length (es.length+ce)
 F1:B 1=true->B 12=false->Rd w3 x61 (AW Af es)
 F2:B 2=true->x62 = .pointer (some ⟨Nb,2,none⟩)
 F3:B 3=true->x63 = .int .i64 (j:Int)
 F4:B 4=true->x64 = .int .i64 (i:Int)
 F5:B 5=true->x65 = .agg #[.slice (some ⟨bw,ow,none⟩) AA.length cW,.slice aP b.AM.length cP,.slice aL b.AQ.length cL,.slice aN b.AJ.length cQ,.slice (some ⟨gx,0,none⟩) b.AK.length cX,.slice aS b.sn.length cS,.slice aF b.fr.length cF,.slice aR b.rws.length cR]
 F6:B 6=true->x66 = .int .i64 (c:Int)
 F7:B 7=true->x67 = .pointer (some ⟨Eb,3,none⟩)
 F8:B 8=true->x68 = .int .i64 (p:Int)
 F9:B 9=true->∃y:Int,x69 = .agg #[.int .i64 y,.int .i64 r1,.int .i64 r2]
 F10:B 10=true->x10 = .pointer (some ⟨G,0,none⟩)/\wc.heap.size<=G/\G<w3.heap.size/\(B 12=false->w3.heap[G]? = some (.cells #[.int .i64 0,.int .i64 0,.int .i64 0] 155 (0,0)))
 F11:B 11=true->x9 = .int .i64 (i:Int)
 F12:B 12=true->B 10=true/\w3.cell? ⟨G,1,none⟩=some (.int .i64 r1)/\w3.cell? ⟨G,2,none⟩=some (.int .i64 r2)
 F13:B 12=true->B 4=true
structure gP (w:World)(wc:World)(b:Bd)(AA:List (List Dd))(es:List Ev)(c:Nat)(k:Nat)(j:Nat)(p:Nat)(P:Bool)(bw:Nat)(ow:Nat)(cW:Nat)(gx:Nat)(cX:Nat)(aP:Option Addr)(cP:Nat)(aL:Option Addr)(cL:Nat)(aN:Option Addr)(cQ:Nat)(aS:Option Addr)(cS:Nat)(aF:Option Addr)(cF:Nat)(aR:Option Addr)(cR:Nat)(w2:World)(m:Nat)(bs:Nat)(N:Nat)(nv:List Value)(rv:List Value)(nv':List Value)(rv':List Value)(gn:Nat)(au:Option Addr)(cu:Nat)(Z:List Nt)(x4:Int)(B:Nat->Bool)(G:Nat)(x84 x85 x86 x87 x88 x89 x90 x91 x92 x93 x94 x95:Value)(w3:World):Prop where
 HS:wc.heap.size<=w3.heap.size
 HO:B 10=false->AC wc w3
 HC:w3.cell? ⟨w.heap.size,3,none⟩=some (.slice (some ⟨gn,0,none⟩) b.AJ.length cQ)
 F0:B 0=true->x84 = .pointer (some ⟨w.heap.size,3,none⟩)
 F1:B 1=true->x85 = .slice (some ⟨gn,0,none⟩) b.AJ.length cQ
 F2:B 2=true->x86 = .int .i64 (c:Int)
 F3:B 3=true->x87 = .pointer (some ⟨w.heap.size,3,none⟩)
 F4:B 4=true->x88 = .slice (some ⟨gn,0,none⟩) b.AJ.length cQ
 F5:B 5=true->x89 = .int .i64 (c:Int)
 F6:B 6=true->x90 = .pointer (some ⟨gn,c,none⟩)
 F7:B 7=true->x91 = .slice au Z.length cu
 F8:B 8=true->x92 = .agg #[.int .i64 (p:Int),.int .i64 x4,.int .i64 (j:Int)]
 F9:B 9=true->x93 = .slice (some ⟨G,0,none⟩) 1 1/\(B 10=false->w3.heap[G]? = some (.cells #[.int .i64 (p:Int),.int .i64 x4,.int .i64 (j:Int)] 155 (0,0)))
 F10:B 10=true->(B 7=true/\B 8=true/\B 9=true)/\∃a c,x94 = .slice a (Z.length+1) c
 P10:B 10=true->B 12=false->AU (w3.setCell ⟨gn,c,none⟩ x94) m w.heap.size ⟨.slice (some ⟨bw,ow,none⟩) AA.length cW,.slice aP b.AM.length cP,.slice aL b.AQ.length cL,.slice aN b.AJ.length cQ,.slice (some ⟨gx,0,none⟩) b.AK.length cX,.slice aS b.sn.length cS,.slice aF b.fr.length cF,.slice aR b.rws.length cR⟩ (nv'.set c x94) rv' bs N AA { (DP es (AW Af es) c k P b j) with AJ:=(DP es (AW Af es) c k P b j).AJ.set c (Z++[((p:Int),x4,(j:Int))]) }/\w3.cell? ⟨gn,c,none⟩=some (nv'.getD c AF)/\w3.frozen? ⟨gn,c,none⟩=false/\Ai w2 w3 (Bo w.heap.size ⟨.slice (some ⟨bw,ow,none⟩) AA.length cW,.slice aP b.AM.length cP,.slice aL b.AQ.length cL,.slice aN b.AJ.length cQ,.slice (some ⟨gx,0,none⟩) b.AK.length cX,.slice aS b.sn.length cS,.slice aF b.fr.length cF,.slice aR b.rws.length cR⟩ nv rv) (Bo w.heap.size ⟨.slice (some ⟨bw,ow,none⟩) AA.length cW,.slice aP b.AM.length cP,.slice aL b.AQ.length cL,.slice aN b.AJ.length cQ,.slice (some ⟨gx,0,none⟩) b.AK.length cX,.slice aS b.sn.length cS,.slice aF b.fr.length cF,.slice aR b.rws.length cR⟩ nv' rv')/\(∀g,x94.ownBlock=some g->(Bo w.heap.size ⟨.slice (some ⟨bw,ow,none⟩) AA.length cW,.slice aP b.AM.length cP,.slice aL b.AQ.length cL,.slice aN b.AJ.length cQ,.slice (some ⟨gx,0,none⟩) b.AK.length cX,.slice aS b.sn.length cS,.slice aF b.fr.length cF,.slice aR b.rws.length cR⟩ nv' rv') g\/w2.heap.size<=g)
 F11:B 11=true->x95 = .pointer (some ⟨gn,c,none⟩)
 F12:B 12=true->B 10=true/\AU w3 m w.heap.size ⟨.slice (some ⟨bw,ow,none⟩) AA.length cW,.slice aP b.AM.length cP,.slice aL b.AQ.length cL,.slice aN b.AJ.length cQ,.slice (some ⟨gx,0,none⟩) b.AK.length cX,.slice aS b.sn.length cS,.slice aF b.fr.length cF,.slice aR b.rws.length cR⟩ (nv'.set c x94) rv' bs N AA { (DP es (AW Af es) c k P b j) with AJ:=(DP es (AW Af es) c k P b j).AJ.set c (Z++[((p:Int),x4,(j:Int))]) }/\Ai w2 w3 (Bo w.heap.size ⟨.slice (some ⟨bw,ow,none⟩) AA.length cW,.slice aP b.AM.length cP,.slice aL b.AQ.length cL,.slice aN b.AJ.length cQ,.slice (some ⟨gx,0,none⟩) b.AK.length cX,.slice aS b.sn.length cS,.slice aF b.fr.length cF,.slice aR b.rws.length cR⟩ nv rv) (Bo w.heap.size ⟨.slice (some ⟨bw,ow,none⟩) AA.length cW,.slice aP b.AM.length cP,.slice aL b.AQ.length cL,.slice aN b.AJ.length cQ,.slice (some ⟨gx,0,none⟩) b.AK.length cX,.slice aS b.sn.length cS,.slice aF b.fr.length cF,.slice aR b.rws.length cR⟩ (nv'.set c x94) rv')
 F13:B 9=true->B 8=true
theorem Jn (w:World)(m:Nat)(v:BV)(nv rv:List Value)(bs N:Nat)(AA:List (List Dd))(b:Bd)(n c:Nat)(h:BT w m v nv rv bs N AA b)(S:Ee AA b n)(hn:n<=1000)(hm:m<=w.heap.size)(hc:c<AA.length)(h0:0<=b.AK.getD c 0)(hk:Am b c<(AA.getD c []).length)(h3:(Aj AA c (Am b c)).1=3->b.AJ.getD c []=[]):
  Calls Tryz.prog 168 #[v.agg,.int .i64 c] w fun e w'=>e = .returned (.tuple #[])/\∃nv' rv',BT w' m v nv' rv' bs N AA (Ah AA (AB AA) b c)/\Ai w w' (Dz v nv rv) (Dz v nv' rv'):=by
 have gZ:=AI (oh S.work hc b hk h0 h3);obtain⟨k,hkz⟩:=KAn h0;have hkn:Am b c=k:=by unfold Am;rw[hkz];rfl
 rw[hkn] at gZ hk;have lZ:=AI (fun j (hj:j<(AB AA).length) hh=>iq S.work (c:=c) (k:=k) hc hk hj hh);have ny:=AI (VS S c k (EW (Aj AA c k)));have Yx:=AI (QZ (AB AA) (AW Af (AB AA)) c k (EW (Aj AA c k)) b);have hd3:AA.length<=1048576:=by have:=(BM S.work).1;omega
 have hd5:∀i,i<AA.length->(AA.getD i []).length<=1048576:=fun i hi=>by have:=Dy S.work hi;omega
 have lX:c<b.AK.length:=by rw[S.AK];exact hc
 have XS:=AI S;obtain⟨aW,aP,aL,aN,aX,aS,aF,aR,cW,cP,cL,cQ,cX,cS,cF,cR,rfl⟩:=h.rd0.shapes;have O1:=h.box hm;have NB:Hid (∀g,Dz ⟨.slice aW AA.length cW,.slice aP b.AM.length cP,.slice aL b.AQ.length cL,.slice aN b.AJ.length cQ,.slice aX b.AK.length cX,.slice aS b.sn.length cS,.slice aF b.fr.length cF,.slice aR b.rws.length cR⟩ nv rv g->g<w.heap.size):=AI (fun g hg=>(h.blk g hg).2.1);obtain⟨gx,cx,ex,-⟩:=O1.oX.lit lX;simp only[KAT] at ex;obtain⟨rfl,-,rfl⟩:=ex;obtain⟨a',c',ew,hW⟩:=O1.rd.W;simp only[KAT] at ew;obtain⟨rfl,-,rfl⟩:=ew;rcases hW with q|⟨bw,ow,rfl,hbw,hcw⟩
 . exfalso;rw[q] at hc;simp at hc
 obtain⟨vd,dw,rd⟩:=hcw c hc;obtain⟨ad,cd,rfl,rd⟩:=rd;rcases rd with q|⟨bd,od,rfl,hbd,hcd⟩
 . exfalso;rw[q] at hk;simp at hk
 obtain⟨y0,y1,y2,y3,hy⟩:∃y0 y1 y2 y3,Aj AA c k=(y0,y1,y2,y3):=⟨_,_,_,_,rfl⟩;have hq:=hcd k hk;rw[show (AA.getD c []).getD k zD=(y0,y1,y2,y3) from hy] at hq;obtain⟨dn,hdn⟩:∃dn,dn=(AA.getD c []).length:=⟨_,rfl⟩;rw[<-hdn] at dw hk;have HDN:=AI hdn;clear hdn;obtain⟨w1,hw1⟩:∃W:World,W=w.alloc (.cells #[.slice (some ⟨bw,ow,none⟩) AA.length cW,.slice aP b.AM.length cP,.slice aL b.AQ.length cL,.slice aN b.AJ.length cQ,.slice (some ⟨gx,0,none⟩) b.AK.length cX,.slice aS b.sn.length cS,.slice aF b.fr.length cF,.slice aR b.rws.length cR] 103):=⟨_,rfl⟩;have yh:w1.heap.size=w.heap.size+1:=by rw[hw1,AD]
 have K01:AC w w1:=by rw[hw1];exact (AC.refl w).alloc _
 replace O1:AU w1 m w.heap.size ⟨.slice (some ⟨bw,ow,none⟩) AA.length cW,.slice aP b.AM.length cP,.slice aL b.AQ.length cL,.slice aN b.AJ.length cQ,.slice (some ⟨gx,0,none⟩) b.AK.length cX,.slice aS b.sn.length cS,.slice aF b.fr.length cF,.slice aR b.rws.length cR⟩ nv rv bs N AA b:=by rw[hw1];exact O1
 replace dw:w1.cell? ⟨bw,ow+c,none⟩=some (.slice (some ⟨bd,od,none⟩) dn (dn+cd)):=by rw[hw1];exact dw
 replace hq:Tl w1 bd (od+k*4) (y0,y1,y2,y3):=by rw[hw1];exact hq
 replace hbw:bw<w1.heap.size:=by rw[hw1];exact hbw
 replace hbd:bd<w1.heap.size:=by rw[hw1];exact hbd
 obtain⟨gx',cx',ex,lX1,dX,-⟩:=O1.oX.lit lX;simp only[KAT,KAg,KA6,KBX,KA8] at ex;obtain⟨rfl,rfl⟩:=ex;have l8:=dX c lX;rw[hkz] at l8;have XC:Hid (w1.cell? ⟨w.heap.size,0,none⟩=some (.slice (some ⟨bw,ow,none⟩) AA.length cW)/\w1.cell? ⟨w.heap.size,4,none⟩=some (.slice (some ⟨gx,0,none⟩) b.AK.length cX)/\w1.cell? ⟨bw,ow+c,none⟩=some (.slice (some ⟨bd,od,none⟩) dn (dn+cd))/\w1.cell? ⟨gx,c,none⟩=some (.int .i64 (k:Int))/\w1.cell? ⟨bd,od+k*4,none⟩=some (.int .i64 y0)/\w1.cell? ⟨bd,od+k*4+1,none⟩=some (.int .i64 y1)/\w1.cell? ⟨bd,od+k*4+2,none⟩=some (.int .i64 y2)/\w1.cell? ⟨bd,od+k*4+3,none⟩=some (.int .i64 y3)):=AI ⟨O1.cells.1,O1.cells.2.2.2.2.1,dw,l8,hq.1,hq.2.1,hq.2.2.1,hq.2.2.2⟩;have XW:=AI O1.rd.W;have XO:=AI O1;have CP:∀W:World,Calls Tryz.prog 167 #[.agg #[.int .i64 y0,.int .i64 y1,.int .i64 y2,.int .i64 y3]] W fun e w'=>e = .returned (.bool (EW (Aj AA c k)))/\AC W w':=fun W=>by rw[hy];exact MC W y0 y1 y2 y3
 have lD:w.heap.size<w1.heap.size:=by omega
 have lW:=hbw;have lY:=hbd;have i1:(0:Int)<=(c:Int):=KAK _;have i2:(c:Int)<(AA.length:Int):=by omega
 have i3:(c:Int)<(b.AK.length:Int):=by omega
 have i4:(0:Int)<=(k:Int):=KAK _;have i5:(k:Int)<(dn:Int):=by omega
 obtain⟨P,hP⟩:∃P,P=EW (Aj AA c k):=⟨_,rfl⟩;rw[<-hP] at CP gZ ny Yx;clear hcw hcd hq dw l8 dX O1 h S h3 hP hy;go_enter Tryz.func168,Tryz.ntmps168
 go_upto_region 1 with fail
 rw[<-hw1];clear hw1;go_cut [4] from 5 (fun s4 wx=>s4 = .bool P/\AC w1 wx)
 case first=>
  go_wp2_with fail
  refine Bv (by kernel_rfl) (fun listed a w3=>∃(B:Nat->Bool)  (x4 x11 x12 x13 x14 x15 x16 x17 x18 x19 x20 x21 x22 x23:Value),listed=#[B 0,B 1,B 2,B 3,B 4,B 5,B 6,B 7,B 8,B 9,B 10,B 11,B 12,B 13]/\a=⟨#[.agg #[.slice (some ⟨bw,ow,none⟩) AA.length cW,.slice aP b.AM.length cP,.slice aL b.AQ.length cL,.slice aN b.AJ.length cQ,.slice (some ⟨gx,0,none⟩) b.AK.length cX,.slice aS b.sn.length cS,.slice aF b.fr.length cF,.slice aR b.rws.length cR],.int .i64 (c:Int),.pointer (some ⟨w.heap.size,0,none⟩),undef,x4,undef,undef,undef,undef,undef,undef,x11,x12,x13,x14,x15,x16,x17,x18,x19,x20,x21,x22,x23,undef,undef,undef,undef,undef,undef,undef,undef,undef,undef,undef,undef,undef,undef,undef,undef,undef,undef,undef,undef,undef,undef,undef,undef,undef,undef,undef,undef,undef,undef,undef,undef,undef,undef,undef,undef,undef,undef,undef,undef,undef,undef,undef,undef,undef,undef,undef,undef,undef,undef,undef,undef,undef,undef,undef,undef,undef,undef,undef,undef,undef,undef,undef,undef,undef,undef,undef,undef,undef,undef,undef,undef,undef,undef,undef,undef,undef,undef,undef,undef],[]⟩/\rP w w1 b AA c k bw ow cW gx cX bd od dn cd y0 y1 y2 y3 P B x4 x11 x12 x13 x14 x15 x16 x17 x18 x19 x20 x21 x22 x23 w3) ?_ ?_ ?_
  . exact⟨fun _=>false,undef,undef,undef,undef,undef,undef,undef,undef,undef,undef,undef,undef,undef,undef,rfl,rfl,⟨(AC.refl w1).drew,(fun q=>by cases q),(fun q=>by cases q),(fun q=>by cases q),(fun q=>by cases q),(fun q=>by cases q),(fun q=>by cases q),(fun q=>by cases q),(fun q=>by cases q),(fun q=>by cases q),(fun q=>by cases q),(fun q=>by cases q),(fun q=>by cases q),(fun q=>by cases q),(fun q=>by cases q)⟩⟩
  ·
   rintro listed a w3 ⟨B,x4,x11,x12,x13,x14,x15,x16,x17,x18,x19,x20,x21,x22,x23,rfl,rfl,h'⟩ i hi;have hlt:=(AE hi).1;have hcs:i=0\/i=1\/i=2\/i=3\/i=4\/i=5\/i=6\/i=7\/i=8\/i=9\/i=10\/i=11\/i=12\/i=13:=by simp at hlt;omega
   rcases hcs with rfl|rfl|rfl|rfl|rfl|rfl|rfl|rfl|rfl|rfl|rfl|rfl|rfl|rfl
   ·
    have hbi:B 0=false:=by simpa using (AE hi).2.1
    refine AG rfl rfl (fun K hK=>?_);simp only[KAD,No];go_simp;refine hK.out _ _ ?_;exact⟨AY B 0,_,_,_,_,_,_,_,_,_,_,_,_,_,_,rfl,rfl,{ h' with F0:=(fun _=>rfl) }⟩
   ·
    have hbi:B 1=false:=by simpa using (AE hi).2.1
    have d0:B 0=true:=AH hi 0 rfl (by kernel_rfl);have dc:=(h'.HK.cell lD).trans XC.out.1;have Eq0:=AI (h'.F0 d0);rw[Eq0.out];refine AG rfl rfl (fun K hK=>?_);simp only[KAD,KAB,No];go_simp;refine hK.out _ _ ?_;have eq0:=Eq0.out;subst eq0;exact⟨AY B 1,_,_,_,_,_,_,_,_,_,_,_,_,_,_,rfl,rfl,{ h' with F1:=(fun _=>rfl) }⟩
   ·
    have hbi:B 2=false:=by simpa using (AE hi).2.1
    refine AG rfl rfl (fun K hK=>?_);simp only[KAD,KAB,No];go_simp;refine hK.out _ _ ?_;exact⟨AY B 2,_,_,_,_,_,_,_,_,_,_,_,_,_,_,rfl,rfl,{ h' with F2:=(fun _=>rfl) }⟩
   ·
    have hbi:B 3=false:=by simpa using (AE hi).2.1
    have d1:B 1=true:=AH hi 1 rfl (by kernel_rfl);have d2:B 2=true:=AH hi 2 rfl (by kernel_rfl);have Eq1:=AI (h'.F1 d1);rw[Eq1.out];have Eq2:=AI (h'.F2 d2);rw[Eq2.out];refine AG rfl rfl (fun K hK=>?_);simp only[KAD,KAB,No];go_simp;refine hK.out _ _ ?_;have eq1:=Eq1.out;subst eq1;have eq2:=Eq2.out;subst eq2;exact⟨AY B 3,_,_,_,_,_,_,_,_,_,_,_,_,_,_,rfl,rfl,{ h' with F3:=(fun _=>rfl) }⟩
   ·
    have hbi:B 4=false:=by simpa using (AE hi).2.1
    have d3:B 3=true:=AH hi 3 rfl (by kernel_rfl);have dc:=(h'.HK.cell lW).trans XC.out.2.2.1;have Eq3:=AI (h'.F3 d3);rw[Eq3.out];refine AG rfl rfl (fun K hK=>?_);simp only[KAD,KAB,No];go_simp;refine hK.out _ _ ?_;have eq3:=Eq3.out;subst eq3;exact⟨AY B 4,_,_,_,_,_,_,_,_,_,_,_,_,_,_,rfl,rfl,{ h' with F4:=(fun _=>rfl) }⟩
   ·
    have hbi:B 5=false:=by simpa using (AE hi).2.1
    refine AG rfl rfl (fun K hK=>?_);simp only[KAD,KAB,No];go_simp;refine hK.out _ _ ?_;exact⟨AY B 5,_,_,_,_,_,_,_,_,_,_,_,_,_,_,rfl,rfl,{ h' with F5:=(fun _=>rfl) }⟩
   ·
    have hbi:B 6=false:=by simpa using (AE hi).2.1
    have d5:B 5=true:=AH hi 5 rfl (by kernel_rfl);have dc:=(h'.HK.cell lD).trans XC.out.2.1;have Eq5:=AI (h'.F5 d5);rw[Eq5.out];refine AG rfl rfl (fun K hK=>?_);simp only[KAD,KAB,No];go_simp;refine hK.out _ _ ?_;have eq5:=Eq5.out;subst eq5;exact⟨AY B 6,_,_,_,_,_,_,_,_,_,_,_,_,_,_,rfl,rfl,{ h' with F6:=(fun _=>rfl) }⟩
   ·
    have hbi:B 7=false:=by simpa using (AE hi).2.1
    refine AG rfl rfl (fun K hK=>?_);simp only[KAD,KAB,No];go_simp;refine hK.out _ _ ?_;exact⟨AY B 7,_,_,_,_,_,_,_,_,_,_,_,_,_,_,rfl,rfl,{ h' with F7:=(fun _=>rfl) }⟩
   ·
    have hbi:B 8=false:=by simpa using (AE hi).2.1
    have d6:B 6=true:=AH hi 6 rfl (by kernel_rfl);have d7:B 7=true:=AH hi 7 rfl (by kernel_rfl);have Eq6:=AI (h'.F6 d6);rw[Eq6.out];have Eq7:=AI (h'.F7 d7);rw[Eq7.out];refine AG rfl rfl (fun K hK=>?_);simp only[KAD,KAB,No];go_simp;refine hK.out _ _ ?_;have eq6:=Eq6.out;subst eq6;have eq7:=Eq7.out;subst eq7;exact⟨AY B 8,_,_,_,_,_,_,_,_,_,_,_,_,_,_,rfl,rfl,{ h' with F8:=(fun _=>rfl) }⟩
   ·
    have hbi:B 9=false:=by simpa using (AE hi).2.1
    have d8:B 8=true:=AH hi 8 rfl (by kernel_rfl);have dc:=(h'.HK.cell lX1).trans XC.out.2.2.2.1;have Eq8:=AI (h'.F8 d8);rw[Eq8.out];refine AG rfl rfl (fun K hK=>?_);simp only[KAD,KAB,No];go_simp;refine hK.out _ _ ?_;have eq8:=Eq8.out;subst eq8;exact⟨AY B 9,_,_,_,_,_,_,_,_,_,_,_,_,_,_,rfl,rfl,{ h' with F9:=(fun _=>rfl) }⟩
   ·
    have hbi:B 10=false:=by simpa using (AE hi).2.1
    have d4:B 4=true:=AH hi 4 rfl (by kernel_rfl);have d9:B 9=true:=AH hi 9 rfl (by kernel_rfl);have Eq4:=AI (h'.F4 d4);rw[Eq4.out];have Eq9:=AI (h'.F9 d9);rw[Eq9.out];refine AG rfl rfl (fun K hK=>?_);simp only[KAD,KAB,No];go_simp;refine hK.out _ _ ?_;have eq4:=Eq4.out;subst eq4;have eq9:=Eq9.out;subst eq9;exact⟨AY B 10,_,_,_,_,_,_,_,_,_,_,_,_,_,_,rfl,rfl,{ h' with F10:=(fun _=>rfl) }⟩
   ·
    have hbi:B 11=false:=by simpa using (AE hi).2.1
    have d10:B 10=true:=AH hi 10 rfl (by kernel_rfl);have e0:=(h'.HK.cell lY).trans XC.out.2.2.2.2.1;have e1:=(h'.HK.cell lY).trans XC.out.2.2.2.2.2.1;have e2:=(h'.HK.cell lY).trans XC.out.2.2.2.2.2.2.1;have e3:=(h'.HK.cell lY).trans XC.out.2.2.2.2.2.2.2;have Eq10:=AI (h'.F10 d10);rw[Eq10.out];refine AG rfl rfl (fun K hK=>?_);simp only[KAD,KAB,No];go_simp;refine hK.out _ _ ?_;have eq10:=Eq10.out;subst eq10;exact⟨AY B 11,_,_,_,_,_,_,_,_,_,_,_,_,_,_,rfl,rfl,{ h' with F11:=(fun _=>rfl) }⟩
   ·
    have hbi:B 12=false:=by simpa using (AE hi).2.1
    have d11:B 11=true:=AH hi 11 rfl (by kernel_rfl);have Eq11:=AI (h'.F11 d11);rw[Eq11.out];refine AG rfl rfl (fun K hK=>?_);simp only[KAD,KAB,No];go_simp;refine (CP _).mono ?_;rintro e wz ⟨rfl,kk⟩;go_wp2_with fail
    refine hK.out _ _ ?_;have eq11:=Eq11.out;subst eq11;exact⟨AY B 12,_,_,_,_,_,_,_,_,_,_,_,_,_,_,rfl,rfl,{ h' with F12:=(fun _=>rfl),HK:=h'.HK.trans kk }⟩
   ·
    have hbi:B 13=false:=by simpa using (AE hi).2.1
    have d12:B 12=true:=AH hi 12 rfl (by kernel_rfl);have Eq12:=AI (h'.F12 d12);rw[Eq12.out];refine AG rfl rfl (fun K hK=>?_);simp only[KAD,KAB,No];go_simp;refine hK.out _ _ ?_;have eq12:=Eq12.out;subst eq12;exact⟨AY B 13,_,_,_,_,_,_,_,_,_,_,_,_,_,_,rfl,rfl,{ h' with F13:=(fun _=>rfl) }⟩
  ·
   rintro listed a w3 ⟨B,x4,x11,x12,x13,x14,x15,x16,x17,x18,x19,x20,x21,x22,x23,rfl,rfl,h'⟩ hr;have hall:=Dx hr rfl (by kernel_rfl);have b13:B 13=true:=hall 13 (by simp);clear hall;obtain⟨HK,F0,F1,F2,F3,F4,F5,F6,F7,F8,F9,F10,F11,F12,F13⟩:=h';clear hr;have e4:=F13 b13;subst e4;have HQ:=AI HK;clear HK F0 F1 F2 F3 F4 F5 F6 F7 F8 F9 F10 F11 F12 F13;go_wp2;go_meet;case rel=>exact⟨rfl,HQ.out⟩
 case rest=>
  obtain⟨rfl,KQ⟩:=hcut;have z0:=(KQ.cell lD).trans XC.out.1;go_wp2_with fail
  refine (Dg wc _ AA (XW.out.keep KQ) hd3 hd5).mono ?_;rintro e w2 ⟨v2,rfl,A2,k2⟩;obtain⟨es,hes⟩:∃es,es=AB AA:=⟨_,rfl⟩;rw[<-hes] at A2;have K2:=KQ.trans k2;have hbase:=KQ.size;obtain⟨ae,ce,he2,-⟩:=id A2.rd;subst he2;clear z0 k2
  have h3e:3<=(AB AA).length:=by
   obtain⟨t,ht⟩:=Gz AA 0 AA.length (KAb _);rw[AB,KAP XS.out.work,ht,KAJ];show 3<=3+t.length;omega
  have h9e:=BO AA
  obtain⟨ge,hge⟩:∃ge,ae=some ⟨ge,0,none⟩:=by
   rcases A2.2 with ⟨q1,q2⟩|⟨g,cap,cur,e,_⟩
   ·
    exfalso;have q3:es.length=0:=q2;rw[<-hes] at h3e;omega
   ·
    simp only[KAT] at e;exact⟨g,e.1⟩
  subst hge;rw[<-hes] at h3e h9e gZ lZ ny Yx;have O2:=XO.out.keep K2;have NBX:Hid (∀g,wc.heap.size<=g->¬Bo w.heap.size ⟨.slice (some ⟨bw,ow,none⟩) AA.length cW,.slice aP b.AM.length cP,.slice aL b.AQ.length cL,.slice aN b.AJ.length cQ,.slice (some ⟨gx,0,none⟩) b.AK.length cX,.slice aS b.sn.length cS,.slice aF b.fr.length cF,.slice aR b.rws.length cR⟩ nv rv g):=AI (fun g hg hB=>by have:=(XO.out.blk g hB).2.1;omega)
  have XR:Hid (∀(W:World) (F':Nat->Prop),Ai w2 W (Bo w.heap.size ⟨.slice (some ⟨bw,ow,none⟩) AA.length cW,.slice aP b.AM.length cP,.slice aL b.AQ.length cL,.slice aN b.AJ.length cQ,.slice (some ⟨gx,0,none⟩) b.AK.length cX,.slice aS b.sn.length cS,.slice aF b.fr.length cF,.slice aR b.rws.length cR⟩ nv rv) F'->Yu W (.slice (some ⟨ge,0,none⟩) es.length (es.length+ce)) es):=AI (fun W F' t=>by
   have A3:GV W wc.heap.size (.slice (some ⟨ge,0,none⟩) es.length (es.length+ce)) es:=E5 (r:=⟨85,6,_,_,_⟩) A2 (fun g hg=>t.block g (KAY A2 g hg).2 (NBX.out g (KAY A2 g hg).1))
   exact A3.rd)
  have XE:Hid (∀(W:World) (F':Nat->Prop),Ai w2 W (Bo w.heap.size ⟨.slice (some ⟨bw,ow,none⟩) AA.length cW,.slice aP b.AM.length cP,.slice aL b.AQ.length cL,.slice aN b.AJ.length cQ,.slice (some ⟨gx,0,none⟩) b.AK.length cX,.slice aS b.sn.length cS,.slice aF b.fr.length cF,.slice aR b.rws.length cR⟩ nv rv) F'->∀(j:Nat),j<es.length->∀(x0 x1:Int) (x2:Bool) (x3 x4 x5:Int),es.getD j zE=(x0,x1,x2,x3,x4,x5)->ge<W.heap.size/\W.cell? ⟨ge,j*6,none⟩=some (.int .i64 x0)/\W.cell? ⟨ge,j*6+1,none⟩=some (.int .i64 x1)/\W.cell? ⟨ge,j*6+2,none⟩=some (.bool x2)/\W.cell? ⟨ge,j*6+3,none⟩=some (.int .i64 x3)/\W.cell? ⟨ge,j*6+4,none⟩=some (.int .i64 x4)/\W.cell? ⟨ge,j*6+5,none⟩=some (.int .i64 x5)):=AI (fun W F' t j hj x0 x1 x2 x3 x4 x5 hx=>by
   obtain⟨a',c',he',hE⟩:=XR.out W F' t;simp only[KAT,KA8] at he';rcases hE with q|⟨bq,oq,eq,hbq,hcq⟩
   . exfalso;rw[q] at hj;simp at hj
   rw[eq] at he';simp only[KAg,KA6,KBX] at he';obtain⟨⟨rfl,rfl⟩,-⟩:=he';have hev:es[j]? = some (x0,x1,x2,x3,x4,x5):=by rw[<-hx,IT,KAH hj];rfl
   have at6:=qw (hcq j _ hev);rw[KBC] at at6
   exact⟨hbq,at6⟩)
  have nK:=AI hes;have K02:AC w w2:=K01.trans K2;have s2:wc.heap.size<=w2.heap.size:=by have:=KAY A2 ge rfl;omega
  clear hes A2 XO XW XC CP hd3 hd5;go_wp2;go_loopw [6,7,8,9,10,29] (fun _ _ _ _ _ i wr=>∃(j:Nat) (nv' rv':List Value),j<=es.length/\i = .int .i64 j/\AU wr m w.heap.size ⟨.slice (some ⟨bw,ow,none⟩) AA.length cW,.slice aP b.AM.length cP,.slice aL b.AQ.length cL,.slice aN b.AJ.length cQ,.slice (some ⟨gx,0,none⟩) b.AK.length cX,.slice aS b.sn.length cS,.slice aF b.fr.length cF,.slice aR b.rws.length cR⟩ nv' rv' bs N AA (DP es (AW Af es) c k P b j)/\Ai w2 wr (Bo w.heap.size ⟨.slice (some ⟨bw,ow,none⟩) AA.length cW,.slice aP b.AM.length cP,.slice aL b.AQ.length cL,.slice aN b.AJ.length cQ,.slice (some ⟨gx,0,none⟩) b.AK.length cX,.slice aS b.sn.length cS,.slice aF b.fr.length cF,.slice aR b.rws.length cR⟩ nv rv) (Bo w.heap.size ⟨.slice (some ⟨bw,ow,none⟩) AA.length cW,.slice aP b.AM.length cP,.slice aL b.AQ.length cL,.slice aN b.AJ.length cQ,.slice (some ⟨gx,0,none⟩) b.AK.length cX,.slice aS b.sn.length cS,.slice aF b.fr.length cF,.slice aR b.rws.length cR⟩ nv' rv')) (fun _ _ _ _ _ i _=>es.length-(intOf i).toNat)
  case atStart=>exact⟨0,nv,rv,KAb _,rfl,O2,Ai.refl _ _⟩
  case round=>
   obtain⟨j,nv',rv',hj,rfl,OJ,TJ⟩:=hrel;clear O2;obtain⟨gx',cx',ex',vT,qy,fXJ⟩:=OJ.oX.lit (k:=c) (by rw[Yx.out];exact lX);rw[Yx.out] at ex' qy;simp only[KAT,KAg,KA6,KBX,KA8] at ex';obtain⟨rfl,rfl⟩:=ex';have l8:=qy c lX;have fXc:=fXJ c;rw[hkz] at l8;have c4:wr.cell? ⟨w.heap.size,4,none⟩=some (.slice (some ⟨gx,0,none⟩) b.AK.length cX):=OJ.cells.2.2.2.2.1;have lDJ:=OJ.base.2;clear qy fXJ;by_cases hlt:j<es.length
   ·
    obtain⟨x0,x1,x2,x3,x4,x5,hx⟩:∃x0 x1 x2 x3 x4 x5,es.getD j zE=(x0,x1,x2,x3,x4,x5):=⟨_,_,_,_,_,_,rfl⟩;obtain⟨lge,q0,q1,q2,q3,q4,q5⟩:=XE.out wr _ TJ j hlt x0 x1 x2 x3 x4 x5 hx;have qd:Hid (DP es (AW Af es) c k P b (j+1)=Rg (AW Af es) c k P (DP es (AW Af es) c k P b j) j (x0,x1,x2,x3,x4,x5)):=AI (by rw[<-hx];rfl)
    have xg:Hid (x0=(c:Int)->x1=(k:Int)->∃p:Nat,p<3/\x3=(p:Int)):=AI (fun e0 e1=>by
     have:=lZ.out j hlt (by rw[hx];exact⟨e0,e1⟩);rw[hx] at this
     exact this)
    have qi:Hid (x2=true->∃i,i<(AW Af es).length/\(AW Af es).getD i 0=(j:Int)/\∀q,q<i->(AW Af es).getD q 0≠(j:Int)):=AI (fun e2=>pV (by omega) hlt (by rw[hx];exact e2));have j1:(0:Int)<=(j:Int):=KAK _;have j2:(j:Int)<(es.length:Int):=by omega
    obtain⟨w6,hw6⟩:∃W:World,W=wr.alloc (eO x0 x1 x2 x3 x4 x5):=⟨_,rfl⟩;have k6:AC wr w6:=by rw[hw6];exact (AC.refl wr).alloc _
    have s6:w6.heap.size=wr.heap.size+1:=by rw[hw6,AD]
    have XF:Hid (∀W:World,(∀g,wr.heap.size<=g->g<w6.heap.size->W.heap[g]? = w6.heap[g]?)->W.cell? ⟨wr.heap.size,0,none⟩=some (.int .i64 x0)/\W.cell? ⟨wr.heap.size,1,none⟩=some (.int .i64 x1)/\W.cell? ⟨wr.heap.size,2,none⟩=some (.bool x2)/\W.cell? ⟨wr.heap.size,3,none⟩=some (.int .i64 x3)/\W.cell? ⟨wr.heap.size,4,none⟩=some (.int .i64 x4)):=AI (fun W hW=>by
     have e:=hW wr.heap.size (KAM _) (by omega);rw[hw6,KAX] at e
     refine⟨?_,?_,?_,?_,?_⟩<;>(rw[KAL W _ _ _ _ _ e];rfl))
    obtain⟨f0,f1,f2,f3,f4⟩:=XF.out w6 (fun _ _ _=>rfl);go_upto_region 6 with fail
    rw[<-hw6];clear hw6 q0 q1 q2 q3 q4 q5 hx;have O6:=OJ.keep k6;have T6:=TJ.keep k6;have c46:=(k6.cell lDJ).trans c4;have dX6:=(k6.cell vT).trans l8;by_cases e0:x0=(c:Int)
    ·
     by_cases e1:x1=(k:Int)
     ·
      have b0:(x0 != (c:Int))=false:=by simp[e0]
      have b1:(x1 != (k:Int))=false:=by simp[e1]
      obtain⟨p,hp3,ep⟩:=xg.out e0 e1
      have qf:Hid (DP es (AW Af es) c k P b (j+1)=if x2=true then Fz (AW Af es) (DP es (AW Af es) c k P b j) (j:Int) (C7 (DP es (AW Af es) c k P b j) c p).1 (C7 (DP es (AW Af es) c k P b j) c p).2 else if P=true then { DP es (AW Af es) c k P b j with AJ:=(DP es (AW Af es) c k P b j).AJ.set c ((DP es (AW Af es) c k P b j).AJ.getD c []++[((p:Int),x4,(j:Int))]) } else EJ (DP es (AW Af es) c k P b j) p x4 (j:Int)):=AI (by
       rw[qd.out];unfold Rg;rw[KAP ⟨e0,e1⟩]
       simp only[ep,KAV])
      have SJ:=ny.out j;rw[nK.out] at SJ;have iG:Hid (Ee AA (DP es (AW Af es) c k P b j) (n+j)):=AI (by rw[nK.out];exact SJ);clear SJ qd xg;go_quiet (fail)
      obtain⟨Eb,hEb⟩:∃g,g=wr.heap.size:=⟨_,rfl⟩;obtain⟨Nb,hNb⟩:∃g,g=wr.heap.size+1:=⟨_,rfl⟩;go_upto_region 7 with fail
      go_cut [6,7,8] from 30 to 96 (fun s6 s7 s8 wx=>s6 = .int .i64 (j:Int)/\s7 = .pointer (some ⟨Eb,0,none⟩)/\s8 = .pointer (some ⟨Nb,0,none⟩)/\AU wx m w.heap.size ⟨.slice (some ⟨bw,ow,none⟩) AA.length cW,.slice aP b.AM.length cP,.slice aL b.AQ.length cL,.slice aN b.AJ.length cQ,.slice (some ⟨gx,0,none⟩) b.AK.length cX,.slice aS b.sn.length cS,.slice aF b.fr.length cF,.slice aR b.rws.length cR⟩ nv' rv' bs N AA (DP es (AW Af es) c k P b j)/\Ai w2 wx (Bo w.heap.size ⟨.slice (some ⟨bw,ow,none⟩) AA.length cW,.slice aP b.AM.length cP,.slice aL b.AQ.length cL,.slice aN b.AJ.length cQ,.slice (some ⟨gx,0,none⟩) b.AK.length cX,.slice aS b.sn.length cS,.slice aF b.fr.length cF,.slice aR b.rws.length cR⟩ nv rv) (Bo w.heap.size ⟨.slice (some ⟨bw,ow,none⟩) AA.length cW,.slice aP b.AM.length cP,.slice aL b.AQ.length cL,.slice aN b.AJ.length cQ,.slice (some ⟨gx,0,none⟩) b.AK.length cX,.slice aS b.sn.length cS,.slice aF b.fr.length cF,.slice aR b.rws.length cR⟩ nv' rv')/\(wx.cell? ⟨Eb,2,none⟩=some (.bool x2)/\wx.cell? ⟨Eb,3,none⟩=some (.int .i64 (p:Int)))/\(wx.cell? ⟨Nb,0,none⟩=some (.int .i64 (p:Int))/\wx.cell? ⟨Nb,1,none⟩=some (.int .i64 x4)/\wx.cell? ⟨Nb,2,none⟩=some (.int .i64 (j:Int)))/\Eb<wx.heap.size/\Nb<wx.heap.size)
      case first=>
       obtain⟨w7,hw7⟩:∃W:World,W=(w6.drewN nq).alloc (Pw (p:Int) x4 (j:Int)):=⟨_,rfl⟩;have k7:AC w6 w7:=by rw[hw7];exact ((AC.refl w6).drewN _).alloc _
       have n7:w7.heap[wr.heap.size+1]? = some (.cells #[.int .i64 (p:Int),.int .i64 x4,.int .i64 (j:Int)] 155 (0,0)):=by rw[hw7,show wr.heap.size+1=(w6.drewN nq).heap.size from s6.symm];exact KAX _ _
       have s7:w7.heap.size=w6.heap.size+1:=by rw[hw7,AD];rfl
       have O7:=AI (O6.keep k7);have T7:=AI (T6.keep k7);have E7:=AI (XF.out w7 (fun g _ h2=>KAW k7 g h2));have N7:=AI n7;have i9:(w6.drewN nq).heap.size=wr.heap.size+1:=s6;clear n7 k7;rw[ep] at f3;go_wp2;rw[<-hw7];clear hw7;go_meet;case rel=>exact⟨rfl,by rw[hEb],by rw[hNb],O7.out,T7.out,by rw[hEb];exact⟨E7.out.2.2.1,by rw[<-ep];exact E7.out.2.2.2.1⟩,by rw[hNb];exact⟨by rw[KAL _ _ 0 _ _ _ N7.out];rfl,by rw[KAL _ _ 1 _ _ _ N7.out];rfl,by rw[KAL _ _ 2 _ _ _ N7.out];rfl⟩,by omega,by omega⟩
      case rest=>
       obtain⟨rfl,rfl,rfl,O7,T7,hE7,hN7,lEb,yQ⟩:=hcut;clear O6 T6 OJ TJ XF f0 f1 f2 f3 f4 c46 dX6 hEb hNb k6 XE;have jW:=O7.base.2;have lc:c<(DP es (AW Af es) c k P b j).AJ.length:=by rw[iG.out.AJ];exact hc
       have lp:p<(DP es (AW Af es) c k P b j).AM.length:=by rw[iG.out.AM];exact hp3
       have ll:p<(DP es (AW Af es) c k P b j).AQ.length:=by rw[iG.out.AQ];exact hp3
       have lr:p<(DP es (AW Af es) c k P b j).rws.length:=by rw[iG.out.rws];exact hp3
       have XEb:=AI hE7;have XN:=AI hN7;have XZ:=AI O7.cells;have nu:=AI O7;have yC:=AI T7;obtain⟨e2r,e3r⟩:=hE7;obtain⟨m0,m1,m2⟩:=hN7
       cases x2 with
       |true=>
        obtain⟨i,hi1,hi2,hi3⟩:=qi.out rfl;obtain⟨r1,hr1⟩:∃r,r=(C7 (DP es (AW Af es) c k P b j) c p).1:=⟨_,rfl⟩;obtain⟨r2,hr2⟩:∃r,r=(C7 (DP es (AW Af es) c k P b j) c p).2:=⟨_,rfl⟩;have HM:Hid (DP es (AW Af es) c k P b (j+1)=Fz (AW Af es) (DP es (AW Af es) c k P b j) (j:Int) r1 r2):=AI (by rw[qf.out,KAP rfl,hr1,hr2]);replace hr1:=AI hr1;replace hr2:=AI hr2;have XRW:=AI (XR.out wc _ T7);have qm:=AI O7.rd;have XSZ:=AI (iG.out.sz (by omega));have hls:(DP es (AW Af es) c k P b j).sn.length=(AW Af es).length:=by rw[nK.out];exact (by have:=iG.out.sn;rw[nK.out] at this;exact this)
        have hlf:(DP es (AW Af es) c k P b j).fr.length=(AW Af es).length:=by rw[nK.out];exact (by have:=iG.out.fr;rw[nK.out] at this;exact this)
        clear O7 T7 qf qi m0 m1 m2 e3r;go_upto_region 10 with fail
        go_cut [9,10] from 30 to 96 (fun s9 s10 wx=>∃G:Nat,s9 = .int .i64 (i:Int)/\s10 = .pointer (some ⟨G,0,none⟩)/\AC wc wx/\¬(Bo w.heap.size ⟨.slice (some ⟨bw,ow,none⟩) AA.length cW,.slice aP b.AM.length cP,.slice aL b.AQ.length cL,.slice aN b.AJ.length cQ,.slice (some ⟨gx,0,none⟩) b.AK.length cX,.slice aS b.sn.length cS,.slice aF b.fr.length cF,.slice aR b.rws.length cR⟩ nv' rv') G/\wx.cell? ⟨G,1,none⟩=some (.int .i64 r1)/\wx.cell? ⟨G,2,none⟩=some (.int .i64 r2))
        case first=>
         go_wp2_with fail
         refine Bv (by kernel_rfl) (fun listed a w3=>∃(B:Nat->Bool) (G:Nat) (x9 x10 x60 x61 x62 x63 x64 x65 x66 x67 x68 x69:Value),listed=#[B 0,B 1,B 2,B 3,B 4,B 5,B 6,B 7,B 8,B 9,B 10,B 11,B 12]/\a=⟨#[.agg #[.slice (some ⟨bw,ow,none⟩) AA.length cW,.slice aP b.AM.length cP,.slice aL b.AQ.length cL,.slice aN b.AJ.length cQ,.slice (some ⟨gx,0,none⟩) b.AK.length cX,.slice aS b.sn.length cS,.slice aF b.fr.length cF,.slice aR b.rws.length cR],.int .i64 (c:Int),.pointer (some ⟨w.heap.size,0,none⟩),undef,.bool P,.slice (some ⟨ge,0,none⟩) es.length (es.length+ce),.int .i64 (j:Int),.pointer (some ⟨Eb,0,none⟩),.pointer (some ⟨Nb,0,none⟩),x9,x10,u11,u12,u13,u14,u15,u16,u17,u18,u19,u20,u21,u22,u23,.pointer (some ⟨w.heap.size,0,none⟩),.slice (some ⟨bw,ow,none⟩) AA.length cW,.slice (some ⟨ge,0,none⟩) es.length (es.length+ce),.slice (some ⟨ge,0,none⟩) es.length (es.length+ce),.int .i64 (es.length:Int),.int .i64 (j:Int),u30,u31,u32,u33,u34,u35,u36,u37,u38,u39,u40,u41,u42,u43,u44,u45,u46,u47,u48,u49,u50,u51,u52,u53,u54,u55,u56,.bool true,.pointer (some ⟨Eb,2,none⟩),.bool true,x60,x61,x62,x63,x64,x65,x66,x67,x68,x69,u70,u71,u72,u73,u74,u75,u76,u77,u78,u79,u80,u81,u82,u83,u84,u85,u86,u87,u88,u89,u90,u91,u92,u93,u94,u95,u96,u97,u98,u99,u100,u101,u102,u103],[]⟩/\rT wc b AA es c j i p r1 r2 bw ow cW gx cX aP cP aL cL aN cQ aS cS aF cF aR cR ge ce Eb Nb B G x9 x10 x60 x61 x62 x63 x64 x65 x66 x67 x68 x69 w3) ?_ ?_ ?_
         . exact⟨fun _=>false,0,u9,u10,u60,u61,u62,u63,u64,u65,u66,u67,u68,u69,rfl,rfl,⟨(AC.refl wc).drew,(fun q=>by cases q),(fun q=>by cases q),(fun q=>by cases q),(fun q=>by cases q),(fun q=>by cases q),(fun q=>by cases q),(fun q=>by cases q),(fun q=>by cases q),(fun q=>by cases q),(fun q=>by cases q),(fun q=>by cases q),(fun q=>by cases q),(fun q=>by cases q),(fun q=>by cases q)⟩⟩
         ·
          rintro listed a w3 ⟨B,G,x9,x10,x60,x61,x62,x63,x64,x65,x66,x67,x68,x69,rfl,rfl,h'⟩ i hi;have hlt:=(AE hi).1;have hcs:i=0\/i=1\/i=2\/i=3\/i=4\/i=5\/i=6\/i=7\/i=8\/i=9\/i=10\/i=11\/i=12:=by simp at hlt;omega
          rcases hcs with rfl|rfl|rfl|rfl|rfl|rfl|rfl|rfl|rfl|rfl|rfl|rfl|rfl
          ·
           have hbi:B 0=false:=by simpa using (AE hi).2.1
           refine AG rfl rfl (fun K hK=>?_);simp only[KAD,No];go_simp;refine hK.out _ _ ?_;exact⟨AY B 0,G,_,_,_,_,_,_,_,_,_,_,_,_,rfl,rfl,{ h' with F0:=(fun _=>rfl) }⟩
          ·
           have hbi:B 1=false:=by simpa using (AE hi).2.1
           have d0:B 0=true:=AH hi 0 rfl (by kernel_rfl);have Eq:=AI (h'.F0 d0);rw[Eq.out];refine AG rfl rfl (fun K hK=>?_);simp only[KAD,KAB,No];go_simp;refine (Dq _ _ es (XRW.out.keep h'.HK) (by omega)).mono ?_;rintro e wz ⟨vz,rfl,oz,kk⟩;go_wp2_with fail
           refine hK.out _ _ ?_;have eq:=Eq.out;subst eq;exact⟨AY B 1,G,_,_,_,_,_,_,_,_,_,_,_,_,rfl,rfl,{ h' with HK:=h'.HK.trans kk,F1:=(fun _ _=>oz.rd),F10:=(fun q=>⟨(h'.F10 q).1,(h'.F10 q).2.1,KAC (h'.F10 q).2.2.1 kk.size,fun r=>(KAW kk G (h'.F10 q).2.2.1).trans ((h'.F10 q).2.2.2 r)⟩),F12:=(fun q=>⟨(h'.F12 q).1,(kk.cell (h'.F10 (h'.F12 q).1).2.2.1).trans (h'.F12 q).2.1,(kk.cell (h'.F10 (h'.F12 q).1).2.2.1).trans (h'.F12 q).2.2⟩) }⟩
          ·
           have hbi:B 2=false:=by simpa using (AE hi).2.1
           refine AG rfl rfl (fun K hK=>?_);simp only[KAD,KAB,No];go_simp;refine hK.out _ _ ?_;exact⟨AY B 2,G,_,_,_,_,_,_,_,_,_,_,_,_,rfl,rfl,{ h' with F2:=(fun _=>rfl) }⟩
          ·
           have hbi:B 3=false:=by simpa using (AE hi).2.1
           have d2:B 2=true:=AH hi 2 rfl (by kernel_rfl);have dc:=(h'.HK.cell yQ).trans XN.out.2.2;have Eq:=AI (h'.F2 d2);rw[Eq.out];refine AG rfl rfl (fun K hK=>?_);simp only[KAD,KAB,No];go_simp;refine hK.out _ _ ?_;have eq:=Eq.out;subst eq;exact⟨AY B 3,G,_,_,_,_,_,_,_,_,_,_,_,_,rfl,rfl,{ h' with F3:=(fun _=>rfl) }⟩
          ·
           have hbi:B 4=false:=by simpa using (AE hi).2.1
           have d1:B 1=true:=AH hi 1 rfl (by kernel_rfl);have d3:B 3=true:=AH hi 3 rfl (by kernel_rfl)
           have h12f:B 12=false:=by
            cases e:B 12 with
            |false=>rfl
            |true=>exact absurd ((h'.F13 e)) (by rw[hbi];simp)
           have rr:=h'.F1 d1 h12f;obtain⟨ar,cr,er,-⟩:=id rr;have hl12:=Ew Af es;have Eq:=AI (h'.F3 d3);rw[Eq.out];have Ep:=AI (er);rw[Ep.out];refine AG rfl rfl (fun K hK=>?_);simp only[KAD,KAB,No];go_simp;refine (Sg _ _ (AW Af es) (by rw[<-Ep.out];exact rr) (by omega) _ i hi1 hi2 hi3).mono ?_;rintro e wz ⟨rfl,rfl⟩;go_wp2_with fail
           refine hK.out _ _ ?_;have eq:=Eq.out;subst eq;have ep:=Ep.out;subst ep;exact⟨AY B 4,G,_,_,_,_,_,_,_,_,_,_,_,_,rfl,rfl,{ h' with F4:=(fun _=>rfl),F13:=(fun _=>rfl) }⟩
          ·
           have hbi:B 5=false:=by simpa using (AE hi).2.1
           have z0:=(h'.HK.cell jW).trans XZ.out.1;have z1:=(h'.HK.cell jW).trans XZ.out.2.1;have z2:=(h'.HK.cell jW).trans XZ.out.2.2.1;have z3:=(h'.HK.cell jW).trans XZ.out.2.2.2.1;have z4:=(h'.HK.cell jW).trans XZ.out.2.2.2.2.1;have z5:=(h'.HK.cell jW).trans XZ.out.2.2.2.2.2.1;have z6:=(h'.HK.cell jW).trans XZ.out.2.2.2.2.2.2.1;have z7:=(h'.HK.cell jW).trans XZ.out.2.2.2.2.2.2.2;refine AG rfl rfl (fun K hK=>?_);simp only[KAD,KAB,No];go_simp;refine hK.out _ _ ?_;exact⟨AY B 5,G,_,_,_,_,_,_,_,_,_,_,_,_,rfl,rfl,{ h' with F5:=(fun _=>rfl) }⟩
          ·
           have hbi:B 6=false:=by simpa using (AE hi).2.1
           refine AG rfl rfl (fun K hK=>?_);simp only[KAD,KAB,No];go_simp;refine hK.out _ _ ?_;exact⟨AY B 6,G,_,_,_,_,_,_,_,_,_,_,_,_,rfl,rfl,{ h' with F6:=(fun _=>rfl) }⟩
          ·
           have hbi:B 7=false:=by simpa using (AE hi).2.1
           refine AG rfl rfl (fun K hK=>?_);simp only[KAD,KAB,No];go_simp;refine hK.out _ _ ?_;exact⟨AY B 7,G,_,_,_,_,_,_,_,_,_,_,_,_,rfl,rfl,{ h' with F7:=(fun _=>rfl) }⟩
          ·
           have hbi:B 8=false:=by simpa using (AE hi).2.1
           have d7:B 7=true:=AH hi 7 rfl (by kernel_rfl);have dc:=(h'.HK.cell lEb).trans XEb.out.2;have Eq:=AI (h'.F7 d7);rw[Eq.out];refine AG rfl rfl (fun K hK=>?_);simp only[KAD,KAB,No];go_simp;refine hK.out _ _ ?_;have eq:=Eq.out;subst eq;exact⟨AY B 8,G,_,_,_,_,_,_,_,_,_,_,_,_,rfl,rfl,{ h' with F8:=(fun _=>rfl) }⟩
          ·
           have hbi:B 9=false:=by simpa using (AE hi).2.1
           have d5:B 5=true:=AH hi 5 rfl (by kernel_rfl);have d6:B 6=true:=AH hi 6 rfl (by kernel_rfl);have d8:B 8=true:=AH hi 8 rfl (by kernel_rfl);have Eq:=AI (h'.F5 d5);rw[Eq.out];have Er:=AI (h'.F6 d6);rw[Er.out];have Es:=AI (h'.F8 d8);rw[Es.out];refine AG rfl rfl (fun K hK=>?_);simp only[KAD,KAB,No];go_simp;refine (Uq _ ⟨.slice (some ⟨bw,ow,none⟩) AA.length cW,.slice aP b.AM.length cP,.slice aL b.AQ.length cL,.slice aN b.AJ.length cQ,.slice (some ⟨gx,0,none⟩) b.AK.length cX,.slice aS b.sn.length cS,.slice aF b.fr.length cF,.slice aR b.rws.length cR⟩ AA (DP es (AW Af es) c k P b j) c p (qm.out.keep h'.HK) lc lp ll XSZ.out).mono ?_;rintro e wz ⟨y,rfl,hyy,kk⟩;go_wp2_with fail
           refine hK.out _ _ ?_;have eq:=Eq.out;subst eq;have er:=Er.out;subst er;have es:=Es.out;subst es;exact⟨AY B 9,G,_,_,_,_,_,_,_,_,_,_,_,_,rfl,rfl,{ h' with HK:=h'.HK.trans kk,F1:=(fun q r=>(h'.F1 q r).keep kk),F10:=(fun q=>⟨(h'.F10 q).1,(h'.F10 q).2.1,KAC (h'.F10 q).2.2.1 kk.size,fun r=>(KAW kk G (h'.F10 q).2.2.1).trans ((h'.F10 q).2.2.2 r)⟩),F12:=(fun q=>⟨(h'.F12 q).1,(kk.cell (h'.F10 (h'.F12 q).1).2.2.1).trans (h'.F12 q).2.1,(kk.cell (h'.F10 (h'.F12 q).1).2.2.1).trans (h'.F12 q).2.2⟩),F9:=(fun _=>⟨y.1,by rw[hr1.out,hr2.out]⟩) }⟩
          ·
           have hbi:B 10=false:=by simpa using (AE hi).2.1
           refine AG rfl rfl (fun K hK=>?_);simp only[KAD,KAB,No];go_simp;refine hK.out _ _ ?_;exact⟨AY B 10,w3.heap.size,_,_,_,_,_,_,_,_,_,_,_,_,rfl,rfl,{ h' with HK:=h'.HK.trans ((AC.refl w3).alloc _),F1:=(fun q r=>(h'.F1 q r).keep ((AC.refl w3).alloc _)),F10:=(fun _=>⟨rfl,h'.HK.size,by rw[AD];omega,fun _=>KAX _ _⟩),F12:=(fun q=>absurd (h'.F12 q).1 (by rw[hbi];simp)) }⟩
          ·
           have hbi:B 11=false:=by simpa using (AE hi).2.1
           have d4:B 4=true:=AH hi 4 rfl (by kernel_rfl);have Eq:=AI (h'.F4 d4);rw[Eq.out];refine AG rfl rfl (fun K hK=>?_);simp only[KAD,KAB,No];go_simp;refine hK.out _ _ ?_;have eq:=Eq.out;subst eq;exact⟨AY B 11,G,_,_,_,_,_,_,_,_,_,_,_,_,rfl,rfl,{ h' with F11:=(fun _=>rfl) }⟩
          ·
           have hbi:B 12=false:=by simpa using (AE hi).2.1
           have d4:B 4=true:=AH hi 4 rfl (by kernel_rfl);have d9:B 9=true:=AH hi 9 rfl (by kernel_rfl);have d10:B 10=true:=AH hi 10 rfl (by kernel_rfl);obtain⟨y,ey⟩:=h'.F9 d9;obtain⟨eG,g1,g2,g3⟩:=h'.F10 d10;have hz0:=g3 hbi;have gg:=As w3 G #[.int .i64 y,.int .i64 r1,.int .i64 r2];have hh:=KBs w3 G _ #[.int .i64 y,.int .i64 r1,.int .i64 r2] _ _ hz0;have kG:AC wc _:=h'.HK.grown gg (fun q hq=>by have:=KAI hq;omega);have Eq:=AI (ey);rw[Eq.out];have Er:=AI (eG);rw[Er.out];refine AG rfl rfl (fun K hK=>?_);simp only[KAD,KAB,No];clear ey eG;refine wp_store_row 155 _ _ rfl G _ rfl rfl 155 _ hz0 Lm rfl (by simp[Value.oneCell']) ?_;refine hK.out _ _ ?_;have eq:=Eq.out;subst eq;have er:=Er.out;subst er;exact⟨AY B 12,G,_,_,_,_,_,_,_,_,_,_,_,_,rfl,rfl,{ h' with HK:=kG,F1:=(fun _ q=>by cases q),F9:=(fun _=>⟨y,rfl⟩),F10:=(fun _=>⟨rfl,g1,KAC g2 gg.size,fun q=>by cases q⟩),F12:=(fun _=>⟨d10,by rw[KAL _ _ 1 _ _ _ hh];rfl,by rw[KAL _ _ 2 _ _ _ hh];rfl⟩),F13:=(fun _=>d4) }⟩
         ·
          rintro listed a w3 ⟨B,G,x9,x10,x60,x61,x62,x63,x64,x65,x66,x67,x68,x69,rfl,rfl,h'⟩ hr;have hall:=Dx hr rfl (by kernel_rfl);have b10:B 10=true:=hall 10 (by simp);have b11:B 11=true:=hall 11 (by simp);have b12:B 12=true:=hall 12 (by simp);clear hall;obtain⟨HK,F0,F1,F2,F3,F4,F5,F6,F7,F8,F9,F10,F11,F12,F13⟩:=h';clear hr;obtain⟨-,Q1,Q2⟩:=F12 b12;obtain⟨e10,g1,g2,-⟩:=F10 b10;have e9:=F11 b11;subst e10 e9;have HQ:=AI HK;have HQ1:=AI Q1;have HQ2:=AI Q2;clear Q1 Q2 HK F0 F1 F2 F3 F4 F5 F6 F7 F8 F9 F10 F11 F12 F13;go_wp2;go_meet;case rel=>exact⟨G,rfl,rfl,HQ.out,fun hB=>by have:=(nu.out.blk G hB).2.1;omega,HQ1.out,HQ2.out⟩
        case rest=>
         obtain⟨G,rfl,rfl,KG,lG,t1,t2⟩:=hcut;have O8:=nu.out.keep KG;have T8:=yC.out.keep KG;obtain⟨gs,cs',es',ls,ds,fs⟩:=O8.oS.lit (k:=i) (by rw[hls];exact hi1);have vS:BV.S ⟨.slice (some ⟨bw,ow,none⟩) AA.length cW,.slice aP b.AM.length cP,.slice aL b.AQ.length cL,.slice aN b.AJ.length cQ,.slice (some ⟨gx,0,none⟩) b.AK.length cX,.slice aS b.sn.length cS,.slice aF b.fr.length cF,.slice aR b.rws.length cR⟩ = .slice (some ⟨gs,0,none⟩) (DP es (AW Af es) c k P b j).sn.length cs':=es';have c5:wc.cell? ⟨w.heap.size,5,none⟩=some (.slice (some ⟨gs,0,none⟩) (DP es (AW Af es) c k P b j).sn.length cs'):=by rw[<-vS];exact O8.cells.2.2.2.2.2.1
         have d5:=ds i (by rw[hls];exact hi1);have f5:=fs i;have O9:=O8.jv (k:=i) (x:=r1) vS;have T9:=T8.grown (Ad wc gs i (.int .i64 r1)) (fun g hg=>⟨.sn,trivial,by show (BV.S ⟨.slice (some ⟨bw,ow,none⟩) AA.length cW,.slice aP b.AM.length cP,.slice aL b.AQ.length cL,.slice aN b.AJ.length cQ,.slice (some ⟨gx,0,none⟩) b.AK.length cX,.slice aS b.sn.length cS,.slice aF b.fr.length cF,.slice aR b.rws.length cR⟩).ownBlock=_;rw[vS];exact hg⟩);obtain⟨gf,cf',ef',lf,df,ff⟩:=O9.oF.lit (k:=i) (by show i<(DP es (AW Af es) c k P b j).fr.length;rw[hlf];exact hi1);have vF:BV.F ⟨.slice (some ⟨bw,ow,none⟩) AA.length cW,.slice aP b.AM.length cP,.slice aL b.AQ.length cL,.slice aN b.AJ.length cQ,.slice (some ⟨gx,0,none⟩) b.AK.length cX,.slice aS b.sn.length cS,.slice aF b.fr.length cF,.slice aR b.rws.length cR⟩ = .slice (some ⟨gf,0,none⟩) (DP es (AW Af es) c k P b j).fr.length cf':=ef';have c6:wc.cell? ⟨w.heap.size,6,none⟩=some (.slice (some ⟨gf,0,none⟩) (DP es (AW Af es) c k P b j).fr.length cf'):=by rw[<-vF];exact O8.cells.2.2.2.2.2.2.1
         have d6:=df i (by show i<(DP es (AW Af es) c k P b j).fr.length;rw[hlf];exact hi1);have f6:=ff i;have c6':(wc.setCell ⟨gs,i,none⟩ (.int .i64 r1)).cell? ⟨w.heap.size,6,none⟩=some (.slice (some ⟨gf,0,none⟩) (DP es (AW Af es) c k P b j).fr.length cf'):=by rw[<-vF];exact O9.cells.2.2.2.2.2.2.1
         have t2':(wc.setCell ⟨gs,i,none⟩ (.int .i64 r1)).cell? ⟨G,2,none⟩=some (.int .i64 r2):=(KAw (w:=wc) (KBM wc ⟨gs,i,none⟩ G _ (fun e=>lG ⟨.sn,trivial,by show (BV.S ⟨.slice (some ⟨bw,ow,none⟩) AA.length cW,.slice aP b.AM.length cP,.slice aL b.AQ.length cL,.slice aN b.AJ.length cQ,.slice (some ⟨gx,0,none⟩) b.AK.length cX,.slice aS b.sn.length cS,.slice aF b.fr.length cF,.slice aR b.rws.length cR⟩).ownBlock=_;rw[vS,e];rfl⟩))).trans t2;have O10:=O9.wJ (k:=i) (x:=r2) vF;have T10:=T9.grown (Ad _ gf i (.int .i64 r2)) (fun g hg=>⟨.fr,trivial,by show (BV.F ⟨.slice (some ⟨bw,ow,none⟩) AA.length cW,.slice aP b.AM.length cP,.slice aL b.AQ.length cL,.slice aN b.AJ.length cQ,.slice (some ⟨gx,0,none⟩) b.AK.length cX,.slice aS b.sn.length cS,.slice aF b.fr.length cF,.slice aR b.rws.length cR⟩).ownBlock=_;rw[vF];exact hg⟩);have HO:=AI (O10.keep (AC.refl _).drew);have HT:=AI (T10.keep (AC.refl _).drew)
         have HSE:Hid (Fz (AW Af es) (DP es (AW Af es) c k P b j) (j:Int) r1 r2={ { (DP es (AW Af es) c k P b j) with sn:=(DP es (AW Af es) c k P b j).sn.set i r1 } with fr:=(DP es (AW Af es) c k P b j).fr.set i r2 }):=AI (by
          have hpw:(AW Af es).Pairwise (·<·):=by
           unfold AW;split
           . exact NX Af es _
           . simp
          unfold Fz
          rw[<-hi2,TP hpw hi1 hls,TP hpw hi1 hlf])
         have n1:(0:Int)<=(i:Int):=KAK _;have n2:(i:Int)<((DP es (AW Af es) c k P b j).sn.length:Int):=by omega
         have n3:(i:Int)<((DP es (AW Af es) c k P b j).fr.length:Int):=by omega
         clear O8 T8 O9 T9 O10 T10 ds df fs ff es' ef' vS vF hi2 hi3 XEb XN XZ XRW qm XSZ KG lG;go_upto_region 11 with fail
         go_region
         go_wp2;go_roundw;case rel=>exact⟨j+1,nv',rv',by omega,by go_num,by rw[HM.out,HSE.out];exact HO.out,HT.out⟩
         case measure=>simp[intOf];omega
       |false=>
        cases P with
        |true=>
         obtain⟨Z,hZ⟩:∃Z,Z=(DP es (AW Af es) c k true b j).AJ.getD c []:=⟨_,rfl⟩;have HM:Hid (DP es (AW Af es) c k true b (j+1)={ (DP es (AW Af es) c k true b j) with AJ:=(DP es (AW Af es) c k true b j).AJ.set c (Z++[((p:Int),x4,(j:Int))]) }):=AI (by rw[qf.out,KAQ (by simp),KAP rfl,hZ]);obtain⟨aN',cN',eN,hN⟩:=O7.hN;rcases hN with q|⟨gn,eq,pu,dn7⟩
         . exfalso;rw[q] at lc;simp at lc
         rw[eq] at eN;have XSN:Hid (BV.N ⟨.slice (some ⟨bw,ow,none⟩) AA.length cW,.slice aP b.AM.length cP,.slice aL b.AQ.length cL,.slice aN b.AJ.length cQ,.slice (some ⟨gx,0,none⟩) b.AK.length cX,.slice aS b.sn.length cS,.slice aF b.fr.length cF,.slice aR b.rws.length cR⟩ = .slice (some ⟨gn,0,none⟩) (DP es (AW Af es) c k true b j).AJ.length cN'):=AI eN;have eN2:=eN;simp only[KAT] at eN2;have XNE:Hid (BV.N ⟨.slice (some ⟨bw,ow,none⟩) AA.length cW,.slice aP b.AM.length cP,.slice aL b.AQ.length cL,.slice aN b.AJ.length cQ,.slice (some ⟨gx,0,none⟩) b.AK.length cX,.slice aS b.sn.length cS,.slice aF b.fr.length cF,.slice aR b.rws.length cR⟩ = .slice (some ⟨gn,0,none⟩) b.AJ.length cQ):=AI (by show Value.slice aN b.AJ.length cQ=_;rw[eN2.1]);have iB:Hid (wc.cell? ⟨w.heap.size,3,none⟩=some (.slice (some ⟨gn,0,none⟩) b.AJ.length cQ)):=AI (by have:=O7.cells.2.2.2.1;rw[show (.slice (some ⟨gn,0,none⟩) b.AJ.length cQ)=BV.N ⟨.slice (some ⟨bw,ow,none⟩) AA.length cW,.slice aP b.AM.length cP,.slice aL b.AQ.length cL,.slice aN b.AJ.length cQ,.slice (some ⟨gx,0,none⟩) b.AK.length cX,.slice aS b.sn.length cS,.slice aF b.fr.length cF,.slice aR b.rws.length cR⟩ from by rw[<-eN2.1]];exact this);have ow:=O7.oN lc;rw[<-hZ] at ow;obtain⟨au,cu,hu⟩:=B5.shape ow;have XU:=AI hu;have XD:Hid (wc.cell? ⟨gn,c,none⟩=some (.slice au Z.length cu)):=AI (by rw[<-hu];exact dn7 c lc);have XO:Hid (wc.ownsRow m 155 3 (.slice au Z.length cu) Z.length (Z.flatMap cN)):=AI (by rw[<-hu];exact ow);have hzl:Z.length<=2000:=by have:=iG.out.nl c;rw[hZ];omega
         have lnn:(c:Int)<(b.AJ.length:Int):=by have:=eN2.2.1;omega
         have hmm:m<=wc.heap.size:=KB6 (KBv O7.base.1 O7.base.2);obtain⟨i0,hii,hz0,hz1,hz2⟩:=KA3 Tryz.Z8;clear O7 T7 qf qi m0 m1 m2 e3r ow hu dn7 eN eN2 hZ;go_upto_region 13 with fail
         go_wp2_with fail
         refine Bv (by kernel_rfl) (fun listed a w3=>∃(B:Nat->Bool) (G:Nat) (x84 x85 x86 x87 x88 x89 x90 x91 x92 x93 x94 x95:Value),listed=#[B 0,B 1,B 2,B 3,B 4,B 5,B 6,B 7,B 8,B 9,B 10,B 11,B 12]/\a=⟨#[.agg #[.slice (some ⟨bw,ow,none⟩) AA.length cW,.slice aP b.AM.length cP,.slice aL b.AQ.length cL,.slice aN b.AJ.length cQ,.slice (some ⟨gx,0,none⟩) b.AK.length cX,.slice aS b.sn.length cS,.slice aF b.fr.length cF,.slice aR b.rws.length cR],.int .i64 (c:Int),.pointer (some ⟨w.heap.size,0,none⟩),undef,.bool true,.slice (some ⟨ge,0,none⟩) es.length (es.length+ce),.int .i64 (j:Int),.pointer (some ⟨Eb,0,none⟩),.pointer (some ⟨Nb,0,none⟩),u9,u10,u11,u12,u13,u14,u15,u16,u17,u18,u19,u20,u21,u22,u23,.pointer (some ⟨w.heap.size,0,none⟩),.slice (some ⟨bw,ow,none⟩) AA.length cW,.slice (some ⟨ge,0,none⟩) es.length (es.length+ce),.slice (some ⟨ge,0,none⟩) es.length (es.length+ce),.int .i64 (es.length:Int),.int .i64 (j:Int),u30,u31,u32,u33,u34,u35,u36,u37,u38,u39,u40,u41,u42,u43,u44,u45,u46,u47,u48,u49,u50,u51,u52,u53,u54,u55,u56,.bool false,.pointer (some ⟨Eb,2,none⟩),.bool false,u60,u61,u62,u63,u64,u65,u66,u67,u68,u69,u70,u71,u72,u73,u74,u75,u76,u77,u78,u79,u80,u81,.bool true,.bool true,x84,x85,x86,x87,x88,x89,x90,x91,x92,x93,x94,x95,u96,u97,u98,u99,u100,u101,u102,u103],[]⟩/\gP w wc b AA es c k j p true bw ow cW gx cX aP cP aL cL aN cQ aS cS aF cF aR cR w2 m bs N nv rv nv' rv' gn au cu Z x4 B G x84 x85 x86 x87 x88 x89 x90 x91 x92 x93 x94 x95 w3) ?_ ?_ ?_
         . exact⟨fun _=>false,0,u84,u85,u86,u87,u88,u89,u90,u91,u92,u93,u94,u95,rfl,rfl,⟨KAM _,(fun _=>(AC.refl wc).drew),iB.out,(fun q=>by cases q),(fun q=>by cases q),(fun q=>by cases q),(fun q=>by cases q),(fun q=>by cases q),(fun q=>by cases q),(fun q=>by cases q),(fun q=>by cases q),(fun q=>by cases q),(fun q=>by cases q),(fun q=>by cases q),(fun q=>by cases q),(fun q=>by cases q),(fun q=>by cases q),(fun q=>by cases q)⟩⟩
         ·
          rintro listed a w3 ⟨B,G,x84,x85,x86,x87,x88,x89,x90,x91,x92,x93,x94,x95,rfl,rfl,h'⟩ i hi;have hlt:=(AE hi).1;have hcs:i=0\/i=1\/i=2\/i=3\/i=4\/i=5\/i=6\/i=7\/i=8\/i=9\/i=10\/i=11\/i=12:=by simp at hlt;omega
          rcases hcs with rfl|rfl|rfl|rfl|rfl|rfl|rfl|rfl|rfl|rfl|rfl|rfl|rfl
          ·
           have hbi:B 0=false:=by simpa using (AE hi).2.1
           refine AG rfl rfl (fun K hK=>?_);simp only[KAD,No];go_simp;refine hK.out _ _ ?_;exact⟨AY B 0,G,_,_,_,_,_,_,_,_,_,_,_,_,rfl,rfl,{ h' with F0:=(fun _=>rfl) }⟩
          ·
           have hbi:B 1=false:=by simpa using (AE hi).2.1
           have d0:B 0=true:=AH hi 0 rfl (by kernel_rfl);have dc:=h'.HC;have Eq:=AI (h'.F0 d0);rw[Eq.out];refine AG rfl rfl (fun K hK=>?_);simp only[KAD,KAB,No];go_simp;refine hK.out _ _ ?_;have eq:=Eq.out;subst eq;exact⟨AY B 1,G,_,_,_,_,_,_,_,_,_,_,_,_,rfl,rfl,{ h' with F1:=(fun _=>rfl) }⟩
          ·
           have hbi:B 2=false:=by simpa using (AE hi).2.1
           refine AG rfl rfl (fun K hK=>?_);simp only[KAD,KAB,No];go_simp;refine hK.out _ _ ?_;exact⟨AY B 2,G,_,_,_,_,_,_,_,_,_,_,_,_,rfl,rfl,{ h' with F2:=(fun _=>rfl) }⟩
          ·
           have hbi:B 3=false:=by simpa using (AE hi).2.1
           refine AG rfl rfl (fun K hK=>?_);simp only[KAD,KAB,No];go_simp;refine hK.out _ _ ?_;exact⟨AY B 3,G,_,_,_,_,_,_,_,_,_,_,_,_,rfl,rfl,{ h' with F3:=(fun _=>rfl) }⟩
          ·
           have hbi:B 4=false:=by simpa using (AE hi).2.1
           have d3:B 3=true:=AH hi 3 rfl (by kernel_rfl);have dc:=h'.HC;have Eq:=AI (h'.F3 d3);rw[Eq.out];refine AG rfl rfl (fun K hK=>?_);simp only[KAD,KAB,No];go_simp;refine hK.out _ _ ?_;have eq:=Eq.out;subst eq;exact⟨AY B 4,G,_,_,_,_,_,_,_,_,_,_,_,_,rfl,rfl,{ h' with F4:=(fun _=>rfl) }⟩
          ·
           have hbi:B 5=false:=by simpa using (AE hi).2.1
           refine AG rfl rfl (fun K hK=>?_);simp only[KAD,KAB,No];go_simp;refine hK.out _ _ ?_;exact⟨AY B 5,G,_,_,_,_,_,_,_,_,_,_,_,_,rfl,rfl,{ h' with F5:=(fun _=>rfl) }⟩
          ·
           have hbi:B 6=false:=by simpa using (AE hi).2.1
           have d4:B 4=true:=AH hi 4 rfl (by kernel_rfl);have d5:B 5=true:=AH hi 5 rfl (by kernel_rfl);have Eq:=AI (h'.F4 d4);rw[Eq.out];have Er:=AI (h'.F5 d5);rw[Er.out];refine AG rfl rfl (fun K hK=>?_);simp only[KAD,KAB,No];go_simp;refine hK.out _ _ ?_;have eq:=Eq.out;subst eq;have er:=Er.out;subst er;exact⟨AY B 6,G,_,_,_,_,_,_,_,_,_,_,_,_,rfl,rfl,{ h' with F6:=(fun _=>rfl) }⟩
          ·
           have hbi:B 7=false:=by simpa using (AE hi).2.1
           have d6:B 6=true:=AH hi 6 rfl (by kernel_rfl)
           have hac:B 10=false:=by
            cases e:B 10 with
            |false=>rfl
            |true=>exact absurd (h'.F10 e).1.1 (by rw[hbi];simp)
           have dc:=((h'.HO hac).cell pu).trans XD.out;have Eq:=AI (h'.F6 d6);rw[Eq.out];refine AG rfl rfl (fun K hK=>?_);simp only[KAD,KAB,No];go_simp;refine hK.out _ _ ?_;have eq:=Eq.out;subst eq;exact⟨AY B 7,G,_,_,_,_,_,_,_,_,_,_,_,_,rfl,rfl,{ h' with F10:=(fun q=>absurd (h'.F10 q).1.1 (by rw[hbi];simp)),P10:=(fun q=>absurd (h'.F10 q).1.1 (by rw[hbi];simp)),F12:=(fun q=>absurd (h'.F10 (h'.F12 q).1).1.1 (by rw[hbi];simp)),F7:=(fun _=>rfl) }⟩
          ·
           have hbi:B 8=false:=by simpa using (AE hi).2.1
           have hac:B 10=false:=by
            cases e:B 10 with
            |false=>rfl
            |true=>exact absurd (h'.F10 e).1.2.1 (by rw[hbi];simp)
           have Yq:=h'.HO hac;have z0:=(Yq.cell yQ).trans XN.out.1;have z1:=(Yq.cell yQ).trans XN.out.2.1;have z2:=(Yq.cell yQ).trans XN.out.2.2;refine AG rfl rfl (fun K hK=>?_);simp only[KAD,KAB,No];go_simp;refine hK.out _ _ ?_;exact⟨AY B 8,G,_,_,_,_,_,_,_,_,_,_,_,_,rfl,rfl,{ h' with F10:=(fun q=>absurd (h'.F10 q).1.2.1 (by rw[hbi];simp)),P10:=(fun q=>absurd (h'.F10 q).1.2.1 (by rw[hbi];simp)),F12:=(fun q=>absurd (h'.F10 (h'.F12 q).1).1.2.1 (by rw[hbi];simp)),F8:=(fun _=>rfl),F13:=(fun q=>absurd (h'.F13 q) (by rw[hbi];simp)) }⟩
          ·
           have hbi:B 9=false:=by simpa using (AE hi).2.1
           have d8:B 8=true:=AH hi 8 rfl (by kernel_rfl)
           have hac:B 10=false:=by
            cases e:B 10 with
            |false=>rfl
            |true=>exact absurd (h'.F10 e).1.2.2 (by rw[hbi];simp)
           have Yq:=h'.HO hac;have sq:=Yq.size;have Eq:=AI (h'.F8 d8);rw[Eq.out];refine AG rfl rfl (fun K hK=>?_);simp only[KAD,KAB,No];go_simp;refine hK.out _ _ ?_;have eq:=Eq.out;subst eq;exact⟨AY B 9,w3.heap.size,_,_,_,_,_,_,_,_,_,_,_,_,rfl,rfl,{ h' with F10:=(fun q=>absurd (h'.F10 q).1.2.2 (by rw[hbi];simp)),P10:=(fun q=>absurd (h'.F10 q).1.2.2 (by rw[hbi];simp)),F12:=(fun q=>absurd (h'.F10 (h'.F12 q).1).1.2.2 (by rw[hbi];simp)),HS:=KAU h'.HS ((AC.refl w3).alloc _).size,HO:=(fun q=>(h'.HO q).alloc _),HC:=(((AC.refl w3).alloc _).cell (KAC jW sq)).trans h'.HC,F9:=(fun _=>⟨rfl,fun _=>KAX _ _⟩),F13:=(fun _=>d8) }⟩
          ·
           have hbi:B 10=false:=by simpa using (AE hi).2.1
           have d7:B 7=true:=AH hi 7 rfl (by kernel_rfl);have d9:B 9=true:=AH hi 9 rfl (by kernel_rfl);have Yq:=h'.HO hbi;have sq:=Yq.size;obtain⟨eG,cG⟩:=h'.F9 d9;have cG2:=cG hbi;have d8:B 8=true:=h'.F13 d9;have HR:=KAs XO.out Yq.grownBy (by cases (Value.slice au Z.length cu).ownBlock<;>simp);have Eq:=AI (h'.F7 d7);rw[Eq.out];have Er:=AI (eG);rw[Er.out];refine AG rfl rfl (fun K hK=>?_);simp only[KAD,KAB,No];clear eG;refine EY _ _ 151 rfl m 155 i0 (.agg #[.int .i64 0,.int .i64 0,.int .i64 0]) 3 24 Tryz.underlying151 hii hz0 hz1 hz2 rfl (by decide) (.slice au Z.length cu) Z.length (Z.flatMap cN) rfl HR ⟨G,0,none⟩ 1 1 [.int .i64 (p:Int),.int .i64 x4,.int .i64 (j:Int)] rfl rfl (fun j u hu=>?_) (fun u hu=>by simp at hu;rcases hu with rfl|rfl|rfl<;>rfl) (by unfold maxLen;omega) (by omega) (by omega) ?_
           ·
            match j,hu with
            | 0,hu=>simp at hu;subst hu;rw[show (⟨G,0,none⟩:Addr).add 0=⟨G,0,none⟩ from rfl,KAL _ _ 0 _ _ _ cG2];rfl
            | 1,hu=>simp at hu;subst hu;rw[show (⟨G,0,none⟩:Addr).add 1=⟨G,1,none⟩ from rfl,KAL _ _ 1 _ _ _ cG2];rfl
            | 2,hu=>simp at hu;subst hu;rw[show (⟨G,0,none⟩:Addr).add 2=⟨G,2,none⟩ from rfl,KAL _ _ 2 _ _ _ cG2];rfl
           intro vz wz oz gz bz;simp only[Act.put,KAR,KAa,KAc];refine hK.out _ _ ?_;have eq:=Eq.out;subst eq;have er:=Er.out;subst er
           have OZ:B5 cN 155 3 wz m vz (Z++[((p:Int),x4,(j:Int))]):=by
            show wz.ownsRow m 155 3 vz (Z++[((p:Int),x4,(j:Int))]).length ((Z++[((p:Int),x4,(j:Int))]).flatMap cN);rw[KAJ,KB7];exact oz
           obtain⟨P1,P2,P3⟩:=(nu.out.keep Yq).mM lc (u:=vz) (ns:=Z++[((p:Int),x4,(j:Int))]) (by rw[XU.out];exact gz) (by rw[XU.out];rcases bz with e|e;exact .inl e;exact .inr (.inl e)) OZ XSN.out;obtain⟨a5,q5,hv5⟩:=B5.shape OZ;rw[KAJ,KA5] at hv5;have hcl:BW nv' rv' (.nt c):=by show c<nv'.length;rw[nu.out.ln];exact lc
           have TQ:=(yC.out.keep Yq).grown gz (fun k hk=>⟨.nt c,hcl,by show (nv'.getD c AF).ownBlock=_;rw[XU.out];exact hk⟩);have HC5:wz.cell? ⟨w.heap.size,3,none⟩=_:=((nu.out.keep Yq).stay (.nt c) hcl (by simp) (by show World.grownBy _ _ (nv'.getD c AF).ownBlock;rw[XU.out];exact gz) 3).trans h'.HC
           have BQ:∀g,vz.ownBlock=some g->(Bo w.heap.size ⟨.slice (some ⟨bw,ow,none⟩) AA.length cW,.slice aP b.AM.length cP,.slice aL b.AQ.length cL,.slice aN b.AJ.length cQ,.slice (some ⟨gx,0,none⟩) b.AK.length cX,.slice aS b.sn.length cS,.slice aF b.fr.length cF,.slice aR b.rws.length cR⟩ nv' rv') g\/w2.heap.size<=g:=fun g hg=>by
            rcases bz with e|e
            . exact .inl ⟨.nt c,hcl,by show (nv'.getD c AF).ownBlock=_;rw[XU.out,<-e];exact hg⟩
            ·
             rw[e] at hg;have:=KAI hg;have:=yC.out.size;right;omega
           exact⟨AY B 10,G,_,_,_,_,_,_,_,_,_,_,_,_,rfl,rfl,{ h' with HS:=KAU h'.HS gz.size,HO:=(fun q=>by cases q),HC:=HC5,F9:=(fun _=>⟨rfl,fun q=>by cases q⟩),F10:=(fun _=>⟨⟨d7,d8,d9⟩,a5,q5,hv5⟩),P10:=(fun _ _=>⟨P1,P2,P3,TQ,BQ⟩),F12:=(fun q=>absurd (h'.F12 q).1 (by rw[hbi];simp)) }⟩
          ·
           have hbi:B 11=false:=by simpa using (AE hi).2.1
           have d1:B 1=true:=AH hi 1 rfl (by kernel_rfl);have d2:B 2=true:=AH hi 2 rfl (by kernel_rfl);have Eq:=AI (h'.F1 d1);rw[Eq.out];have Er:=AI (h'.F2 d2);rw[Er.out];refine AG rfl rfl (fun K hK=>?_);simp only[KAD,KAB,No];go_simp;refine hK.out _ _ ?_;have eq:=Eq.out;subst eq;have er:=Er.out;subst er;exact⟨AY B 11,G,_,_,_,_,_,_,_,_,_,_,_,_,rfl,rfl,{ h' with F11:=(fun _=>rfl) }⟩
          ·
           have hbi:B 12=false:=by simpa using (AE hi).2.1
           have d10:B 10=true:=AH hi 10 rfl (by kernel_rfl);have d11:B 11=true:=AH hi 11 rfl (by kernel_rfl);obtain⟨P1,P2,P3,P4,P5⟩:=h'.P10 d10 hbi;obtain⟨-,a5,q5,e9⟩:=h'.F10 d10;have HP1:=AI P1;have gs:=Ad w3 gn c x94;clear P1;have Eq:=AI (h'.F11 d11);rw[Eq.out];have Er:=AI (e9);rw[Er.out];refine AG rfl rfl (fun K hK=>?_);simp only[KAD,KAB,No];clear e9;go_simp;refine hK.out _ _ ?_;have eq:=Eq.out;subst eq;have er:=Er.out;subst er;have P1:=HP1.out;have hcv:c<nv'.length:=by rw[nu.out.ln];exact lc
           exact⟨AY B 12,G,_,_,_,_,_,_,_,_,_,_,_,_,rfl,rfl,{ h' with HS:=KAU h'.HS gs.size,HO:=(fun q=>Gs d10 q),HC:=(by have q:=P1.cells.2.2.2.1;rw[XNE.out] at q;exact q),F9:=(fun q=>⟨(h'.F9 q).1,fun r=>Gs d10 r⟩),P10:=(fun _ q=>by cases q),F12:=(fun _=>⟨d10,P1,(P4.grown gs (fun g hg=>⟨.AJ,trivial,by rw[show vB w.heap.size ⟨.slice (some ⟨bw,ow,none⟩) AA.length cW,.slice aP b.AM.length cP,.slice aL b.AQ.length cL,.slice aN b.AJ.length cQ,.slice (some ⟨gx,0,none⟩) b.AK.length cX,.slice aS b.sn.length cS,.slice aF b.fr.length cF,.slice aR b.rws.length cR⟩ nv' rv' BI.AJ=BV.N ⟨.slice (some ⟨bw,ow,none⟩) AA.length cW,.slice aP b.AM.length cP,.slice aL b.AQ.length cL,.slice aN b.AJ.length cQ,.slice (some ⟨gx,0,none⟩) b.AK.length cX,.slice aS b.sn.length cS,.slice aF b.fr.length cF,.slice aR b.rws.length cR⟩ from rfl,XNE.out];exact hg⟩)).more (fun g hg=>by rcases Mz hcv hg with q|q;exact P4.news g q;rcases P5 g q with r|r;exact P4.news g r;exact .inr r)⟩) }⟩
         ·
          rintro listed a w3 ⟨B,G,x84,x85,x86,x87,x88,x89,x90,x91,x92,x93,x94,x95,rfl,rfl,h'⟩ hr;have hall:=Dx hr rfl (by kernel_rfl);have b12:B 12=true:=hall 12 (by simp);clear hall;obtain⟨HS,HO,HC,F0,F1,F2,F3,F4,F5,F6,F7,F8,F9,F10,P10,F11,F12,F13⟩:=h';clear hr;obtain⟨-,Q2,Q3⟩:=F12 b12;have HQ2:=AI Q2;have HQ3:=AI Q3;clear Q2 Q3 HS HO HC F0 F1 F2 F3 F4 F5 F6 F7 F8 F9 F10 P10 F11 F12 F13;go_wp2;refine⟨⟨_,_,_,_,_,_,⟨j+1,by omega,by go_num,_,rv',by rw[HM.out];exact HQ2.out,HQ3.out⟩,rfl,rfl,rfl,rfl,rfl,rfl⟩,?_⟩;simp[intOf];omega
        |false=>
         have HM:Hid (DP es (AW Af es) c k false b (j+1)=EJ (DP es (AW Af es) c k false b j) p x4 (j:Int)):=AI (by rw[qf.out,KAQ (by simp),KAQ (by simp)]);have JU:=O7.MA;simp only[BV.arr] at JU;have Rj:=Q7 wc m ⟨.slice (some ⟨bw,ow,none⟩) AA.length cW,.slice aP b.AM.length cP,.slice aL b.AQ.length cL,.slice aN b.AJ.length cQ,.slice (some ⟨gx,0,none⟩) b.AK.length cX,.slice aS b.sn.length cS,.slice aF b.fr.length cF,.slice aR b.rws.length cR⟩ rv' (DP es (AW Af es) c k false b j) p x4 (j:Int) O7.Z9 O7.rd.sl (KB6 (KBv O7.base.1 O7.base.2)) lp ll lr (by have:=iG.out.rl p;omega);clear O7 T7 qf qi;go_wp2_with (first|refine KAq rfl 103 _ rfl w.heap.size rfl 103 _ (0,0) _ JU Tryz.underlying103 rfl AR ?_|fail)
         refine Rj.mono ?_;rintro e w8 ⟨rfl,rv2,O8,T8⟩;obtain⟨O9,T9⟩:=nu.out.turn O8 T8 rfl rfl rfl rfl;have HO9:=AI O9;have HT9:=AI (yC.out.trans T9);clear O9 T9 O8 T8 JU Rj;go_wp2;go_roundw;case rel=>exact⟨j+1,nv',rv2,by omega,by go_num,by rw[HM.out];exact HO9.out,HT9.out⟩
         case measure=>simp[intOf];omega
     ·
      have b0:(x0 != (c:Int))=false:=by simp[e0]
      have b1:(x1 != (k:Int))=true:=by simp[e1]
      have HM:Hid (DP es (AW Af es) c k P b (j+1)=DP es (AW Af es) c k P b j):=AI (by rw[qd.out];unfold Rg;rw[KAQ (fun q=>e1 q.2)]);clear qd xg qi e0 e1;go_quiet (fail)
      go_wp2;go_roundw;case rel=>exact⟨j+1,nv',rv',by omega,by go_num,by rw[HM.out];exact O6.drewN _,T6.keep ((AC.refl w6).drewN _)⟩
      case measure=>simp[intOf];omega
    ·
     have b0:(x0 != (c:Int))=true:=by simp[e0]
     have HM:Hid (DP es (AW Af es) c k P b (j+1)=DP es (AW Af es) c k P b j):=AI (by rw[qd.out];unfold Rg;rw[KAQ (fun q=>e0 q.1)]);clear qd xg qi e0;go_quiet (fail)
     go_wp2;go_roundw;case rel=>exact⟨j+1,nv',rv',by omega,by go_num,by rw[HM.out];exact O6.drewN _,T6.keep ((AC.refl w6).drewN _)⟩
     case measure=>simp[intOf];omega
   ·
    obtain rfl:j=es.length:=by omega
    have i6:IntKind.i64.wrap ((k:Int)+1)=(k:Int)+1:=by rw[KAk];have:=Dy XS.out.work hc;have:=HDN.out;omega
    have hXv:BV.X ⟨.slice (some ⟨bw,ow,none⟩) AA.length cW,.slice aP b.AM.length cP,.slice aL b.AQ.length cL,.slice aN b.AJ.length cQ,.slice (some ⟨gx,0,none⟩) b.AK.length cX,.slice aS b.sn.length cS,.slice aF b.fr.length cF,.slice aR b.rws.length cR⟩ = .slice (some ⟨gx,0,none⟩) (DP es (AW Af es) c k P b es.length).AK.length cX:=by rw[Yx.out]
    have OX:=AI ((OJ.wK (k:=c) (x:=(k:Int)+1) hXv).val);have TX:=AI (TJ.grown (Ad wr gx c (.int .i64 ((k:Int)+1))) (fun g hg=>⟨.AK,trivial,hg⟩));clear OJ TJ hXv;go_wp2;go_end0;refine⟨rfl,nv',rv',?_,?_⟩
    ·
     rw[<-nK.out,<-gZ.out];exact OX.out
    ·
     have t0:Ai w w2 (Dz ⟨.slice (some ⟨bw,ow,none⟩) AA.length cW,.slice aP b.AM.length cP,.slice aL b.AQ.length cL,.slice aN b.AJ.length cQ,.slice (some ⟨gx,0,none⟩) b.AK.length cX,.slice aS b.sn.length cS,.slice aF b.fr.length cF,.slice aR b.rws.length cR⟩ nv rv) (Bo w.heap.size ⟨.slice (some ⟨bw,ow,none⟩) AA.length cW,.slice aP b.AM.length cP,.slice aL b.AQ.length cL,.slice aN b.AJ.length cQ,.slice (some ⟨gx,0,none⟩) b.AK.length cX,.slice aS b.sn.length cS,.slice aF b.fr.length cF,.slice aR b.rws.length cR⟩ nv rv):=((Ai.refl w _).keep K02).more (fun g hg=>by rcases VC hg with q|q;exact .inl q;exact .inr (by omega))
     exact (t0.trans TX.out).more (fun g hg=>by
      rcases TX.out.news g (ZD hg) with q|q
      ·
       rcases VC q with r|r
       . exact .inl r
       . exact .inr (by omega)
      . exact .inr (KAU K02.size q))
theorem Kf (w:World)(v:Value)(ds:List Dd)(h:Jg w v ds)(k:Nat)(hk:k<ds.length)(hx:ds.length<=1048576):
  Calls Tryz.prog 119 #[v,.int .i64 k] w fun e w'=>e = .returned (.bool (G2 ds k))/\∃q,w'=w.drewN q:=by
 obtain⟨a,c,rfl,h⟩:=h;rcases h with h|⟨b,o,rfl,hb,hc⟩
 . exfalso;rw[h] at hk;simp at hk
 have A3:=(hc k hk).2.2.2;have i1:(0:Int)<=(k:Int):=KAK _;have i2:(k:Int)<(ds.length:Int):=by omega
 have HP:Hid (G2 ds k=(decide (0<k)&&((ds.getD k zD).2.2.2 != 0)&&((ds.getD k zD).2.2.2==(ds.getD (k-1) zD).2.2.2))):=AI rfl;by_cases h0:k=0
 ·
  have HT:Hid (G2 ds k=false):=AI (by rw[HP.out];simp[h0]);have d0:decide (0<k)=false:=by simp[h0]
  generalize (ds.getD k zD).2.2.2=x3 at A3;clear HP hc h0;go_enter Tryz.func119,Tryz.ntmps119
  go_wp2;go_quiet (fail)
  go_wp2;go_ret;exact⟨by rw[HT.out];rfl,_,rfl⟩
 ·
  obtain⟨r,rfl⟩:∃r:Nat,k=r+1:=⟨k-1,by omega⟩;rw[KCk] at HP;have B3:=(hc r (by omega)).2.2.2;clear hc h0;have j1:(0:Int)<=(r:Int):=KAK _;have j2:(r:Int)<(ds.length:Int):=by omega
  have d2:(r:Int)+1<(ds.length:Int):=by omega
  have d6:(0:Int)<=(r:Int)+1:=by omega
  have d3:IntKind.i64.wrap (r:Int)=(r:Int):=by rw[KAk];omega
  have d4:wrap64 (r:Int)=(r:Int):=EZ _ (by omega) (by omega);generalize (ds.getD (r+1) zD).2.2.2=x3 at A3 HP;generalize (ds.getD r zD).2.2.2=y3 at B3 HP;by_cases e0:x3=0
  ·
   have HT:Hid (G2 ds (r+1)=false):=AI (by rw[HP.out];simp[e0]);have q0:(x3 != 0)=false:=by simp[e0]
   clear HP e0;go_enter Tryz.func119,Tryz.ntmps119
   go_wp2;go_quiet (fail)
   go_wp2;go_ret;exact⟨by rw[HT.out];rfl,_,rfl⟩
  ·
   have q0:(x3 != 0)=true:=by simp[e0]
   have q1:(decide (0<r+1))=true:=by simp
   have HT:Hid (G2 ds (r+1)=(x3==y3)):=AI (by rw[HP.out,q0,q1];simp);clear HP e0 q1;go_enter Tryz.func119,Tryz.ntmps119
   go_wp2;go_quiet (fail)
   go_wp2;go_ret;exact⟨by rw[HT.out];rfl,_,rfl⟩
end Go.Proofs.YtflehmepjhikcaaGreatDoor
