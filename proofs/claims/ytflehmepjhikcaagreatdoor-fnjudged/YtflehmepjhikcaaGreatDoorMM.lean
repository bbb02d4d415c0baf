/- Gathered texts. -/
import Derived.Test.YtflehmepjhikcaaGreatDoorMK
import Derived.Deep.Cut
import Derived.Laws.Tables
import Derived.RegionTactic
import Derived.BigRegion
import Derived.Deep.QuietTactic
import Derived.BigQuiet
import Derived.Deep.RegionLaw
set_option maxRecDepth 100000
set_option maxHeartbeats 8000000
namespace Go.Proofs.YtflehmepjhikcaaGreatDoor
open Go.ChangeShapes Go.WideShapes Go.ChangeAt Go.RowKit
abbrev KAA:=@List.getElem_cons_zero
abbrev KAG:=@List.getElem_toArray
def ZQ (b:Bd):Bd:={ b with AJ:=[],rws:=[] }
def mF:BI->Option Nat
 | .bd=>some 19
 | .AM=>some 5
 | .AQ=>some 8
 | .AK=>some 11
 | .sn=>some 14
 | .fr=>some 17
 |_=>none
theorem jE:∀a b i,mF a=some i->mF b=some i->a=b:=by
 intro a b i h1 h2;unfold mF at h1 h2;split at h1<;>split at h2<;>first|rfl|(simp only[KAg] at h1 h2;omega)|(cases h2;done)|(cases h1;done)
theorem oZ {w:World}{m D bs N:Nat}{B:Nat->Bool}{R:Nat->Rw}{AA:List (List Dd)}{b:Bd}{x8 x11 x14 x17 x20 x23:Value}(HM:Mk w m (Dw [5,8,11,14,17,19] B) R true x8 bs N AA)
  (b5:B 5=true) (b8:B 8=true) (b11:B 11=true) (b14:B 14=true) (b17:B 17=true) (b19:B 19=true)
  (r5:R 5=Bk b.AM x11) (r8:R 8=Bk b.AQ x14) (r11:R 11=Bk b.AK x17) (r14:R 14=Bk b.sn x20) (r17:R 17=Bk b.fr x23) (r19:R 19=Hi D ⟨x8,x11,x14,AF,x17,x20,x23,AF⟩):AU w m D ⟨x8,x11,x14,AF,x17,x20,x23,AF⟩ [] [] bs N AA (ZQ b):=by
 have H1:∀a i,BW [] [] a->mF a=some i->Dw [5,8,11,14,17,19] B i/\Ay D ⟨x8,x11,x14,AF,x17,x20,x23,AF⟩ [] [] (ZQ b) a=R i:=by
  intro a i _ hi;unfold mF at hi;split at hi<;>simp at hi<;>subst hi
  . exact⟨⟨by decide,b19⟩,r19.symm⟩
  . exact⟨⟨by decide,b5⟩,r5.symm⟩
  . exact⟨⟨by decide,b8⟩,r8.symm⟩
  . exact⟨⟨by decide,b11⟩,r11.symm⟩
  . exact⟨⟨by decide,b14⟩,r14.symm⟩
  . exact⟨⟨by decide,b17⟩,r17.symm⟩
 have H2:∀a,BW [] [] a->mF a=none->(Ay D ⟨x8,x11,x14,AF,x17,x20,x23,AF⟩ [] [] (ZQ b) a).own w m/\(Ay D ⟨x8,x11,x14,AF,x17,x20,x23,AF⟩ [] [] (ZQ b) a).v.ownBlock=none:=by
  intro a ha hn
  match a,ha,hn with
  | .AJ,_,_=>exact⟨Ig _ _ _ _,rfl⟩
  | .rws,_,_=>exact⟨Ig _ _ _ _,rfl⟩
  | .nt c,ha,_=>exact absurd (show c<0 from ha) (by omega)
  | .rw c,ha,_=>exact absurd (show c<0 from ha) (by omega)
 refine⟨HM.Ag.via mF jE H1 H2,rfl,rfl,(HM.work rfl).1,(HM.work rfl).2.1,fun a ha k hk=>?_⟩
 cases e:mF a with
 |none=>rw[(H2 a ha e).2] at hk;cases hk
 |some i=>rw[(H1 a i ha e).2] at hk;exact HM.out rfl i (H1 a i ha e).1 k hk
structure rH (w:World)(w1:World)(AA:List (List Dd))(b:Bd)(aW:Option Addr)(aP:Option Addr)(aL:Option Addr)(aX:Option Addr)(aT:Option Addr)(aF:Option Addr)(cW:Nat)(cP:Nat)(cL:Nat)(cX:Nat)(cT:Nat)(cF:Nat)(B:Nat->Bool)(R:Nat->Rw)(bs:Nat)(N:Nat)(D:Nat)(x3 x6 x7 x8 x9 x10 x11 x12 x13 x14 x15 x16 x17 x18 x19 x20 x21 x22 x23 x24:Value)(w3:World):Prop where
 HM:Mk w3 w1.heap.size (Dw [5,8,11,14,17,19] B) R (B 2) x8 bs N AA
 HK:AC w1 w3
 F0:B 0=true->x6 = .pointer (some ⟨w.heap.size,0,none⟩)
 F1:B 1=true->x7 = .slice aW AA.length cW
 F2:B 2=true->∃a c,x8 = .slice a AA.length c
 F3:B 3=true->x9 = .pointer (some ⟨w.heap.size,1,none⟩)
 F4:B 4=true->x10 = .slice aP b.AM.length cP
 F5:B 5=true->(∃a c,x11 = .slice a b.AM.length c)/\R 5=Bk b.AM x11
 F6:B 6=true->x12 = .pointer (some ⟨w.heap.size,2,none⟩)
 F7:B 7=true->x13 = .slice aL b.AQ.length cL
 F8:B 8=true->(∃a c,x14 = .slice a b.AQ.length c)/\R 8=Bk b.AQ x14
 F9:B 9=true->x15 = .pointer (some ⟨w.heap.size,4,none⟩)
 F10:B 10=true->x16 = .slice aX b.AK.length cX
 F11:B 11=true->(∃a c,x17 = .slice a b.AK.length c)/\R 11=Bk b.AK x17
 F12:B 12=true->x18 = .pointer (some ⟨w.heap.size,5,none⟩)
 F13:B 13=true->x19 = .slice aT b.sn.length cT
 F14:B 14=true->(∃a c,x20 = .slice a b.sn.length c)/\R 14=Bk b.sn x20
 F15:B 15=true->x21 = .pointer (some ⟨w.heap.size,6,none⟩)
 F16:B 16=true->x22 = .slice aF b.fr.length cF
 F17:B 17=true->(∃a c,x23 = .slice a b.fr.length c)/\R 17=Bk b.fr x23
 F18:B 18=true->(B 2=true/\B 5=true/\B 8=true/\B 11=true/\B 14=true/\B 17=true)/\x24 = .agg #[x8,x11,x14,AF,x17,x20,x23,AF]
 F19:B 19=true->x3 = .pointer (some ⟨D,0,none⟩)/\(R 19).v = .slice (some ⟨D,0,none⟩) 1 1/\(B 20=false->R 19=⟨103,8,.slice (some ⟨D,0,none⟩) 1 1,1,[AF,AF,AF,AF,AF,AF,AF,AF]⟩)
 F20:B 20=true->B 18=true/\B 19=true
 F21:B 20=true->R 19=Hi D ⟨x8,x11,x14,AF,x17,x20,x23,AF⟩
structure rJ (w:World)(w1:World)(wr:World)(D:Nat)(k:Nat)(aM:Option Addr)(cM:Nat)(bN:Nat)(oN:Nat)(cQ:Nat)(ai:Option Addr)(ci:Nat)(ns:List Nt)(b:Bd)(bw:BV)(nv:List Value)(bs:Nat)(N:Nat)(AA:List (List Dd))(B:Nat->Bool)(G:Nat)(x32 x33 x34 x35 x36 x37 x38 x39 x40 x41 x42 x43:Value)(w3:World):Prop where
 HK:B 10=false->AC wr w3
 gQ:B 0=true->x32 = .pointer (some ⟨D,3,none⟩)
 Tn:B 1=true->B 0=true/\x33 = .slice aM k cM
 gX:B 2=true->∃g,x34 = .slice (some ⟨g,0,none⟩) 0 0
 Rn:B 2=true->B 8=false->B5 cN 155 3 w3 wr.heap.size x34 []
 gV:B 3=true->x35 = .pointer (some ⟨w.heap.size,3,none⟩)
 Tm:B 4=true->B 3=true/\x36 = .slice (some ⟨bN,oN,none⟩) b.AJ.length cQ
 gY:B 5=true->x37 = .int .i64 (k:Int)
 QM:B 6=true->(B 4=true/\B 5=true)/\x38 = .pointer (some ⟨bN,oN+k,none⟩)
 To:B 7=true->B 6=true/\x39 = .slice ai ns.length (ns.length+ci)
 Oh:B 8=true->(B 2=true/\B 7=true)/\∃a c,x40 = .slice a ns.length c
 PH:B 8=true->B 10=false->B5 cN 155 3 w3 wr.heap.size x40 ns
 Ms:B 9=true->B 8=true/\x41 = .slice (some ⟨G,0,none⟩) 1 1/\(B 10=false->w3.cell? ⟨G,0,none⟩=some x40)
 Bw:B 10=true->(∀j,j<10->B j=true)/\∃a c,x42 = .slice a (k+1) c
 KC:B 10=true->B 12=false->AU (w3.setCell ⟨D,3,none⟩ x42) w1.heap.size D { bw with N:=x42 } (nv++[x40]) [] bs N AA { ZQ b with AJ:=b.AJ.take (k+1) }/\w3.cell? ⟨D,3,none⟩=some bw.N/\w3.frozen? ⟨D,3,none⟩=false/\AC w1 w3
 gW:B 11=true->x43 = .pointer (some ⟨D,3,none⟩)
 FB:B 12=true->B 10=true/\AU (w3) w1.heap.size D { bw with N:=x42 } (nv++[x40]) [] bs N AA { ZQ b with AJ:=b.AJ.take (k+1) }/\AC w1 w3
structure gN (w:World)(w1:World)(wr:World)(D:Nat)(k:Nat)(aM:Option Addr)(cM:Nat)(bN:Nat)(oN:Nat)(cR:Nat)(ai:Option Addr)(ci:Nat)(zs:List Int)(b:Bd)(bw:BV)(nv:List Value)(rv:List Value)(bs:Nat)(N:Nat)(AA:List (List Dd))(B:Nat->Bool)(G:Nat)(x51 x52 x53 x54 x55 x56 x57 x58 x59 x60 x61:Value)(w3:World):Prop where
 HK:B 9=false->AC wr w3
 gQ:B 0=true->x51 = .pointer (some ⟨D,7,none⟩)
 Tn:B 1=true->B 0=true/\x52 = .slice aM k cM
 gV:B 2=true->x53 = .pointer (some ⟨w.heap.size,7,none⟩)
 Tm:B 3=true->B 2=true/\x54 = .slice (some ⟨bN,oN,none⟩) b.rws.length cR
 gY:B 4=true->x55 = .int .i64 (k:Int)
 QM:B 5=true->(B 3=true/\B 4=true)/\x56 = .pointer (some ⟨bN,oN+k,none⟩)
 To:B 6=true->B 5=true/\x57 = .slice ai zs.length ci
 Oh:B 7=true->(B 6=true)/\∃a c,x58 = .slice a zs.length c
 PH:B 7=true->B 9=false->A8 w3 wr.heap.size x58 zs
 Ms:B 8=true->B 7=true/\x59 = .slice (some ⟨G,0,none⟩) 1 1/\(B 9=false->w3.cell? ⟨G,0,none⟩=some x58)
 Bw:B 9=true->(∀j,j<9->B j=true)/\∃a c,x60 = .slice a (k+1) c
 KC:B 9=true->B 11=false->AU (w3.setCell ⟨D,7,none⟩ x60) w1.heap.size D { bw with R:=x60 } nv (rv++[x58]) bs N AA { ZQ b with AJ:=b.AJ,rws:=b.rws.take (k+1) }/\w3.cell? ⟨D,7,none⟩=some bw.R/\w3.frozen? ⟨D,7,none⟩=false/\AC w1 w3
 gW:B 10=true->x61 = .pointer (some ⟨D,7,none⟩)
 FB:B 11=true->B 9=true/\AU (w3) w1.heap.size D { bw with R:=x60 } nv (rv++[x58]) bs N AA { ZQ b with AJ:=b.AJ,rws:=b.rws.take (k+1) }/\AC w1 w3
theorem ME (w:World)(bv:BV)(AA:List (List Dd))(b:Bd)(h:Cw w bv AA b)(hb:Ap AA b=true):
  Calls Tryz.prog 62 #[bv.agg] w fun e w'=>∃bv' nv rv bs N,e = .returned (BV.agg bv')/\BT w' w.heap.size bv' nv rv bs N AA b/\w.heap.size<=bs/\AC w w':=by
 obtain⟨hwk,q1,q2,q3,q4,q5,q6,q7,q8,q9⟩:=Iy hb;obtain⟨u1,hll⟩:=OS hwk;have HQ:=AI (show _/\_/\_/\_ from ⟨q3,q4,q8,q9⟩);have g1:b.AM.length<=1048576:=by omega
 have g2:b.AQ.length<=1048576:=by omega
 have g3:b.AK.length<=1048576:=by omega
 clear q1 q2 q3 q4 q5 q8 q9 hwk;obtain⟨aW,aP,aL,aN,aX,aT,aF,aR,cW,cP,cL,cQ,cX,cT,cF,cR,rfl⟩:=h.shapes;go_enter Tryz.func62,Tryz.ntmps62
 go_upto_region 1 with fail
 obtain⟨w1,hw1⟩:∃W:World,W=(w.alloc (.cells #[.slice aW AA.length cW,.slice aP b.AM.length cP,.slice aL b.AQ.length cL,.slice aN b.AJ.length cQ,.slice aX b.AK.length cX,.slice aT b.sn.length cT,.slice aF b.fr.length cF,.slice aR b.rws.length cR] 103)).alloc (.cells #[AF,AF,AF,AF,AF,AF,AF,AF] 103):=⟨_,rfl⟩;have K1:AC w w1:=by rw[hw1];exact ((AC.refl w).alloc _).alloc _
 have s1:w1.heap.size=w.heap.size+1+1:=by rw[hw1,AD,AD]
 have hB1:w1.heap[w.heap.size]? = some (.cells #[.slice aW AA.length cW,.slice aP b.AM.length cP,.slice aL b.AQ.length cL,.slice aN b.AJ.length cQ,.slice aX b.AK.length cX,.slice aT b.sn.length cT,.slice aF b.fr.length cF,.slice aR b.rws.length cR] 103 (0,0)):=by rw[hw1];exact DM ((AC.refl _).alloc _)
 have hR1:w1.heap[w.heap.size+1]? = some (.cells #[AF,AF,AF,AF,AF,AF,AF,AF] 103 (0,0)):=by rw[hw1,<-AD w (.cells #[.slice aW AA.length cW,.slice aP b.AM.length cP,.slice aL b.AQ.length cL,.slice aN b.AJ.length cQ,.slice aX b.AK.length cX,.slice aT b.sn.length cT,.slice aF b.fr.length cF,.slice aR b.rws.length cR] 103)];exact KAX _ _
 rw[<-hw1];clear hw1;have CC:Hid (∀k u,(#[.slice aW AA.length cW,.slice aP b.AM.length cP,.slice aL b.AQ.length cL,.slice aN b.AJ.length cQ,.slice aX b.AK.length cX,.slice aT b.sn.length cT,.slice aF b.fr.length cF,.slice aR b.rws.length cR]:Array Value)[k]? = some u->w1.cell? ⟨w.heap.size,k,none⟩=some u):=AI (fun k u hk=>by rw[KAL w1 _ k _ _ _ hB1];exact hk);have S1:=AI s1;have s2:w.heap.size+1<w1.heap.size:=by omega
 clear s1;go_cut [3] from 6 (fun s3 wx=>∃D bv' bs N,s3 = .pointer (some ⟨D,0,none⟩)/\AU wx w1.heap.size D bv' [] [] bs N AA (ZQ b)/\w1.heap.size<=bs/\AC w1 wx)
 case first=>
  refine Bv (by kernel_rfl) (fun listed a w3=>∃(B:Nat->Bool) (R:Nat->Rw) (bs:Nat) (N:Nat) (D:Nat) (x3 x6 x7 x8 x9 x10 x11 x12 x13 x14 x15 x16 x17 x18 x19 x20 x21 x22 x23 x24:Value),listed=#[B 0,B 1,B 2,B 3,B 4,B 5,B 6,B 7,B 8,B 9,B 10,B 11,B 12,B 13,B 14,B 15,B 16,B 17,B 18,B 19,B 20]/\a=⟨#[.agg #[.slice aW AA.length cW,.slice aP b.AM.length cP,.slice aL b.AQ.length cL,.slice aN b.AJ.length cQ,.slice aX b.AK.length cX,.slice aT b.sn.length cT,.slice aF b.fr.length cF,.slice aR b.rws.length cR],.pointer (some ⟨w.heap.size,0,none⟩),.pointer (some ⟨w.heap.size+1,0,none⟩),x3,undef,undef,x6,x7,x8,x9,x10,x11,x12,x13,x14,x15,x16,x17,x18,x19,x20,x21,x22,x23,x24,undef,undef,undef,undef,undef,undef,undef,undef,undef,undef,undef,undef,undef,undef,undef,undef,undef,undef,undef,undef,undef,undef,undef,undef,undef,undef,undef,undef,undef,undef,undef,undef,undef,undef,undef,undef,undef,undef],[]⟩/\rH w w1 AA b aW aP aL aX aT aF cW cP cL cX cT cF B R bs N D x3 x6 x7 x8 x9 x10 x11 x12 x13 x14 x15 x16 x17 x18 x19 x20 x21 x22 x23 x24 w3) ?_ ?_ ?_
  . exact⟨fun _=>false,fun _=>⟨0,0,AF,0,[]⟩,0,0,0,undef,undef,undef,undef,undef,undef,undef,undef,undef,undef,undef,undef,undef,undef,undef,undef,undef,undef,undef,undef,rfl,rfl,⟨Mk.start _ _ _ _ _ _ _ _,(AC.refl w1).drew,(fun q=>by cases q),(fun q=>by cases q),(fun q=>by cases q),(fun q=>by cases q),(fun q=>by cases q),(fun q=>by cases q),(fun q=>by cases q),(fun q=>by cases q),(fun q=>by cases q),(fun q=>by cases q),(fun q=>by cases q),(fun q=>by cases q),(fun q=>by cases q),(fun q=>by cases q),(fun q=>by cases q),(fun q=>by cases q),(fun q=>by cases q),(fun q=>by cases q),(fun q=>by cases q),(fun q=>by cases q),(fun q=>by cases q),(fun q=>by cases q)⟩⟩
  ·
   rintro listed a w3 ⟨B,R,bs,N,D,x3,x6,x7,x8,x9,x10,x11,x12,x13,x14,x15,x16,x17,x18,x19,x20,x21,x22,x23,x24,rfl,rfl,h'⟩ i hi;have hlt:=(AE hi).1;have hcs:i=0\/i=1\/i=2\/i=3\/i=4\/i=5\/i=6\/i=7\/i=8\/i=9\/i=10\/i=11\/i=12\/i=13\/i=14\/i=15\/i=16\/i=17\/i=18\/i=19\/i=20:=by simp at hlt;omega
   rcases hcs with rfl|rfl|rfl|rfl|rfl|rfl|rfl|rfl|rfl|rfl|rfl|rfl|rfl|rfl|rfl|rfl|rfl|rfl|rfl|rfl|rfl
   ·
    have hbi:B 0=false:=by simpa using (AE hi).2.1
    refine AG rfl rfl (fun K hK=>?_);simp only[KAG,KAA];go_simp;refine hK.out _ _ ?_;exact⟨AY B 0,R,bs,N,D,_,_,_,_,_,_,_,_,_,_,_,_,_,_,_,_,_,_,_,_,rfl,rfl,{ h' with F0:=(fun _=>rfl),HM:=h'.HM.pass (by decide) }⟩
   ·
    have hbi:B 1=false:=by simpa using (AE hi).2.1
    have d0:B 0=true:=AH hi 0 rfl (by kernel_rfl);have dc:w3.cell? ⟨w.heap.size,0,none⟩=some (.slice aW AA.length cW):=(h'.HK.cell (by omega)).trans (CC.out 0 _ rfl);have Ex:=AI (h'.F0 d0);rw[Ex.out];refine AG rfl rfl (fun K hK=>?_);simp only[KAG,KAB,KAA];go_simp;refine hK.out _ _ ?_;have ex:=Ex.out;subst ex;exact⟨AY B 1,R,bs,N,D,_,_,_,_,_,_,_,_,_,_,_,_,_,_,_,_,_,_,_,_,rfl,rfl,{ h' with F1:=(fun _=>rfl),HM:=h'.HM.pass (by decide) }⟩
   ·
    have hbi:B 2=false:=by simpa using (AE hi).2.1
    have d1:B 1=true:=AH hi 1 rfl (by kernel_rfl);have hsz:=h'.HK.size;have Ex:=AI (h'.F1 d1);rw[Ex.out];refine AG rfl rfl (fun K hK=>?_);simp only[KAG,KAB,KAA];go_simp;refine (Nk _ _ _ (h.W.keep (K1.trans h'.HK)) (by omega) hll).mono ?_;rintro e wz ⟨vz,rfl,hx,kk⟩;go_wp2_with fail
    refine hK.out _ _ ?_;have ex:=Ex.out;subst ex;have HM:=h'.HM;rw[hbi] at HM;obtain⟨az,cz,ez,-⟩:=id hx;exact⟨AY B 2,R,_,_,D,_,_,_,_,_,_,_,_,_,_,_,_,_,_,_,_,_,_,_,_,rfl,rfl,{ h' with F18:=(fun q=>absurd (h'.F18 q).1.1 (by rw[hbi];simp)),F21:=(fun q=>absurd (h'.F18 (h'.F20 q).1).1.1 (by rw[hbi];simp)),F2:=(fun _=>⟨az,cz,ez⟩),HM:=HM.copied (by decide) kk hx hsz,HK:=h'.HK.trans kk }⟩
   ·
    have hbi:B 3=false:=by simpa using (AE hi).2.1
    refine AG rfl rfl (fun K hK=>?_);simp only[KAG,KAB,KAA];go_simp;refine hK.out _ _ ?_;exact⟨AY B 3,R,bs,N,D,_,_,_,_,_,_,_,_,_,_,_,_,_,_,_,_,_,_,_,_,rfl,rfl,{ h' with F3:=(fun _=>rfl),HM:=h'.HM.pass (by decide) }⟩
   ·
    have hbi:B 4=false:=by simpa using (AE hi).2.1
    have d3:B 3=true:=AH hi 3 rfl (by kernel_rfl);have dc:w3.cell? ⟨w.heap.size,1,none⟩=some (.slice aP b.AM.length cP):=(h'.HK.cell (by omega)).trans (CC.out 1 _ rfl);have Ex:=AI (h'.F3 d3);rw[Ex.out];refine AG rfl rfl (fun K hK=>?_);simp only[KAG,KAB,KAA];go_simp;refine hK.out _ _ ?_;have ex:=Ex.out;subst ex;exact⟨AY B 4,R,bs,N,D,_,_,_,_,_,_,_,_,_,_,_,_,_,_,_,_,_,_,_,_,rfl,rfl,{ h' with F4:=(fun _=>rfl),HM:=h'.HM.pass (by decide) }⟩
   ·
    have hbi:B 5=false:=by simpa using (AE hi).2.1
    have d4:B 4=true:=AH hi 4 rfl (by kernel_rfl);have hsz:=h'.HK.size;have Ex:=AI (h'.F4 d4);rw[Ex.out];refine AG rfl rfl (fun K hK=>?_);simp only[KAG,KAB,KAA];go_simp;refine (Dv _ _ _ (h.P.keep (K1.trans h'.HK)) (by omega)).mono ?_;rintro e wz ⟨vz,rfl,oz,kk⟩;go_wp2_with fail
    refine hK.out _ _ ?_;have ex:=Ex.out;subst ex;obtain⟨az,cz,ez,-⟩:=oz.rd;exact⟨AY B 5,_,bs,N,D,_,_,_,_,_,_,_,_,_,_,_,_,_,_,_,_,_,_,_,_,rfl,rfl,{ h' with F18:=(fun q=>absurd (h'.F18 q).1.2.1 (by rw[hbi];simp)),F21:=(fun q=>absurd (h'.F18 (h'.F20 q).1).1.2.1 (by rw[hbi];simp)),F5:=(fun _=>⟨⟨az,cz,ez⟩,rfl⟩),HM:=h'.HM.add hbi kk (show (Bk b.AM vz).own wz w1.heap.size from oz.BK hsz) (fun q hq=>oz.ge q hq),HK:=h'.HK.trans kk }⟩
   ·
    have hbi:B 6=false:=by simpa using (AE hi).2.1
    refine AG rfl rfl (fun K hK=>?_);simp only[KAG,KAB,KAA];go_simp;refine hK.out _ _ ?_;exact⟨AY B 6,R,bs,N,D,_,_,_,_,_,_,_,_,_,_,_,_,_,_,_,_,_,_,_,_,rfl,rfl,{ h' with F6:=(fun _=>rfl),HM:=h'.HM.pass (by decide) }⟩
   ·
    have hbi:B 7=false:=by simpa using (AE hi).2.1
    have d6:B 6=true:=AH hi 6 rfl (by kernel_rfl);have dc:w3.cell? ⟨w.heap.size,2,none⟩=some (.slice aL b.AQ.length cL):=(h'.HK.cell (by omega)).trans (CC.out 2 _ rfl);have Ex:=AI (h'.F6 d6);rw[Ex.out];refine AG rfl rfl (fun K hK=>?_);simp only[KAG,KAB,KAA];go_simp;refine hK.out _ _ ?_;have ex:=Ex.out;subst ex;exact⟨AY B 7,R,bs,N,D,_,_,_,_,_,_,_,_,_,_,_,_,_,_,_,_,_,_,_,_,rfl,rfl,{ h' with F7:=(fun _=>rfl),HM:=h'.HM.pass (by decide) }⟩
   ·
    have hbi:B 8=false:=by simpa using (AE hi).2.1
    have d7:B 7=true:=AH hi 7 rfl (by kernel_rfl);have hsz:=h'.HK.size;have Ex:=AI (h'.F7 d7);rw[Ex.out];refine AG rfl rfl (fun K hK=>?_);simp only[KAG,KAB,KAA];go_simp;refine (Dv _ _ _ (h.L.keep (K1.trans h'.HK)) (by omega)).mono ?_;rintro e wz ⟨vz,rfl,oz,kk⟩;go_wp2_with fail
    refine hK.out _ _ ?_;have ex:=Ex.out;subst ex;obtain⟨az,cz,ez,-⟩:=oz.rd;exact⟨AY B 8,_,bs,N,D,_,_,_,_,_,_,_,_,_,_,_,_,_,_,_,_,_,_,_,_,rfl,rfl,{ h' with F18:=(fun q=>absurd (h'.F18 q).1.2.2.1 (by rw[hbi];simp)),F21:=(fun q=>absurd (h'.F18 (h'.F20 q).1).1.2.2.1 (by rw[hbi];simp)),F8:=(fun _=>⟨⟨az,cz,ez⟩,rfl⟩),HM:=h'.HM.add hbi kk (show (Bk b.AQ vz).own wz w1.heap.size from oz.BK hsz) (fun q hq=>oz.ge q hq),HK:=h'.HK.trans kk }⟩
   ·
    have hbi:B 9=false:=by simpa using (AE hi).2.1
    refine AG rfl rfl (fun K hK=>?_);simp only[KAG,KAB,KAA];go_simp;refine hK.out _ _ ?_;exact⟨AY B 9,R,bs,N,D,_,_,_,_,_,_,_,_,_,_,_,_,_,_,_,_,_,_,_,_,rfl,rfl,{ h' with F9:=(fun _=>rfl),HM:=h'.HM.pass (by decide) }⟩
   ·
    have hbi:B 10=false:=by simpa using (AE hi).2.1
    have d9:B 9=true:=AH hi 9 rfl (by kernel_rfl);have dc:w3.cell? ⟨w.heap.size,4,none⟩=some (.slice aX b.AK.length cX):=(h'.HK.cell (by omega)).trans (CC.out 4 _ rfl);have Ex:=AI (h'.F9 d9);rw[Ex.out];refine AG rfl rfl (fun K hK=>?_);simp only[KAG,KAB,KAA];go_simp;refine hK.out _ _ ?_;have ex:=Ex.out;subst ex;exact⟨AY B 10,R,bs,N,D,_,_,_,_,_,_,_,_,_,_,_,_,_,_,_,_,_,_,_,_,rfl,rfl,{ h' with F10:=(fun _=>rfl),HM:=h'.HM.pass (by decide) }⟩
   ·
    have hbi:B 11=false:=by simpa using (AE hi).2.1
    have d10:B 10=true:=AH hi 10 rfl (by kernel_rfl);have hsz:=h'.HK.size;have Ex:=AI (h'.F10 d10);rw[Ex.out];refine AG rfl rfl (fun K hK=>?_);simp only[KAG,KAB,KAA];go_simp;refine (Dv _ _ _ (h.X.keep (K1.trans h'.HK)) (by omega)).mono ?_;rintro e wz ⟨vz,rfl,oz,kk⟩;go_wp2_with fail
    refine hK.out _ _ ?_;have ex:=Ex.out;subst ex;obtain⟨az,cz,ez,-⟩:=oz.rd;exact⟨AY B 11,_,bs,N,D,_,_,_,_,_,_,_,_,_,_,_,_,_,_,_,_,_,_,_,_,rfl,rfl,{ h' with F18:=(fun q=>absurd (h'.F18 q).1.2.2.2.1 (by rw[hbi];simp)),F21:=(fun q=>absurd (h'.F18 (h'.F20 q).1).1.2.2.2.1 (by rw[hbi];simp)),F11:=(fun _=>⟨⟨az,cz,ez⟩,rfl⟩),HM:=h'.HM.add hbi kk (show (Bk b.AK vz).own wz w1.heap.size from oz.BK hsz) (fun q hq=>oz.ge q hq),HK:=h'.HK.trans kk }⟩
   ·
    have hbi:B 12=false:=by simpa using (AE hi).2.1
    refine AG rfl rfl (fun K hK=>?_);simp only[KAG,KAB,KAA];go_simp;refine hK.out _ _ ?_;exact⟨AY B 12,R,bs,N,D,_,_,_,_,_,_,_,_,_,_,_,_,_,_,_,_,_,_,_,_,rfl,rfl,{ h' with F12:=(fun _=>rfl),HM:=h'.HM.pass (by decide) }⟩
   ·
    have hbi:B 13=false:=by simpa using (AE hi).2.1
    have d12:B 12=true:=AH hi 12 rfl (by kernel_rfl);have dc:w3.cell? ⟨w.heap.size,5,none⟩=some (.slice aT b.sn.length cT):=(h'.HK.cell (by omega)).trans (CC.out 5 _ rfl);have Ex:=AI (h'.F12 d12);rw[Ex.out];refine AG rfl rfl (fun K hK=>?_);simp only[KAG,KAB,KAA];go_simp;refine hK.out _ _ ?_;have ex:=Ex.out;subst ex;exact⟨AY B 13,R,bs,N,D,_,_,_,_,_,_,_,_,_,_,_,_,_,_,_,_,_,_,_,_,rfl,rfl,{ h' with F13:=(fun _=>rfl),HM:=h'.HM.pass (by decide) }⟩
   ·
    have hbi:B 14=false:=by simpa using (AE hi).2.1
    have d13:B 13=true:=AH hi 13 rfl (by kernel_rfl);have hsz:=h'.HK.size;have Ex:=AI (h'.F13 d13);rw[Ex.out];refine AG rfl rfl (fun K hK=>?_);simp only[KAG,KAB,KAA];go_simp;refine (Dv _ _ _ (h.S.keep (K1.trans h'.HK)) (by omega)).mono ?_;rintro e wz ⟨vz,rfl,oz,kk⟩;go_wp2_with fail
    refine hK.out _ _ ?_;have ex:=Ex.out;subst ex;obtain⟨az,cz,ez,-⟩:=oz.rd;exact⟨AY B 14,_,bs,N,D,_,_,_,_,_,_,_,_,_,_,_,_,_,_,_,_,_,_,_,_,rfl,rfl,{ h' with F18:=(fun q=>absurd (h'.F18 q).1.2.2.2.2.1 (by rw[hbi];simp)),F21:=(fun q=>absurd (h'.F18 (h'.F20 q).1).1.2.2.2.2.1 (by rw[hbi];simp)),F14:=(fun _=>⟨⟨az,cz,ez⟩,rfl⟩),HM:=h'.HM.add hbi kk (show (Bk b.sn vz).own wz w1.heap.size from oz.BK hsz) (fun q hq=>oz.ge q hq),HK:=h'.HK.trans kk }⟩
   ·
    have hbi:B 15=false:=by simpa using (AE hi).2.1
    refine AG rfl rfl (fun K hK=>?_);simp only[KAG,KAB,KAA];go_simp;refine hK.out _ _ ?_;exact⟨AY B 15,R,bs,N,D,_,_,_,_,_,_,_,_,_,_,_,_,_,_,_,_,_,_,_,_,rfl,rfl,{ h' with F15:=(fun _=>rfl),HM:=h'.HM.pass (by decide) }⟩
   ·
    have hbi:B 16=false:=by simpa using (AE hi).2.1
    have d15:B 15=true:=AH hi 15 rfl (by kernel_rfl);have dc:w3.cell? ⟨w.heap.size,6,none⟩=some (.slice aF b.fr.length cF):=(h'.HK.cell (by omega)).trans (CC.out 6 _ rfl);have Ex:=AI (h'.F15 d15);rw[Ex.out];refine AG rfl rfl (fun K hK=>?_);simp only[KAG,KAB,KAA];go_simp;refine hK.out _ _ ?_;have ex:=Ex.out;subst ex;exact⟨AY B 16,R,bs,N,D,_,_,_,_,_,_,_,_,_,_,_,_,_,_,_,_,_,_,_,_,rfl,rfl,{ h' with F16:=(fun _=>rfl),HM:=h'.HM.pass (by decide) }⟩
   ·
    have hbi:B 17=false:=by simpa using (AE hi).2.1
    have d16:B 16=true:=AH hi 16 rfl (by kernel_rfl);have hsz:=h'.HK.size;have Ex:=AI (h'.F16 d16);rw[Ex.out];refine AG rfl rfl (fun K hK=>?_);simp only[KAG,KAB,KAA];go_simp;refine (Dv _ _ _ (h.F.keep (K1.trans h'.HK)) (by omega)).mono ?_;rintro e wz ⟨vz,rfl,oz,kk⟩;go_wp2_with fail
    refine hK.out _ _ ?_;have ex:=Ex.out;subst ex;obtain⟨az,cz,ez,-⟩:=oz.rd;exact⟨AY B 17,_,bs,N,D,_,_,_,_,_,_,_,_,_,_,_,_,_,_,_,_,_,_,_,_,rfl,rfl,{ h' with F18:=(fun q=>absurd (h'.F18 q).1.2.2.2.2.2 (by rw[hbi];simp)),F21:=(fun q=>absurd (h'.F18 (h'.F20 q).1).1.2.2.2.2.2 (by rw[hbi];simp)),F17:=(fun _=>⟨⟨az,cz,ez⟩,rfl⟩),HM:=h'.HM.add hbi kk (show (Bk b.fr vz).own wz w1.heap.size from oz.BK hsz) (fun q hq=>oz.ge q hq),HK:=h'.HK.trans kk }⟩
   ·
    have hbi:B 18=false:=by simpa using (AE hi).2.1
    have d2:B 2=true:=AH hi 2 rfl (by kernel_rfl);have d5:B 5=true:=AH hi 5 rfl (by kernel_rfl);have d8:B 8=true:=AH hi 8 rfl (by kernel_rfl);have d11:B 11=true:=AH hi 11 rfl (by kernel_rfl);have d14:B 14=true:=AH hi 14 rfl (by kernel_rfl);have d17:B 17=true:=AH hi 17 rfl (by kernel_rfl);obtain⟨a1,c1,e1⟩:=h'.F2 d2;obtain⟨⟨a5,c5,e5⟩,-⟩:=h'.F5 d5;obtain⟨⟨a8,c8,e8⟩,-⟩:=h'.F8 d8;obtain⟨⟨a11,c11,e11⟩,-⟩:=h'.F11 d11;obtain⟨⟨a14,c14,e14⟩,-⟩:=h'.F14 d14;obtain⟨⟨a17,c17,e17⟩,-⟩:=h'.F17 d17;have Ep1:=AI (e1);rw[Ep1.out];have Ep5:=AI (e5);rw[Ep5.out];have Ep8:=AI (e8);rw[Ep8.out];have rV:=AI (e11);rw[rV.out];have rY:=AI (e14);rw[rY.out];have Yk:=AI (e17);rw[Yk.out];refine AG rfl rfl (fun K hK=>?_);simp only[KAG,KAB,KAA];clear e1 e5 e8 e11 e14 e17;go_simp;refine hK.out _ _ ?_;have ep1:=Ep1.out;subst ep1;have ep5:=Ep5.out;subst ep5;have ep8:=Ep8.out;subst ep8;have ep11:=rV.out;subst ep11;have ep14:=rY.out;subst ep14;have ep17:=Yk.out;subst ep17;exact⟨AY B 18,R,bs,N,D,_,_,_,_,_,_,_,_,_,_,_,_,_,_,_,_,_,_,_,_,rfl,rfl,{ h' with F18:=(fun _=>⟨⟨d2,d5,d8,d11,d14,d17⟩,rfl⟩),F20:=(fun q=>absurd (h'.F20 q).1 (by rw[hbi];simp)),HM:=h'.HM.pass (by decide) }⟩
   ·
    have hbi:B 19=false:=by simpa using (AE hi).2.1
    have hsz:=h'.HK.size;refine AG rfl rfl (fun K hK=>?_);simp only[KAG,KAB,KAA];go_simp;refine hK.out _ _ ?_;exact⟨AY B 19,_,bs,N,w3.heap.size,_,_,_,_,_,_,_,_,_,_,_,_,_,_,_,_,_,_,_,_,rfl,rfl,{ h' with HM:=h'.HM.add hbi ((AC.refl w3).alloc _) (VD w3 hsz) (fun b hb=>GN hb),HK:=h'.HK.alloc _,F19:=(fun _=>⟨rfl,rfl,fun _=>rfl⟩),F20:=(fun q=>absurd (h'.F20 q).2 (by rw[hbi];simp)),F21:=(fun q=>absurd (h'.F20 q).2 (by rw[hbi];simp)) }⟩
   ·
    have hbi:B 20=false:=by simpa using (AE hi).2.1
    have d18:B 18=true:=AH hi 18 rfl (by kernel_rfl);have d19:B 19=true:=AH hi 19 rfl (by kernel_rfl);have hsz:=h'.HK.size;obtain⟨dd,e24⟩:=h'.F18 d18;obtain⟨e3,er,ez⟩:=h'.F19 d19;have o19:=h'.HM.Ag.own 19 ⟨by decide,d19⟩;rw[ez hbi] at o19;obtain⟨⟨old,hz,hos⟩,ho⟩:=VE o19 (v:=⟨x8,x11,x14,AF,x17,x20,x23,AF⟩);obtain⟨a1,c1,e1⟩:=h'.F2 dd.1;obtain⟨⟨a5,c5,e5⟩,-⟩:=h'.F5 dd.2.1;obtain⟨⟨a8,c8,e8⟩,-⟩:=h'.F8 dd.2.2.1;obtain⟨⟨a11,c11,e11⟩,-⟩:=h'.F11 dd.2.2.2.1;obtain⟨⟨a14,c14,e14⟩,-⟩:=h'.F14 dd.2.2.2.2.1;obtain⟨⟨a17,c17,e17⟩,-⟩:=h'.F17 dd.2.2.2.2.2;have hone:(BV.arr ⟨x8,x11,x14,AF,x17,x20,x23,AF⟩).all (·.oneCell')=true:=by rw[e1,e5,e8,e11,e14,e17];simp[Value.oneCell']
    clear e1 e5 e8 e11 e14 e17;have Ep:=AI (e24);rw[Ep.out];have Eq:=AI (e3);rw[Eq.out];refine AG rfl rfl (fun K hK=>?_);simp only[KAG,KAB,KAA];clear e24 e3;refine wp_store_row 103 _ _ rfl D _ rfl rfl 103 old hz AR hos hone ?_;refine hK.out _ _ ?_;have ep:=Ep.out;subst ep;have eq:=Eq.out;subst eq;exact⟨AY B 20,_,bs,N,D,_,_,_,_,_,_,_,_,_,_,_,_,_,_,_,_,_,_,_,_,rfl,rfl,{ h' with HM:=h'.HM.turn (by decide) ⟨by decide,d19⟩ (r:=Hi D ⟨x8,x11,x14,AF,x17,x20,x23,AF⟩) (by rw[er];exact As _ _ _) (by rw[er]) ho,HK:=h'.HK.grown (As _ D _) (fun b hb=>by have:=(h'.HM.Ag.lt ⟨by decide,d19⟩ D (by rw[er];rfl)).1;have:=KAI hb;omega),F19:=(fun _=>⟨rfl,rfl,fun q=>by cases q⟩),F20:=(fun _=>⟨d18,d19⟩),F21:=(fun _=>rfl) }⟩
  ·
   rintro listed a w3 ⟨B,R,bs,N,D,x3,x6,x7,x8,x9,x10,x11,x12,x13,x14,x15,x16,x17,x18,x19,x20,x21,x22,x23,x24,rfl,rfl,h'⟩ hr;have hall:=Dx hr rfl (by kernel_rfl);have b2:B 2=true:=hall 2 (by simp);have b5:B 5=true:=hall 5 (by simp);have b8:B 8=true:=hall 8 (by simp);have b11:B 11=true:=hall 11 (by simp);have b14:B 14=true:=hall 14 (by simp);have b17:B 17=true:=hall 17 (by simp);have b19:B 19=true:=hall 19 (by simp);have b20:B 20=true:=hall 20 (by simp);clear hall;obtain⟨HM,HK,F0,F1,F2,F3,F4,F5,F6,F7,F8,F9,F10,F11,F12,F13,F14,F15,F16,F17,F18,F19,F20,F21⟩:=h';clear hr;have HB:=oZ (by rw[b2] at HM;exact HM) b5 b8 b11 b14 b17 b19 (F5 b5).2 (F8 b8).2 (F11 b11).2 (F14 b14).2 (F17 b17).2 (F21 b20);have HW:=((by rw[b2] at HM;exact HM):Mk w3 w1.heap.size _ R true x8 bs N AA).work rfl;have e3:=(F19 b19).1;clear HM F0 F1 F2 F3 F4 F5 F6 F7 F8 F9 F10 F11 F12 F13 F14 F15 F16 F17 F18 F19 F20 F21;subst e3;go_wp2;go_meet;case rel=>exact⟨D,_,bs,N,rfl,HB,HW.2.2,HK⟩
 case rest=>
  obtain⟨D,bv',bs,N,rfl,H,hbs,kc⟩:=hcut;obtain⟨j0,hj,hy0,hy1,hy2⟩:=KA3 Tryz.Ql;go_wp2;go_loopw [4] (fun i wr=>∃(k:Nat) (bw:BV) (nv:List Value),k<=b.AJ.length/\i = .int .i64 k/\AU wr w1.heap.size D bw nv [] bs N AA { ZQ b with AJ:=b.AJ.take k }/\AC w1 wr) (fun i _=>b.AJ.length-(intOf i).toNat)
  case atStart=>exact⟨0,bv',[],KAb _,rfl,H,kc⟩
  case round=>
   obtain⟨k,bw,nv,hk,rfl,Hr,kr⟩:=hrel;clear H kc;have hbw:w.heap.size<wr.heap.size:=by have:=kr.size;omega
   have hB3:wr.cell? ⟨w.heap.size,3,none⟩=some (.slice aN b.AJ.length cQ):=(kr.cell (by omega)).trans (CC.out 3 _ rfl);by_cases hlt:k<b.AJ.length
   ·
    obtain⟨a',c',e',hN⟩:=h.N;simp only[KAT,KA8] at e';obtain⟨rfl,rfl⟩:=e';rcases hN with h0|⟨bN,oN,rfl,hbN0,mJ⟩
    . exfalso;rw[h0] at hlt;simp at hlt
    obtain⟨vi,dE0,wL⟩:=mJ k hlt;have nl:(b.AJ.getD k []).length<=8:=HQ.out.2.2.2 k (by have:=HQ.out.2.1;omega);have nk:b.AJ.length<=3:=by have:=HQ.out.2.1;omega
    have HT:Hid (b.AJ.take (k+1)=b.AJ.take k++[b.AJ.getD k []]):=AI (by rw[KBQ,IT,KAH hlt];rfl);generalize b.AJ.getD k []=ns at *;have KK:=K1.trans kr;have dE:=(KK.cell hbN0).trans dE0;have rE:=wL.keep KK;obtain⟨ai,ci,rfl,-⟩:=id rE;have hbN:bN<wr.heap.size:=KAC hbN0 KK.size;have hbD:=Hr.base.2;have hbs2:=Hr.base.1;have hln:nv.length=k:=by have:=Hr.ln;simp only[KAz] at this;omega
    obtain⟨aM,cM,eN,-⟩:=Hr.hN;have eN2:bw.N = .slice aM k cM:=by rw[eN];simp only[KAz];rw[KBh hk]
    have dM:wr.cell? ⟨D,3,none⟩=some (.slice aM k cM):=by rw[<-eN2];exact Hr.cells.2.2.2.1
    have HR0:wr.ownsRow w1.heap.size 151 1 (.slice aM k cM) k nv:=by
     have o:wr.ownsRow w1.heap.size 151 1 bw.N nv.length nv:=Hr.Ag.own .AJ trivial;rw[eN2,hln] at o;exact o
    have sr:=kr.size;have i1:(0:Int)<=(k:Int):=KAK _;have i2:(k:Int)<(b.AJ.length:Int):=by omega
    have HH:=AI Hr;have lK:=AI eN2;have lM:=AI hln;clear Hr eN eN2 hln dE0 wL mJ;go_upto_region 5 with fail
    refine Bv (by kernel_rfl) (fun listed a w3=>∃(B:Nat->Bool) (G:Nat) (x32 x33 x34 x35 x36 x37 x38 x39 x40 x41 x42 x43:Value),listed=#[B 0,B 1,B 2,B 3,B 4,B 5,B 6,B 7,B 8,B 9,B 10,B 11,B 12]/\a=⟨#[.agg #[.slice aW AA.length cW,.slice aP b.AM.length cP,.slice aL b.AQ.length cL,.slice (some ⟨bN,oN,none⟩) b.AJ.length cQ,.slice aX b.AK.length cX,.slice aT b.sn.length cT,.slice aF b.fr.length cF,.slice aR b.rws.length cR],.pointer (some ⟨w.heap.size,0,none⟩),.pointer (some ⟨w.heap.size+1,0,none⟩),.pointer (some ⟨D,0,none⟩),.int .i64 (k:Int),undef,u6,u7,u8,u9,u10,u11,u12,u13,u14,u15,u16,u17,u18,u19,u20,u21,u22,u23,u24,.int .i64 (k:Int),.pointer (some ⟨w.heap.size,3,none⟩),.slice (some ⟨bN,oN,none⟩) b.AJ.length cQ,.int .i64 (b.AJ.length:Int),.bool true,u30,u31,x32,x33,x34,x35,x36,x37,x38,x39,x40,x41,x42,x43,u44,u45,u46,u47,u48,u49,u50,u51,u52,u53,u54,u55,u56,u57,u58,u59,u60,u61,u62],[]⟩/\rJ w w1 wr D k aM cM bN oN cQ ai ci ns b bw nv bs N AA B G x32 x33 x34 x35 x36 x37 x38 x39 x40 x41 x42 x43 w3) ?_ ?_ ?_
    . exact⟨fun _=>false,0,u32,u33,u34,u35,u36,u37,u38,u39,u40,u41,u42,u43,rfl,rfl,⟨(fun _=>(AC.refl wr).drew),(fun q=>by cases q),(fun q=>by cases q),(fun q=>by cases q),(fun q=>by cases q),(fun q=>by cases q),(fun q=>by cases q),(fun q=>by cases q),(fun q=>by cases q),(fun q=>by cases q),(fun q=>by cases q),(fun q=>by cases q),(fun q=>by cases q),(fun q=>by cases q),(fun q=>by cases q),(fun q=>by cases q),(fun q=>by cases q)⟩⟩
    ·
     rintro listed a w3 ⟨B,G,x32,x33,x34,x35,x36,x37,x38,x39,x40,x41,x42,x43,rfl,rfl,h'⟩ i hi;have hlt:=(AE hi).1;have hcs:i=0\/i=1\/i=2\/i=3\/i=4\/i=5\/i=6\/i=7\/i=8\/i=9\/i=10\/i=11\/i=12:=by simp at hlt;omega
     rcases hcs with rfl|rfl|rfl|rfl|rfl|rfl|rfl|rfl|rfl|rfl|rfl|rfl|rfl
     ·
      have hbi:B 0=false:=by simpa using (AE hi).2.1
      refine AG rfl rfl (fun K hK=>?_);simp only[KAG,KAA];go_simp;refine hK.out _ _ ?_;exact⟨AY B 0,G,_,_,_,_,_,_,_,_,_,_,_,_,rfl,rfl,{ h' with Bw:=(fun q=>absurd ((h'.Bw q).1 0 (by omega)) (by rw[hbi];simp)),KC:=(fun q=>absurd ((h'.Bw q).1 0 (by omega)) (by rw[hbi];simp)),FB:=(fun q=>absurd ((h'.Bw (h'.FB q).1).1 0 (by omega)) (by rw[hbi];simp)),gQ:=(fun _=>rfl),Tn:=(fun q=>absurd (h'.Tn q).1 (by rw[hbi];simp)) }⟩
     ·
      have hbi:B 1=false:=by simpa using (AE hi).2.1
      have d0:B 0=true:=AH hi 0 rfl (by kernel_rfl)
      have hac:B 10=false:=by
       cases e:B 10 with
       |false=>rfl
       |true=>exact absurd ((h'.Bw e).1 1 (by omega)) (by rw[hbi];simp)
      have dc:w3.cell? ⟨D,3,none⟩=some (.slice aM k cM):=((h'.HK hac).cell hbD).trans dM;have Ex:=AI (h'.gQ d0);rw[Ex.out];refine AG rfl rfl (fun K hK=>?_);simp only[KAG,KAB,KAA];go_simp;refine hK.out _ _ ?_;have ex:=Ex.out;subst ex;exact⟨AY B 1,G,_,_,_,_,_,_,_,_,_,_,_,_,rfl,rfl,{ h' with Bw:=(fun q=>absurd ((h'.Bw q).1 1 (by omega)) (by rw[hbi];simp)),KC:=(fun q=>absurd ((h'.Bw q).1 1 (by omega)) (by rw[hbi];simp)),FB:=(fun q=>absurd ((h'.Bw (h'.FB q).1).1 1 (by omega)) (by rw[hbi];simp)),Tn:=(fun _=>⟨d0,rfl⟩) }⟩
     ·
      have hbi:B 2=false:=by simpa using (AE hi).2.1
      have hac:B 10=false:=by
       cases e:B 10 with
       |false=>rfl
       |true=>exact absurd ((h'.Bw e).1 2 (by omega)) (by rw[hbi];simp)
      have hsz:=(h'.HK hac).size;refine AG rfl rfl (fun K hK=>?_);simp only[KAG,KAB,KAA];go_simp;refine hK.out _ _ ?_;exact⟨AY B 2,G,_,_,_,_,_,_,_,_,_,_,_,_,rfl,rfl,{ h' with Bw:=(fun q=>absurd ((h'.Bw q).1 2 (by omega)) (by rw[hbi];simp)),KC:=(fun q=>absurd ((h'.Bw q).1 2 (by omega)) (by rw[hbi];simp)),FB:=(fun q=>absurd ((h'.Bw (h'.FB q).1).1 2 (by omega)) (by rw[hbi];simp)),HK:=(fun q=>(h'.HK q).alloc _),gX:=(fun _=>⟨_,rfl⟩),Rn:=(fun _ _=>KAo w3 #[] 0 hsz (by decide) rfl),Oh:=(fun q=>absurd (h'.Oh q).1.1 (by rw[hbi];simp)),PH:=(fun q=>absurd (h'.Oh q).1.1 (by rw[hbi];simp)),Ms:=(fun q=>absurd (h'.Oh (h'.Ms q).1).1.1 (by rw[hbi];simp)) }⟩
     ·
      have hbi:B 3=false:=by simpa using (AE hi).2.1
      refine AG rfl rfl (fun K hK=>?_);simp only[KAG,KAB,KAA];go_simp;refine hK.out _ _ ?_;exact⟨AY B 3,G,_,_,_,_,_,_,_,_,_,_,_,_,rfl,rfl,{ h' with Bw:=(fun q=>absurd ((h'.Bw q).1 3 (by omega)) (by rw[hbi];simp)),KC:=(fun q=>absurd ((h'.Bw q).1 3 (by omega)) (by rw[hbi];simp)),FB:=(fun q=>absurd ((h'.Bw (h'.FB q).1).1 3 (by omega)) (by rw[hbi];simp)),gV:=(fun _=>rfl),Tm:=(fun q=>absurd (h'.Tm q).1 (by rw[hbi];simp)) }⟩
     ·
      have hbi:B 4=false:=by simpa using (AE hi).2.1
      have d3:B 3=true:=AH hi 3 rfl (by kernel_rfl)
      have hac:B 10=false:=by
       cases e:B 10 with
       |false=>rfl
       |true=>exact absurd ((h'.Bw e).1 4 (by omega)) (by rw[hbi];simp)
      have dc:w3.cell? ⟨w.heap.size,3,none⟩=some (.slice (some ⟨bN,oN,none⟩) b.AJ.length cQ):=((h'.HK hac).cell hbw).trans hB3;have Ex:=AI (h'.gV d3);rw[Ex.out];refine AG rfl rfl (fun K hK=>?_);simp only[KAG,KAB,KAA];go_simp;refine hK.out _ _ ?_;have ex:=Ex.out;subst ex;exact⟨AY B 4,G,_,_,_,_,_,_,_,_,_,_,_,_,rfl,rfl,{ h' with Bw:=(fun q=>absurd ((h'.Bw q).1 4 (by omega)) (by rw[hbi];simp)),KC:=(fun q=>absurd ((h'.Bw q).1 4 (by omega)) (by rw[hbi];simp)),FB:=(fun q=>absurd ((h'.Bw (h'.FB q).1).1 4 (by omega)) (by rw[hbi];simp)),Tm:=(fun _=>⟨d3,rfl⟩),QM:=(fun q=>absurd (h'.QM q).1.1 (by rw[hbi];simp)) }⟩
     ·
      have hbi:B 5=false:=by simpa using (AE hi).2.1
      refine AG rfl rfl (fun K hK=>?_);simp only[KAG,KAB,KAA];go_simp;refine hK.out _ _ ?_;exact⟨AY B 5,G,_,_,_,_,_,_,_,_,_,_,_,_,rfl,rfl,{ h' with Bw:=(fun q=>absurd ((h'.Bw q).1 5 (by omega)) (by rw[hbi];simp)),KC:=(fun q=>absurd ((h'.Bw q).1 5 (by omega)) (by rw[hbi];simp)),FB:=(fun q=>absurd ((h'.Bw (h'.FB q).1).1 5 (by omega)) (by rw[hbi];simp)),gY:=(fun _=>rfl),QM:=(fun q=>absurd (h'.QM q).1.2 (by rw[hbi];simp)) }⟩
     ·
      have hbi:B 6=false:=by simpa using (AE hi).2.1
      have d4:B 4=true:=AH hi 4 rfl (by kernel_rfl);have d5:B 5=true:=AH hi 5 rfl (by kernel_rfl);have Ex:=AI ((h'.Tm d4).2);rw[Ex.out];have Ey:=AI (h'.gY d5);rw[Ey.out];refine AG rfl rfl (fun K hK=>?_);simp only[KAG,KAB,KAA];go_simp;refine hK.out _ _ ?_;have ex:=Ex.out;subst ex;have ey:=Ey.out;subst ey;exact⟨AY B 6,G,_,_,_,_,_,_,_,_,_,_,_,_,rfl,rfl,{ h' with Bw:=(fun q=>absurd ((h'.Bw q).1 6 (by omega)) (by rw[hbi];simp)),KC:=(fun q=>absurd ((h'.Bw q).1 6 (by omega)) (by rw[hbi];simp)),FB:=(fun q=>absurd ((h'.Bw (h'.FB q).1).1 6 (by omega)) (by rw[hbi];simp)),QM:=(fun _=>⟨⟨d4,d5⟩,rfl⟩),To:=(fun q=>absurd (h'.To q).1 (by rw[hbi];simp)) }⟩
     ·
      have hbi:B 7=false:=by simpa using (AE hi).2.1
      have d6:B 6=true:=AH hi 6 rfl (by kernel_rfl)
      have hac:B 10=false:=by
       cases e:B 10 with
       |false=>rfl
       |true=>exact absurd ((h'.Bw e).1 7 (by omega)) (by rw[hbi];simp)
      have dc:w3.cell? ⟨bN,oN+k,none⟩=some (.slice ai ns.length (ns.length+ci)):=((h'.HK hac).cell hbN).trans dE;have Ex:=AI ((h'.QM d6).2);rw[Ex.out];refine AG rfl rfl (fun K hK=>?_);simp only[KAG,KAB,KAA];go_simp;refine hK.out _ _ ?_;have ex:=Ex.out;subst ex;exact⟨AY B 7,G,_,_,_,_,_,_,_,_,_,_,_,_,rfl,rfl,{ h' with Bw:=(fun q=>absurd ((h'.Bw q).1 7 (by omega)) (by rw[hbi];simp)),KC:=(fun q=>absurd ((h'.Bw q).1 7 (by omega)) (by rw[hbi];simp)),FB:=(fun q=>absurd ((h'.Bw (h'.FB q).1).1 7 (by omega)) (by rw[hbi];simp)),To:=(fun _=>⟨d6,rfl⟩),Oh:=(fun q=>absurd (h'.Oh q).1.2 (by rw[hbi];simp)),PH:=(fun q=>absurd (h'.Oh q).1.2 (by rw[hbi];simp)) }⟩
     ·
      have hbi:B 8=false:=by simpa using (AE hi).2.1
      have d2:B 2=true:=AH hi 2 rfl (by kernel_rfl);have d7:B 7=true:=AH hi 7 rfl (by kernel_rfl)
      have hac:B 10=false:=by
       cases e:B 10 with
       |false=>rfl
       |true=>exact absurd ((h'.Bw e).1 8 (by omega)) (by rw[hbi];simp)
      have hK3:=h'.HK hac;have hsz:=hK3.size;obtain⟨g,eg⟩:=h'.gX d2;have oL:=h'.Rn d2 hbi;rw[eg] at oL;have Ex:=AI (eg);rw[Ex.out];have Ey:=AI ((h'.To d7).2);rw[Ey.out];refine AG rfl rfl (fun K hK=>?_);simp only[KAG,KAB,KAA];clear eg;refine Hl _ _ rfl wr.heap.size g rfl oL _ rfl ns (rE.keep hK3) (by omega) hsz ?_;intro vz wz oz gz;simp only[Act.put,KAS,KAa,KAc];refine hK.out _ _ ?_;have ex:=Ex.out;subst ex;have ey:=Ey.out;subst ey;have hgz:wr.heap.size<=g:=(KAY oL g rfl).1;obtain⟨az,cz,ez,-⟩:=B5.rd Eg oz;exact⟨AY B 8,G,_,_,_,_,_,_,_,_,_,_,_,_,rfl,rfl,{ h' with Bw:=(fun q=>absurd ((h'.Bw q).1 8 (by omega)) (by rw[hbi];simp)),KC:=(fun q=>absurd ((h'.Bw q).1 8 (by omega)) (by rw[hbi];simp)),FB:=(fun q=>absurd ((h'.Bw (h'.FB q).1).1 8 (by omega)) (by rw[hbi];simp)),Ms:=(fun q=>absurd (h'.Ms q).1 (by rw[hbi];simp)),HK:=(fun _=>hK3.grown gz (fun q hq=>by have:=KAI hq;omega)),Rn:=(fun _ q=>by cases q),Oh:=(fun _=>⟨⟨d2,d7⟩,az,_,ez⟩),PH:=(fun _ _=>oz) }⟩
     ·
      have hbi:B 9=false:=by simpa using (AE hi).2.1
      have d8:B 8=true:=AH hi 8 rfl (by kernel_rfl);obtain⟨_,a8,c8,e8⟩:=h'.Oh d8;have Ex:=AI (e8);rw[Ex.out];refine AG rfl rfl (fun K hK=>?_);simp only[KAG,KAB,KAA];clear e8;go_simp;refine hK.out _ _ ?_;have ex:=Ex.out;subst ex;exact⟨AY B 9,w3.heap.size,_,_,_,_,_,_,_,_,_,_,_,_,rfl,rfl,{ h' with Bw:=(fun q=>absurd ((h'.Bw q).1 9 (by omega)) (by rw[hbi];simp)),KC:=(fun q=>absurd ((h'.Bw q).1 9 (by omega)) (by rw[hbi];simp)),FB:=(fun q=>absurd ((h'.Bw (h'.FB q).1).1 9 (by omega)) (by rw[hbi];simp)),HK:=(fun q=>(h'.HK q).alloc _),PH:=(fun q r=>(h'.PH q r).keep ((AC.refl w3).alloc _)),Ms:=(fun _=>⟨d8,rfl,fun _=>AO (AC.refl _) 0⟩),Rn:=(fun _ q=>Gs d8 q) }⟩
     ·
      have hbi:B 10=false:=by simpa using (AE hi).2.1
      have d1:B 1=true:=AH hi 1 rfl (by kernel_rfl);have d9:B 9=true:=AH hi 9 rfl (by kernel_rfl);have c0:=(h'.Tn d1).1;obtain⟨gG,eG,cG⟩:=h'.Ms d9;obtain⟨qap,a8,c8,e8⟩:=h'.Oh gG;obtain⟨dlit,dle⟩:=qap;have uT:=(h'.To dle).1;obtain⟨⟨uU,dmv⟩,-⟩:=h'.QM uT;have dfb:=(h'.Tm uU).1
      have hall:∀j,j<10->B j=true:=by
       intro j hj;have hj2:j=0\/j=1\/j=2\/j=3\/j=4\/j=5\/j=6\/j=7\/j=8\/j=9:=by omega
       rcases hj2 with rfl|rfl|rfl|rfl|rfl|rfl|rfl|rfl|rfl|rfl
       . exact c0
       . exact d1
       . exact dlit
       . exact dfb
       . exact uU
       . exact dmv
       . exact uT
       . exact dle
       . exact gG
       . exact d9
      have hK3:=h'.HK hbi;have oA:=h'.PH gG hbi;have cG2:=cG hbi;rw[e8] at cG2;have HR:=KAs HR0 hK3.grownBy (by cases (Value.slice aM k cM).ownBlock<;>simp);have hsz:=hK3.size;have Ex:=AI ((h'.Tn d1).2);rw[Ex.out];have Ey:=AI (eG);rw[Ey.out];have Ez:=AI (e8);rw[Ez.out];refine AG rfl rfl (fun K hK=>?_);simp only[KAG,KAB,KAA];clear eG e8;refine EY _ _ 101 rfl w1.heap.size 151 j0 (.slice none 0 0) 1 24 Tryz.underlying101 hj hy0 hy1 hy2 rfl (by decide) (.slice aM k cM) k nv rfl HR ⟨G,0,none⟩ 1 1 [.slice a8 ns.length c8] rfl rfl (fun j u hu=>?_) (fun u hu=>by simp at hu;subst hu;rfl) (by unfold maxLen;omega) (by omega) (by omega) ?_
      ·
       match j,hu with
       | 0,hu=>simp at hu;subst hu;simpa [Addr.add] using cG2
      intro vz wz oz gz bz;simp only[Act.put,KAS,KAa,KAc];refine hK.out _ _ ?_;have ex:=Ex.out;subst ex;have ey:=Ey.out;subst ey;have ez:=Ez.out;subst ez
      have ho7:(Em 151 (nv++[.slice a8 ns.length c8]) vz).own wz w1.heap.size:=by
       show wz.ownsRow w1.heap.size 151 1 vz (nv++[Value.slice a8 ns.length c8]).length (nv++[Value.slice a8 ns.length c8]);rw[KAJ,lM.out];exact oz
      have hu:∀q,(Value.slice a8 ns.length c8).ownBlock=some q->wr.heap.size<=q:=fun q hq=>(KAY oA q hq).1
      obtain⟨H8,c8',f8⟩:=HH.out.TC hK3 hu (Dp oA (by omega)) (by rw[lK.out];exact gz) (by rw[lK.out];rcases bz with e|e;exact .inl e;exact .inr (.inl e)) ho7;obtain⟨a9,c9,e9,-⟩:=Bu ho7;replace e9:vz = .slice a9 (k+1) c9:=by rw[e9,KAJ,lM.out];rfl
      have K9:AC w1 wz:=(kr.trans hK3).grown gz (fun q hq=>(KAY HR q hq).1);exact⟨AY B 10,G,_,_,_,_,_,_,_,_,_,_,_,_,rfl,rfl,{ h' with Bw:=(fun _=>⟨fun j hj=>by unfold AY;rw[KAQ (by omega)];exact hall j hj,a9,c9,e9⟩),KC:=(fun _ _=>⟨by rw[HT.out];exact H8,c8',f8,K9⟩),FB:=(fun q=>absurd (h'.FB q).1 (by rw[hbi];simp)),HK:=(fun q=>by cases q),PH:=(fun _ q=>by cases q),Ms:=(fun _=>⟨gG,rfl,fun q=>by cases q⟩),Rn:=(fun _ q=>Gs (gG) q) }⟩
     ·
      have hbi:B 11=false:=by simpa using (AE hi).2.1
      refine AG rfl rfl (fun K hK=>?_);simp only[KAG,KAB,KAA];go_simp;refine hK.out _ _ ?_;exact⟨AY B 11,G,_,_,_,_,_,_,_,_,_,_,_,_,rfl,rfl,{ h' with gW:=(fun _=>rfl),Bw:=(fun q=>⟨fun j hj=>by unfold AY;rw[KAQ (by omega)];exact (h'.Bw q).1 j hj,(h'.Bw q).2⟩) }⟩
     ·
      have hbi:B 12=false:=by simpa using (AE hi).2.1
      have d10:B 10=true:=AH hi 10 rfl (by kernel_rfl);have d11:B 11=true:=AH hi 11 rfl (by kernel_rfl);obtain⟨P1,P2,P3,P4⟩:=h'.KC d10 hbi;obtain⟨-,a9,c9,e9⟩:=h'.Bw d10;have Ex:=AI (h'.gW d11);rw[Ex.out];have Ey:=AI (e9);rw[Ey.out];refine AG rfl rfl (fun K hK=>?_);simp only[KAG,KAB,KAA];clear e9;have HP1:=AI P1;clear P1;go_simp;refine hK.out _ _ ?_;have ex:=Ex.out;subst ex;have ey:=Ey.out;subst ey;have P1:=HP1.out;exact⟨AY B 12,G,_,_,_,_,_,_,_,_,_,_,_,_,rfl,rfl,{ h' with HK:=(fun q=>Gs (d10) q),PH:=(fun _ q=>Gs (d10) q),Ms:=(fun q=>⟨(h'.Ms q).1,(h'.Ms q).2.1,fun r=>Gs (d10) r⟩),Bw:=(fun q=>⟨fun j hj=>by unfold AY;rw[KAQ (by omega)];exact (h'.Bw q).1 j hj,(h'.Bw q).2⟩),KC:=(fun _ q=>by cases q),FB:=(fun _=>⟨d10,P1,P4.grown (Ad w3 D 3 _) (fun q hq=>by have:=KAI hq;omega)⟩),Rn:=(fun _ q=>Gs ((h'.Bw d10).1 8 (by omega)) q) }⟩
    ·
     rintro listed a w3 ⟨B,G,x32,x33,x34,x35,x36,x37,x38,x39,x40,x41,x42,x43,rfl,rfl,h'⟩ hr;have hall:=Dx hr rfl (by kernel_rfl);have b12:B 12=true:=hall 12 (by simp);clear hall;obtain⟨HK,gQ,Tn,gX,Rn,gV,Tm,gY,QM,To,Oh,PH,Ms,Bw,KC,gW,FB⟩:=h';clear hr;obtain⟨-,Q2,Q3⟩:=FB b12;have HQ2:=AI Q2;have HQ3:=AI Q3;clear Q2 Q3 HK gQ Tn gX Rn gV Tm gY QM To Oh PH Ms Bw KC gW FB;go_wp2;go_roundw;case rel=>exact⟨k+1,by omega,by omega,⟨_,_,HQ2.out⟩,HQ3.out⟩
     case measure=>simp[intOf];omega
   ·
    obtain rfl:k=b.AJ.length:=by omega
    simp only[KBK] at Hr;clear hlt hk;obtain⟨j0,hj,hy0,hy1,hy2⟩:=KA3 Tryz.Qk;go_wp2;go_loopw [5] (fun i wq=>∃(k:Nat) (bw:BV) (rv:List Value),k<=b.rws.length/\i = .int .i64 k/\AU wq w1.heap.size D bw nv rv bs N AA { ZQ b with AJ:=b.AJ,rws:=b.rws.take k }/\AC w1 wq) (fun i _=>b.rws.length-(intOf i).toNat)
    case atStart=>exact⟨0,bw,[],KAb _,rfl,Hr,kr⟩
    case round=>
     clear Hr kr hbw hB3;obtain⟨k,bw,rv,hk,rfl,Hr,kr⟩:=hrel;have hbw:w.heap.size<wr.heap.size:=by have:=kr.size;omega
     have hB3:wr.cell? ⟨w.heap.size,7,none⟩=some (.slice aR b.rws.length cR):=(kr.cell (by omega)).trans (CC.out 7 _ rfl);by_cases hlt:k<b.rws.length
     ·
      obtain⟨a',c',e',hN⟩:=h.R;simp only[KAT,KA8] at e';obtain⟨rfl,rfl⟩:=e';rcases hN with h0|⟨bN,oN,rfl,hbN0,mJ⟩
      . exfalso;rw[h0] at hlt;simp at hlt
      obtain⟨vi,dE0,wL⟩:=mJ k hlt;have nl:(b.rws.getD k []).length<=20:=HQ.out.2.2.1 k (by have:=HQ.out.1;omega);have nk:b.rws.length<=3:=by have:=HQ.out.1;omega
      have HT:Hid (b.rws.take (k+1)=b.rws.take k++[b.rws.getD k []]):=AI (by rw[KBQ,IT,KAH hlt];rfl);generalize b.rws.getD k []=zs at *;have KK:=K1.trans kr;have dE:=(KK.cell hbN0).trans dE0;have rE:=wL.keep KK;obtain⟨ai,ci,rfl,-⟩:=id rE;have hbN:bN<wr.heap.size:=KAC hbN0 KK.size;have hbD:=Hr.base.2;have hbs2:=Hr.base.1;have hln:rv.length=k:=by have:=Hr.lr;simp only[KAz] at this;omega
      obtain⟨aM,cM,eN,-⟩:=Hr.hR;have eN2:bw.R = .slice aM k cM:=by rw[eN];simp only[KAz];rw[KBh hk]
      have dM:wr.cell? ⟨D,7,none⟩=some (.slice aM k cM):=by rw[<-eN2];exact Hr.cells.2.2.2.2.2.2.2
      have HR0:wr.ownsRow w1.heap.size 25 1 (.slice aM k cM) k rv:=by
       have o:wr.ownsRow w1.heap.size 25 1 bw.R rv.length rv:=Hr.Ag.own .rws trivial;rw[eN2,hln] at o;exact o
      have sr:=kr.size;have i1:(0:Int)<=(k:Int):=KAK _;have i2:(k:Int)<(b.rws.length:Int):=by omega
      have HH:=AI Hr;have lK:=AI eN2;have lM:=AI hln;clear Hr eN eN2 hln dE0 wL mJ;go_upto_region 9 with fail
      refine Bv (by kernel_rfl) (fun listed a w3=>∃(B:Nat->Bool) (G:Nat) (x51 x52 x53 x54 x55 x56 x57 x58 x59 x60 x61:Value),listed=#[B 0,B 1,B 2,B 3,B 4,B 5,B 6,B 7,B 8,B 9,B 10,B 11]/\a=⟨#[.agg #[.slice aW AA.length cW,.slice aP b.AM.length cP,.slice aL b.AQ.length cL,.slice aN b.AJ.length cQ,.slice aX b.AK.length cX,.slice aT b.sn.length cT,.slice aF b.fr.length cF,.slice (some ⟨bN,oN,none⟩) b.rws.length cR],.pointer (some ⟨w.heap.size,0,none⟩),.pointer (some ⟨w.heap.size+1,0,none⟩),.pointer (some ⟨D,0,none⟩),.int .i64 (b.AJ.length:Int),.int .i64 (k:Int),u6,u7,u8,u9,u10,u11,u12,u13,u14,u15,u16,u17,u18,u19,u20,u21,u22,u23,u24,.int .i64 (b.AJ.length:Int),.pointer (some ⟨w.heap.size,3,none⟩),.slice aN b.AJ.length cQ,.int .i64 (b.AJ.length:Int),.bool false,u30,u31,u32,u33,u34,u35,u36,u37,u38,u39,u40,u41,u42,u43,.int .i64 (k:Int),.pointer (some ⟨w.heap.size,7,none⟩),.slice (some ⟨bN,oN,none⟩) b.rws.length cR,.int .i64 (b.rws.length:Int),.bool true,u49,u50,x51,x52,x53,x54,x55,x56,x57,x58,x59,x60,x61,u62],[]⟩/\gN w w1 wr D k aM cM bN oN cR ai ci zs b bw nv rv bs N AA B G x51 x52 x53 x54 x55 x56 x57 x58 x59 x60 x61 w3) ?_ ?_ ?_
      . exact⟨fun _=>false,0,u51,u52,u53,u54,u55,u56,u57,u58,u59,u60,u61,rfl,rfl,⟨(fun _=>(AC.refl wr).drew),(fun q=>by cases q),(fun q=>by cases q),(fun q=>by cases q),(fun q=>by cases q),(fun q=>by cases q),(fun q=>by cases q),(fun q=>by cases q),(fun q=>by cases q),(fun q=>by cases q),(fun q=>by cases q),(fun q=>by cases q),(fun q=>by cases q),(fun q=>by cases q),(fun q=>by cases q)⟩⟩
      ·
       rintro listed a w3 ⟨B,G,x51,x52,x53,x54,x55,x56,x57,x58,x59,x60,x61,rfl,rfl,h'⟩ i hi;have hlt:=(AE hi).1;have hcs:i=0\/i=1\/i=2\/i=3\/i=4\/i=5\/i=6\/i=7\/i=8\/i=9\/i=10\/i=11:=by simp at hlt;omega
       rcases hcs with rfl|rfl|rfl|rfl|rfl|rfl|rfl|rfl|rfl|rfl|rfl|rfl
       ·
        have hbi:B 0=false:=by simpa using (AE hi).2.1
        refine AG rfl rfl (fun K hK=>?_);simp only[KAG,KAA];go_simp;refine hK.out _ _ ?_;exact⟨AY B 0,G,_,_,_,_,_,_,_,_,_,_,_,rfl,rfl,{ h' with Bw:=(fun q=>absurd ((h'.Bw q).1 0 (by omega)) (by rw[hbi];simp)),KC:=(fun q=>absurd ((h'.Bw q).1 0 (by omega)) (by rw[hbi];simp)),FB:=(fun q=>absurd ((h'.Bw (h'.FB q).1).1 0 (by omega)) (by rw[hbi];simp)),gQ:=(fun _=>rfl),Tn:=(fun q=>absurd (h'.Tn q).1 (by rw[hbi];simp)) }⟩
       ·
        have hbi:B 1=false:=by simpa using (AE hi).2.1
        have d0:B 0=true:=AH hi 0 rfl (by kernel_rfl)
        have hac:B 9=false:=by
         cases e:B 9 with
         |false=>rfl
         |true=>exact absurd ((h'.Bw e).1 1 (by omega)) (by rw[hbi];simp)
        have dc:w3.cell? ⟨D,7,none⟩=some (.slice aM k cM):=((h'.HK hac).cell hbD).trans dM;have Ex:=AI (h'.gQ d0);rw[Ex.out];refine AG rfl rfl (fun K hK=>?_);simp only[KAG,KAB,KAA];go_simp;refine hK.out _ _ ?_;have ex:=Ex.out;subst ex;exact⟨AY B 1,G,_,_,_,_,_,_,_,_,_,_,_,rfl,rfl,{ h' with Bw:=(fun q=>absurd ((h'.Bw q).1 1 (by omega)) (by rw[hbi];simp)),KC:=(fun q=>absurd ((h'.Bw q).1 1 (by omega)) (by rw[hbi];simp)),FB:=(fun q=>absurd ((h'.Bw (h'.FB q).1).1 1 (by omega)) (by rw[hbi];simp)),Tn:=(fun _=>⟨d0,rfl⟩) }⟩
       ·
        have hbi:B 2=false:=by simpa using (AE hi).2.1
        refine AG rfl rfl (fun K hK=>?_);simp only[KAG,KAB,KAA];go_simp;refine hK.out _ _ ?_;exact⟨AY B 2,G,_,_,_,_,_,_,_,_,_,_,_,rfl,rfl,{ h' with Bw:=(fun q=>absurd ((h'.Bw q).1 2 (by omega)) (by rw[hbi];simp)),KC:=(fun q=>absurd ((h'.Bw q).1 2 (by omega)) (by rw[hbi];simp)),FB:=(fun q=>absurd ((h'.Bw (h'.FB q).1).1 2 (by omega)) (by rw[hbi];simp)),gV:=(fun _=>rfl),Tm:=(fun q=>absurd (h'.Tm q).1 (by rw[hbi];simp)) }⟩
       ·
        have hbi:B 3=false:=by simpa using (AE hi).2.1
        have d2:B 2=true:=AH hi 2 rfl (by kernel_rfl)
        have hac:B 9=false:=by
         cases e:B 9 with
         |false=>rfl
         |true=>exact absurd ((h'.Bw e).1 3 (by omega)) (by rw[hbi];simp)
        have dc:w3.cell? ⟨w.heap.size,7,none⟩=some (.slice (some ⟨bN,oN,none⟩) b.rws.length cR):=((h'.HK hac).cell hbw).trans hB3;have Ex:=AI (h'.gV d2);rw[Ex.out];refine AG rfl rfl (fun K hK=>?_);simp only[KAG,KAB,KAA];go_simp;refine hK.out _ _ ?_;have ex:=Ex.out;subst ex;exact⟨AY B 3,G,_,_,_,_,_,_,_,_,_,_,_,rfl,rfl,{ h' with Bw:=(fun q=>absurd ((h'.Bw q).1 3 (by omega)) (by rw[hbi];simp)),KC:=(fun q=>absurd ((h'.Bw q).1 3 (by omega)) (by rw[hbi];simp)),FB:=(fun q=>absurd ((h'.Bw (h'.FB q).1).1 3 (by omega)) (by rw[hbi];simp)),Tm:=(fun _=>⟨d2,rfl⟩),QM:=(fun q=>absurd (h'.QM q).1.1 (by rw[hbi];simp)) }⟩
       ·
        have hbi:B 4=false:=by simpa using (AE hi).2.1
        refine AG rfl rfl (fun K hK=>?_);simp only[KAG,KAB,KAA];go_simp;refine hK.out _ _ ?_;exact⟨AY B 4,G,_,_,_,_,_,_,_,_,_,_,_,rfl,rfl,{ h' with Bw:=(fun q=>absurd ((h'.Bw q).1 4 (by omega)) (by rw[hbi];simp)),KC:=(fun q=>absurd ((h'.Bw q).1 4 (by omega)) (by rw[hbi];simp)),FB:=(fun q=>absurd ((h'.Bw (h'.FB q).1).1 4 (by omega)) (by rw[hbi];simp)),gY:=(fun _=>rfl),QM:=(fun q=>absurd (h'.QM q).1.2 (by rw[hbi];simp)) }⟩
       ·
        have hbi:B 5=false:=by simpa using (AE hi).2.1
        have d3:B 3=true:=AH hi 3 rfl (by kernel_rfl);have d4:B 4=true:=AH hi 4 rfl (by kernel_rfl);have Ex:=AI ((h'.Tm d3).2);rw[Ex.out];have Ey:=AI (h'.gY d4);rw[Ey.out];refine AG rfl rfl (fun K hK=>?_);simp only[KAG,KAB,KAA];go_simp;refine hK.out _ _ ?_;have ex:=Ex.out;subst ex;have ey:=Ey.out;subst ey;exact⟨AY B 5,G,_,_,_,_,_,_,_,_,_,_,_,rfl,rfl,{ h' with Bw:=(fun q=>absurd ((h'.Bw q).1 5 (by omega)) (by rw[hbi];simp)),KC:=(fun q=>absurd ((h'.Bw q).1 5 (by omega)) (by rw[hbi];simp)),FB:=(fun q=>absurd ((h'.Bw (h'.FB q).1).1 5 (by omega)) (by rw[hbi];simp)),QM:=(fun _=>⟨⟨d3,d4⟩,rfl⟩),To:=(fun q=>absurd (h'.To q).1 (by rw[hbi];simp)) }⟩
       ·
        have hbi:B 6=false:=by simpa using (AE hi).2.1
        have d5:B 5=true:=AH hi 5 rfl (by kernel_rfl)
        have hac:B 9=false:=by
         cases e:B 9 with
         |false=>rfl
         |true=>exact absurd ((h'.Bw e).1 6 (by omega)) (by rw[hbi];simp)
        have dc:w3.cell? ⟨bN,oN+k,none⟩=some (.slice ai zs.length ci):=((h'.HK hac).cell hbN).trans dE;have Ex:=AI ((h'.QM d5).2);rw[Ex.out];refine AG rfl rfl (fun K hK=>?_);simp only[KAG,KAB,KAA];go_simp;refine hK.out _ _ ?_;have ex:=Ex.out;subst ex;exact⟨AY B 6,G,_,_,_,_,_,_,_,_,_,_,_,rfl,rfl,{ h' with Bw:=(fun q=>absurd ((h'.Bw q).1 6 (by omega)) (by rw[hbi];simp)),KC:=(fun q=>absurd ((h'.Bw q).1 6 (by omega)) (by rw[hbi];simp)),FB:=(fun q=>absurd ((h'.Bw (h'.FB q).1).1 6 (by omega)) (by rw[hbi];simp)),To:=(fun _=>⟨d5,rfl⟩),Oh:=(fun q=>absurd (h'.Oh q).1 (by rw[hbi];simp)),PH:=(fun q=>absurd (h'.Oh q).1 (by rw[hbi];simp)) }⟩
       ·
        have hbi:B 7=false:=by simpa using (AE hi).2.1
        have d6:B 6=true:=AH hi 6 rfl (by kernel_rfl)
        have hac:B 9=false:=by
         cases e:B 9 with
         |false=>rfl
         |true=>exact absurd ((h'.Bw e).1 7 (by omega)) (by rw[hbi];simp)
        have hK3:=h'.HK hac;have hsz:=hK3.size;have Ey:=AI ((h'.To d6).2);rw[Ey.out];refine AG rfl rfl (fun K hK=>?_);simp only[KAG,KAB,KAA];go_simp;refine (Dv _ _ _ (rE.keep hK3) (by omega)).mono ?_;rintro e wz ⟨vz,rfl,oz,kk⟩;go_wp2_with fail
        refine hK.out _ _ ?_;have ey:=Ey.out;subst ey;obtain⟨az,cz,ez,-⟩:=oz.rd;exact⟨AY B 7,G,_,_,_,_,_,_,_,_,_,_,_,rfl,rfl,{ h' with Bw:=(fun q=>absurd ((h'.Bw q).1 7 (by omega)) (by rw[hbi];simp)),KC:=(fun q=>absurd ((h'.Bw q).1 7 (by omega)) (by rw[hbi];simp)),FB:=(fun q=>absurd ((h'.Bw (h'.FB q).1).1 7 (by omega)) (by rw[hbi];simp)),Ms:=(fun q=>absurd (h'.Ms q).1 (by rw[hbi];simp)),HK:=(fun _=>hK3.trans kk),Oh:=(fun _=>⟨d6,az,_,ez⟩),PH:=(fun _ _=>oz.BK hsz) }⟩
       ·
        have hbi:B 8=false:=by simpa using (AE hi).2.1
        have d7:B 7=true:=AH hi 7 rfl (by kernel_rfl);obtain⟨_,a8,c8,e8⟩:=h'.Oh d7;have Ex:=AI (e8);rw[Ex.out];refine AG rfl rfl (fun K hK=>?_);simp only[KAG,KAB,KAA];clear e8;go_simp;refine hK.out _ _ ?_;have ex:=Ex.out;subst ex;exact⟨AY B 8,w3.heap.size,_,_,_,_,_,_,_,_,_,_,_,rfl,rfl,{ h' with Bw:=(fun q=>absurd ((h'.Bw q).1 8 (by omega)) (by rw[hbi];simp)),KC:=(fun q=>absurd ((h'.Bw q).1 8 (by omega)) (by rw[hbi];simp)),FB:=(fun q=>absurd ((h'.Bw (h'.FB q).1).1 8 (by omega)) (by rw[hbi];simp)),HK:=(fun q=>(h'.HK q).alloc _),PH:=(fun q r=>(h'.PH q r).keep ((AC.refl w3).alloc _)),Ms:=(fun _=>⟨d7,rfl,fun _=>AO (AC.refl _) 0⟩) }⟩
       ·
        have hbi:B 9=false:=by simpa using (AE hi).2.1
        have d1:B 1=true:=AH hi 1 rfl (by kernel_rfl);have d8:B 8=true:=AH hi 8 rfl (by kernel_rfl);have c0:=(h'.Tn d1).1;obtain⟨gG,eG,cG⟩:=h'.Ms d8;obtain⟨qap,a8,c8,e8⟩:=h'.Oh gG;have dle:=qap;have uT:=(h'.To dle).1;obtain⟨⟨uU,dmv⟩,-⟩:=h'.QM uT;have dfb:=(h'.Tm uU).1
        have hall:∀j,j<9->B j=true:=by
         intro j hj;have hj2:j=0\/j=1\/j=2\/j=3\/j=4\/j=5\/j=6\/j=7\/j=8:=by omega
         rcases hj2 with rfl|rfl|rfl|rfl|rfl|rfl|rfl|rfl|rfl
         . exact c0
         . exact d1
         . exact dfb
         . exact uU
         . exact dmv
         . exact uT
         . exact dle
         . exact gG
         . exact d8
        have hK3:=h'.HK hbi;have oA:=h'.PH gG hbi;have cG2:=cG hbi;rw[e8] at cG2;have HR:=KAs HR0 hK3.grownBy (by cases (Value.slice aM k cM).ownBlock<;>simp);have hsz:=hK3.size;have Ex:=AI ((h'.Tn d1).2);rw[Ex.out];have Ey:=AI (eG);rw[Ey.out];have Ez:=AI (e8);rw[Ez.out];refine AG rfl rfl (fun K hK=>?_);simp only[KAG,KAB,KAA];clear eG e8;refine EY _ _ 36 rfl w1.heap.size 25 j0 (.slice none 0 0) 1 24 Tryz.underlying36 hj hy0 hy1 hy2 rfl (by decide) (.slice aM k cM) k rv rfl HR ⟨G,0,none⟩ 1 1 [.slice a8 zs.length c8] rfl rfl (fun j u hu=>?_) (fun u hu=>by simp at hu;subst hu;rfl) (by unfold maxLen;omega) (by omega) (by omega) ?_
        ·
         match j,hu with
         | 0,hu=>simp at hu;subst hu;simpa [Addr.add] using cG2
        intro vz wz oz gz bz;simp only[Act.put,KAS,KAa,KAc];refine hK.out _ _ ?_;have ex:=Ex.out;subst ex;have ey:=Ey.out;subst ey;have ez:=Ez.out;subst ez
        have ho7:(Em 25 (rv++[.slice a8 zs.length c8]) vz).own wz w1.heap.size:=by
         show wz.ownsRow w1.heap.size 25 1 vz (rv++[Value.slice a8 zs.length c8]).length (rv++[Value.slice a8 zs.length c8]);rw[KAJ,lM.out];exact oz
        have hu:∀q,(Value.slice a8 zs.length c8).ownBlock=some q->wr.heap.size<=q:=fun q hq=>(KAY oA q hq).1
        obtain⟨H8,c8',f8⟩:=HH.out.LF hK3 hu (Dp oA (by omega)) (by rw[lK.out];exact gz) (by rw[lK.out];rcases bz with e|e;exact .inl e;exact .inr (.inl e)) ho7;obtain⟨a9,c9,e9,-⟩:=Bu ho7;replace e9:vz = .slice a9 (k+1) c9:=by rw[e9,KAJ,lM.out];rfl
        have K9:AC w1 wz:=(kr.trans hK3).grown gz (fun q hq=>(KAY HR q hq).1);exact⟨AY B 9,G,_,_,_,_,_,_,_,_,_,_,_,rfl,rfl,{ h' with Bw:=(fun _=>⟨fun j hj=>by unfold AY;rw[KAQ (by omega)];exact hall j hj,a9,c9,e9⟩),KC:=(fun _ _=>⟨by rw[HT.out];exact H8,c8',f8,K9⟩),FB:=(fun q=>absurd (h'.FB q).1 (by rw[hbi];simp)),HK:=(fun q=>by cases q),PH:=(fun _ q=>by cases q),Ms:=(fun _=>⟨gG,rfl,fun q=>by cases q⟩) }⟩
       ·
        have hbi:B 10=false:=by simpa using (AE hi).2.1
        refine AG rfl rfl (fun K hK=>?_);simp only[KAG,KAB,KAA];go_simp;refine hK.out _ _ ?_;exact⟨AY B 10,G,_,_,_,_,_,_,_,_,_,_,_,rfl,rfl,{ h' with gW:=(fun _=>rfl),Bw:=(fun q=>⟨fun j hj=>by unfold AY;rw[KAQ (by omega)];exact (h'.Bw q).1 j hj,(h'.Bw q).2⟩) }⟩
       ·
        have hbi:B 11=false:=by simpa using (AE hi).2.1
        have d9:B 9=true:=AH hi 9 rfl (by kernel_rfl);have d10:B 10=true:=AH hi 10 rfl (by kernel_rfl);obtain⟨P1,P2,P3,P4⟩:=h'.KC d9 hbi;obtain⟨-,a9,c9,e9⟩:=h'.Bw d9;have Ex:=AI (h'.gW d10);rw[Ex.out];have Ey:=AI (e9);rw[Ey.out];refine AG rfl rfl (fun K hK=>?_);simp only[KAG,KAB,KAA];clear e9;have HP1:=AI P1;clear P1;go_simp;refine hK.out _ _ ?_;have ex:=Ex.out;subst ex;have ey:=Ey.out;subst ey;have P1:=HP1.out;exact⟨AY B 11,G,_,_,_,_,_,_,_,_,_,_,_,rfl,rfl,{ h' with HK:=(fun q=>Gs (d9) q),PH:=(fun _ q=>Gs (d9) q),Ms:=(fun q=>⟨(h'.Ms q).1,(h'.Ms q).2.1,fun r=>Gs (d9) r⟩),Bw:=(fun q=>⟨fun j hj=>by unfold AY;rw[KAQ (by omega)];exact (h'.Bw q).1 j hj,(h'.Bw q).2⟩),KC:=(fun _ q=>by cases q),FB:=(fun _=>⟨d9,P1,P4.grown (Ad w3 D 7 _) (fun q hq=>by have:=KAI hq;omega)⟩) }⟩
      ·
       rintro listed a w3 ⟨B,G,x51,x52,x53,x54,x55,x56,x57,x58,x59,x60,x61,rfl,rfl,h'⟩ hr;have hall:=Dx hr rfl (by kernel_rfl);have b11:B 11=true:=hall 11 (by simp);clear hall;obtain⟨HK,gQ,Tn,gV,Tm,gY,QM,To,Oh,PH,Ms,Bw,KC,gW,FB⟩:=h';clear hr;obtain⟨-,Q2,Q3⟩:=FB b11;have HQ2:=AI Q2;have HQ3:=AI Q3;clear Q2 Q3 HK gQ Tn gV Tm gY QM To Oh PH Ms Bw KC gW FB;go_wp2;go_roundw;case rel=>exact⟨k+1,by omega,by omega,⟨_,_,HQ2.out⟩,HQ3.out⟩
       case measure=>simp[intOf];omega
     ·
      obtain rfl:k=b.rws.length:=by omega
      simp only[KBK] at Hr;have mH:=(KAW kr (w.heap.size+1) s2).trans hR1;have Hn:AU wr w1.heap.size D bw nv rv bs N AA b:=by cases b;exact Hr
      clear Hr hk hlt;have JU:=Hn.MA;obtain⟨zu,zl,zh,zi,zw,zo,zf,zm,cW2,cP2,cL2,cQ2,cX2,cT2,cF2,cR2,rfl⟩:=Hn.rd.shapes;simp only[BV.arr] at JU;have HK:=AI (K1.trans kr);have HG:=AI (As wr (w.heap.size+1) #[.slice zu AA.length cW2,.slice zl b.AM.length cP2,.slice zh b.AQ.length cL2,.slice zi b.AJ.length cQ2,.slice zw b.AK.length cX2,.slice zo b.sn.length cT2,.slice zf b.fr.length cF2,.slice zm b.rws.length cR2]);have HZ:=AI (KBs wr (w.heap.size+1) _ #[.slice zu AA.length cW2,.slice zl b.AM.length cP2,.slice zh b.AQ.length cL2,.slice zi b.AJ.length cQ2,.slice zw b.AK.length cX2,.slice zo b.sn.length cT2,.slice zf b.fr.length cF2,.slice zm b.rws.length cR2] _ _ mH);have pK:∀q,some (w.heap.size+1)=some q->q<w1.heap.size/\(q<bs\/N<=q):=fun q hq=>by have:=KAI hq;omega
      have HO:=AI (((Hn.far HG.out pK).val).BK (show w.heap.size<=w1.heap.size by omega));go_wp2_with (first|refine wpList_load_row rfl 103 _ rfl D rfl 103 _ (0,0) _ JU Tryz.underlying103 rfl AR ?_|refine wpList_store_row rfl 103 _ _ rfl (w.heap.size+1) _ rfl rfl 103 _ mH AR rfl (by simp[Value.oneCell']) ?_)
      refine KA7 (Aw (by rfl) _ _ (w.heap.size+1) _ _ (0,0) _ rfl HZ.out Tryz.underlying103 rfl AR) rfl ?_;exact⟨⟨.slice zu AA.length cW2,.slice zl b.AM.length cP2,.slice zh b.AQ.length cL2,.slice zi b.AJ.length cQ2,.slice zw b.AK.length cX2,.slice zo b.sn.length cT2,.slice zf b.fr.length cF2,.slice zm b.rws.length cR2⟩,nv,rv,bs,N,rfl,HO.out,by omega,HK.out.grown HG.out (fun q hq=>by have:=KAI hq;omega)⟩
theorem Qp (w:World)(v:BV)(AA:List (List Dd))(b:Bd)(h:Cw w v AA b)(hd:AA.length<=1048576)(hx:AA.length<=b.AK.length)(hn:AA.length<=b.AJ.length):
  Calls Tryz.prog 59 #[v.agg] w fun e w'=>e = .returned (.bool (NA AA b))/\AC w w':=by
 obtain⟨aW,aP,aL,aN,aX,aS,aF,aR,cW,cP,cL,cN,cX,cS,cF,cR,rfl⟩:=h.shapes;have KW:AC w (w.alloc (.cells #[.slice aW AA.length cW,.slice aP b.AM.length cP,.slice aL b.AQ.length cL,.slice aN b.AJ.length cN,.slice aX b.AK.length cX,.slice aS b.sn.length cS,.slice aF b.fr.length cF,.slice aR b.rws.length cR] 103)):=(AC.refl w).alloc _;have c0:(w.alloc (.cells #[.slice aW AA.length cW,.slice aP b.AM.length cP,.slice aL b.AQ.length cL,.slice aN b.AJ.length cN,.slice aX b.AK.length cX,.slice aS b.sn.length cS,.slice aF b.fr.length cF,.slice aR b.rws.length cR] 103)).cell? ⟨w.heap.size,0,none⟩=some (.slice aW AA.length cW):=AO (AC.refl _) 0;have c3:(w.alloc (.cells #[.slice aW AA.length cW,.slice aP b.AM.length cP,.slice aL b.AQ.length cL,.slice aN b.AJ.length cN,.slice aX b.AK.length cX,.slice aS b.sn.length cS,.slice aF b.fr.length cF,.slice aR b.rws.length cR] 103)).cell? ⟨w.heap.size,3,none⟩=some (.slice aN b.AJ.length cN):=AO (AC.refl _) 3;have c4:(w.alloc (.cells #[.slice aW AA.length cW,.slice aP b.AM.length cP,.slice aL b.AQ.length cL,.slice aN b.AJ.length cN,.slice aX b.AK.length cX,.slice aS b.sn.length cS,.slice aF b.fr.length cF,.slice aR b.rws.length cR] 103)).cell? ⟨w.heap.size,4,none⟩=some (.slice aX b.AK.length cX):=AO (AC.refl _) 4;have h':=h.keep KW;have z1:w.heap.size<(w.alloc (.cells #[.slice aW AA.length cW,.slice aP b.AM.length cP,.slice aL b.AQ.length cL,.slice aN b.AJ.length cN,.slice aX b.AK.length cX,.slice aS b.sn.length cS,.slice aF b.fr.length cF,.slice aR b.rws.length cR] 103)).heap.size:=by rw[AD];omega
 go_enter Tryz.func59,Tryz.ntmps59
 go_wp2;generalize w.alloc (.cells #[.slice aW AA.length cW,.slice aP b.AM.length cP,.slice aL b.AQ.length cL,.slice aN b.AJ.length cN,.slice aX b.AK.length cX,.slice aS b.sn.length cS,.slice aF b.fr.length cF,.slice aR b.rws.length cR] 103)=w1 at *;have HH:=AI h';clear h h';go_loopw [3] (fun i wr=>∃k:Nat,k<=AA.length/\i = .int .i64 k/\Hid (∀j,j<k->(decide (((AA.getD j []).length:Int)<=b.AK.getD j 0)&&(b.AJ.getD j []).isEmpty)=true)/\AC w1 wr) (fun i _=>AA.length-(intOf i).toNat)
 case atStart=>exact⟨0,KAb _,rfl,AI (fun j hj=>absurd hj (Nat.not_lt_zero _)),AC.refl _⟩
 case round=>
  obtain⟨k,hk,rfl,hno,hK⟩:=hrel;have e0:=(hK.cell z1).trans c0;have e3:=(hK.cell z1).trans c3;have e4:=(hK.cell z1).trans c4;by_cases hlt:k<AA.length
  ·
   have lX:k<b.AK.length:=by omega
   have lN:k<b.AJ.length:=by omega
   obtain⟨a',c',he',hX⟩:=HH.out.X.keep hK;simp only[KAT,KA8] at he';obtain⟨rfl,rfl⟩:=he';rcases hX with h0|⟨bx,ox,rfl,hbx,hcx⟩
   . exfalso;rw[h0] at lX;simp at lX
   obtain⟨a',c',he',hW⟩:=HH.out.W.keep hK;simp only[KAT,KA8] at he';obtain⟨rfl,rfl⟩:=he';rcases hW with h0|⟨bw,ow,rfl,hbw,hcw⟩
   . exfalso;rw[h0] at hlt;simp at hlt
   obtain⟨a',c',he',hN⟩:=HH.out.N.keep hK;simp only[KAT,KA8] at he';obtain⟨rfl,rfl⟩:=he';rcases hN with h0|⟨bn,on,rfl,hbn,hcn⟩
   . exfalso;rw[h0] at lN;simp at lN
   have d1:=hcx k lX;obtain⟨vw,d2,r2⟩:=hcw k hlt;obtain⟨vn,d3,r3⟩:=hcn k lN;have HF:(decide (((AA.getD k []).length:Int)<=b.AK.getD k 0)&&(b.AJ.getD k []).isEmpty)=false->Hid (NA AA b=false):=fun e=>AI (FC hlt e)
   have HT:(decide (((AA.getD k []).length:Int)<=b.AK.getD k 0)&&(b.AJ.getD k []).isEmpty)=true->Hid (∀j,j<k+1->(decide (((AA.getD j []).length:Int)<=b.AK.getD j 0)&&(b.AJ.getD j []).isEmpty)=true):=fun e=>AI (fun j hj=>by
    by_cases e':j=k
    . rw[e'];exact e
    . exact hno.out j (by omega))
   obtain⟨aw,cw,rfl,-⟩:=r2;obtain⟨an,cn,rfl,-⟩:=r3;generalize b.AK.getD k 0=x at d1 HF HT;generalize (AA.getD k []).length=wl at d2 HF HT;generalize b.AJ.getD k []=ns at d3 HF HT;have j1:(0:Int)<=(k:Int):=KAK _;have j2:(k:Int)<(AA.length:Int):=by omega
   have j3:(k:Int)<(b.AK.length:Int):=by omega
   have j4:(k:Int)<(b.AJ.length:Int):=by omega
   clear hcx hcw hcn hno;by_cases t1:x<(wl:Int)
   ·
    have HE:=HF (by rw[KAi (by omega)];rfl);clear HF HT;go_wp2;go_quiet (fail)
    go_wp2;go_ret;exact⟨by rw[HE.out];rfl,(KW.trans hK).drewN _⟩
   have t1':decide (x<(wl:Int))=false:=KAi t1;by_cases t2:0<ns.length
   ·
    have HE:=HF (by
     have:ns.isEmpty=false:=by cases ns with|nil=>simp at t2|cons _ _=>rfl
     rw[this];simp)
    have t2':decide (0<ns.length)=true:=KAl t2;clear HF HT t1;go_wp2;go_quiet (fail)
    go_wp2;go_ret;exact⟨by rw[HE.out];rfl,(KW.trans hK).drewN _⟩
   ·
    have HE:=HT (by
     have:ns.isEmpty=true:=by cases ns with|nil=>rfl|cons _ _=>simp at t2
     rw[this,KAl (by omega)];rfl)
    have t2':decide (0<ns.length)=false:=KAi t2;clear HF HT t1 t2;go_wp2;go_quiet (fail)
    go_wp2;go_roundw;case rel=>exact⟨k+1,by omega,by go_num,HE,hK.drewN _⟩
    case measure=>simp[intOf];omega
  ·
   obtain rfl:k=AA.length:=by omega
   have HE:Hid (NA AA b=true):=AI (Fe hno.out);go_wp2;go_ret;exact⟨by rw[HE.out];rfl,KW.trans hK⟩
theorem Qq (w:World)(v:BV)(AA:List (List Dd))(b:Bd)(h:Cw w v AA b)(hp:0<b.AM.length)(hp2:b.AM.length<=1048576)(hs:b.sn.length<=1048576):
  Calls Tryz.prog 60 #[v.agg] w fun e w'=>∃v',e = .returned v'/\A8 w' w.heap.size v' (b.sn++b.AM)/\AC w w':=by
 obtain⟨i0,hi,hz0,hz1,hz2⟩:=KA3 Tryz.FM;obtain⟨aW,aP,aL,aN,aX,aS,aF,aR,cW,cP,cL,cN,cX,cS,cF,cR,rfl⟩:=h.shapes;have KW:AC w ((w.alloc (.cells #[.slice aW AA.length cW,.slice aP b.AM.length cP,.slice aL b.AQ.length cL,.slice aN b.AJ.length cN,.slice aX b.AK.length cX,.slice aS b.sn.length cS,.slice aF b.fr.length cF,.slice aR b.rws.length cR] 103)).drew):=((AC.refl w).alloc _).drew;have c1:((w.alloc (.cells #[.slice aW AA.length cW,.slice aP b.AM.length cP,.slice aL b.AQ.length cL,.slice aN b.AJ.length cN,.slice aX b.AK.length cX,.slice aS b.sn.length cS,.slice aF b.fr.length cF,.slice aR b.rws.length cR] 103)).drew).cell? ⟨w.heap.size,1,none⟩=some (.slice aP b.AM.length cP):=AO (AC.refl _) 1;have c5:((w.alloc (.cells #[.slice aW AA.length cW,.slice aP b.AM.length cP,.slice aL b.AQ.length cL,.slice aN b.AJ.length cN,.slice aX b.AK.length cX,.slice aS b.sn.length cS,.slice aF b.fr.length cF,.slice aR b.rws.length cR] 103)).drew).cell? ⟨w.heap.size,5,none⟩=some (.slice aS b.sn.length cS):=AO (AC.refl _) 5;have z1:w.heap.size<((w.alloc (.cells #[.slice aW AA.length cW,.slice aP b.AM.length cP,.slice aL b.AQ.length cL,.slice aN b.AJ.length cN,.slice aX b.AK.length cX,.slice aS b.sn.length cS,.slice aF b.fr.length cF,.slice aR b.rws.length cR] 103)).drew).heap.size:=by rw[Az,AD];omega
 have HS:=AI h.S;have HP:=AI h.P;obtain⟨a',c',he',hP⟩:=h.P;simp only[KAT,KA8] at he';obtain⟨rfl,rfl⟩:=he';rcases hP with h0|⟨bp,op,rfl,hbp,hcp⟩
 . exfalso;rw[h0] at hp;simp at hp
 clear h;go_enter Tryz.func60,Tryz.ntmps60
 go_wp2
 go_region_law ((first
  | (refine Bf rfl (.tmp 5) (.tmp 7) 25 rfl w.heap.size 2 i0 (.int .i64 0) 1 8 Tryz.underlying25 hi hz0 hz1 hz2 rfl (by decide) _ b.sn.length (b.sn.map (Value.int .i64)) rfl (O1.BK (KAU KW.size (KAM _))) ⟨bp,op,none⟩ b.AM.length cP (b.AM.map (Value.int .i64)) rfl (by simp) (TE (fun i hi=>(K1.cell hbp).trans (hcp i hi))) (by intro u hu;simp at hu;obtain⟨x,_,rfl⟩:=hu;rfl) (by unfold maxLen;omega) (by omega) (KAU KW.size k1.size) ?_;intro v' w2 hown' hgrow _;have O2:A8 w2 w.heap.size v' (b.sn++b.AM):=(by unfold A8;rw[KAJ,KBB];exact hown');have K2:AC w w2:=K1.grown hgrow (fun k hk=>KAU KW.size (O1.ge k hk));clear hown' hgrow)
  | (go_simp;refine (Dv _ _ b.sn (HS.out.keep KW) hs).mono ?_;rintro e w1 ⟨v1,rfl,O1,k1⟩;have K1:=KW.trans k1;have c1':=(k1.cell z1).trans c1;obtain⟨g1,m1,hv1,-⟩:=id O1.rd;subst hv1)))
 all_goals
  go_wp2;go_ret;exact⟨_,rfl,O2,K2⟩
theorem MX (w:World)(v:BV)(AA:List (List Dd))(b:Bd)(h:Cw w v AA b)(hp:Yt AA b):
  Calls Tryz.prog 61 #[v.agg] w fun e w'=>∃v',e = .returned v'/\A8 w' w.heap.size v' (Aq AA b)/\AC w w':=by
 have C:=fun (W:World) (kW:AC w W) (c:Nat) (hc:c<AA.length)=>UT W v AA b c (h.keep kW) hp hc
 obtain⟨i0,hi,hz0,hz1,hz2⟩:=KA3 Tryz.FM;have HN:=AI h.N;have hm:=hp.m;have hpn:=AI hp.n;obtain⟨aW,aP,aL,aN,aX,aS,aF,aR,cW,cP,cL,cN,cX,cS,cF,cR,rfl⟩:=h.shapes;clear h hp;go_enter Tryz.func61,Tryz.ntmps61
 go_upto_region 1 with fail
 obtain⟨wB,Rh⟩:∃W:World,W=w.alloc (.cells #[.slice aW AA.length cW,.slice aP b.AM.length cP,.slice aL b.AQ.length cL,.slice aN b.AJ.length cN,.slice aX b.AK.length cX,.slice aS b.sn.length cS,.slice aF b.fr.length cF,.slice aR b.rws.length cR] 103):=⟨_,rfl⟩;have kB:AC w wB:=by rw[Rh];exact (AC.refl w).alloc _
 have sB:wB.heap.size=w.heap.size+1:=by rw[Rh];exact AD _ _
 have BC:Hid (∀(W:World),AC wB W->W.cell? ⟨w.heap.size,0,none⟩=some (.slice aW AA.length cW)/\W.cell? ⟨w.heap.size,1,none⟩=some (.slice aP b.AM.length cP)/\W.cell? ⟨w.heap.size,2,none⟩=some (.slice aL b.AQ.length cL)/\W.cell? ⟨w.heap.size,3,none⟩=some (.slice aN b.AJ.length cN)/\W.cell? ⟨w.heap.size,4,none⟩=some (.slice aX b.AK.length cX)/\W.cell? ⟨w.heap.size,5,none⟩=some (.slice aS b.sn.length cS)/\W.cell? ⟨w.heap.size,6,none⟩=some (.slice aF b.fr.length cF)/\W.cell? ⟨w.heap.size,7,none⟩=some (.slice aR b.rws.length cR)):=AI (by
  rw[Rh]
  exact fun W k=>⟨AO k 0,AO k 1,AO k 2,AO k 3,AO k 4,AO k 5,AO k 6,AO k 7⟩)
 rw[<-Rh];clear Rh;have SB:=AI sB;have lB:w.heap.size<wB.heap.size:=by omega
 clear sB;have hown0:A8 (wB.alloc (.cells #[] 2)) wB.heap.size (.slice (some ⟨wB.heap.size,0,none⟩) 0 0) []:=KAo wB #[] 0 (KAM _) (by decide) rfl;go_wp2;go_loopw [3,4] (fun v0 i wr=>∃(k:Nat) (v:Value),v=v0/\k<=AA.length/\i = .int .i64 k/\A8 wr wB.heap.size v (Hm AA b k)/\AC wB wr) (fun _ i _=>AA.length-(intOf i).toNat)
 case atStart=>exact⟨0,_,rfl,KAb _,rfl,hown0,(AC.refl _).alloc _⟩
 case round=>
  obtain⟨k,v,rfl,hk,rfl,ho,hK⟩:=hrel;clear hown0;obtain⟨b0,b1,b2,b3,b4,b5,b6,b7⟩:=BC.out _ hK;by_cases hlt:k<AA.length
  ·
   have i1:(0:Int)<=(k:Int):=KAK _;have i2:(k:Int)<(AA.length:Int):=by omega
   go_wp2_with fail
   refine (C _ (kB.trans hK) k hlt).mono ?_;rintro e w2 ⟨rfl,k2⟩;have hK2:=hK.trans k2;have hml:(Hm AA b k).length<=k:=SD _ _ _;have hsz:=hK2.size;replace ho:=ho.keep k2;clear b0 b1 b2 b3 b4 b5 b6 b7;cases hc:Ce AA b k
   ·
    have HM:Hid (Hm AA b (k+1)=Hm AA b k):=AI (Wq hc);go_wp2;go_roundw;case rel=>exact⟨k+1,_,rfl,by omega,by go_num,by rw[HM.out];exact ho,hK2⟩
    case measure=>simp[intOf];omega
   ·
    have HM:Hid (Hm AA b (k+1)=Hm AA b k++[(k:Int)]):=AI (ZO hc);go_wp2_with (at_builtin;refine KBu _ rfl _ _ 25 rfl wB.heap.size 2 i0 (.int .i64 0) 1 8 Tryz.underlying25 hi hz0 hz1 hz2 rfl (by decide) _ _ _ rfl (KCI ho _) ⟨_,0,none⟩ 1 1 [.int .i64 k] rfl rfl ?c1 ?c2 ?c3 ?c4 ?c5 ?_)
    case c1=>
     intro j u hj
     match j,hj with
     | 0,hj=>simp at hj;subst hj;simp[Addr.add]
    case c2=>intro u hu;simp at hu;subst hu;rfl
    case c3=>unfold maxLen;omega
    case c4=>omega
    case c5=>simp;omega
    intro v' w1 hown' hgrow _;have hK1:AC wB w1:=(hK2.alloc _).grown hgrow ho.ge;clear hgrow;go_wp2;go_roundw;case rel=>exact⟨k+1,_,rfl,by omega,by go_num,by rw[HM.out];exact B8 hown',hK1⟩
    case measure=>simp[intOf];omega
  ·
   obtain rfl:k=AA.length:=by omega
   have HP:Hid (Hm AA b AA.length++O0 b AA.length=Aq AA b):=AI (YB AA b);have hml:(Hm AA b AA.length).length<=AA.length:=SD _ _ _;generalize Hm AA b AA.length=CK at *;have ho0:A8 wr wB.heap.size v (CK++O0 b 0):=by rw[show O0 b 0=[] from rfl,KBn];exact ho
   clear ho hk hlt;go_wp2;clear b0 b1 b2 b3 b4 b5 b6 b7;go_loopw [3,5] (fun v0 i wr=>∃(k:Nat) (v:Value),v=v0/\k<=AA.length/\i = .int .i64 k/\A8 wr wB.heap.size v (CK++O0 b k)/\AC wB wr) (fun _ i _=>AA.length-(intOf i).toNat)
   case atStart=>exact⟨0,_,rfl,KAb _,rfl,ho0,hK⟩
   case round=>
    clear hK ho0;obtain⟨k,v,rfl,hk,rfl,ho,hK⟩:=hrel;obtain⟨b0,b1,b2,b3,b4,b5,b6,b7⟩:=BC.out _ hK;by_cases hlt:k<AA.length
    ·
     have i1:(0:Int)<=(k:Int):=KAK _;have i2:(k:Int)<(AA.length:Int):=by omega
     have hkn:k<b.AJ.length:=by rw[hpn.out];exact hlt
     have i3:(k:Int)<(b.AJ.length:Int):=by omega
     have hN:=HN.out.keep (kB.trans hK);obtain⟨a',c',he',hN⟩:=hN;simp only[KAT,KA8] at he';obtain⟨rfl,rfl⟩:=he';rcases hN with h0|⟨bn,on,rfl,hbn,hcn'⟩
     . exfalso;rw[h0] at hkn;simp at hkn
     obtain⟨vn,d3,r3⟩:=hcn' k hkn;obtain⟨an,cn,rfl,-⟩:=r3;have hml2:=jd b k;have hml3:(CK++O0 b k).length<=AA.length+k:=by rw[KAJ];omega
     have hsz:=hK.size;have HH:0<(b.AJ.getD k []).length->Hid (O0 b (k+1)=O0 b k++[10+(k:Int)]):=fun h=>AI (jc h)
     have HZ:¬ 0<(b.AJ.getD k []).length->Hid (O0 b (k+1)=O0 b k):=fun h=>AI (bG h)
     generalize b.AJ.getD k []=ns at *;have i4:IntKind.i64.wrap (10+(k:Int))=10+(k:Int):=by rw[KAk];omega
     clear hcn';by_cases hz:0<ns.length
     ·
      have HM:Hid (CK++O0 b (k+1)=(CK++O0 b k)++[10+(k:Int)]):=AI (by rw[(HH hz).out,KA2]);have i5:(0:Int)<(ns.length:Int):=by omega
      clear HH HZ;generalize CK++O0 b k=PK at *;go_wp2_with (at_builtin;refine KBu _ rfl _ _ 25 rfl wB.heap.size 2 i0 (.int .i64 0) 1 8 Tryz.underlying25 hi hz0 hz1 hz2 rfl (by decide) _ _ _ rfl (KCI ho _) ⟨_,0,none⟩ 1 1 [.int .i64 (10+(k:Int))] rfl rfl ?c1 ?c2 ?c3 ?c4 ?c5 ?_)
      case c1=>
       intro j u hj
       match j,hj with
       | 0,hj=>simp at hj;subst hj;simp[Addr.add]
      case c2=>intro u hu;simp at hu;subst hu;rfl
      case c3=>unfold maxLen;omega
      case c4=>omega
      case c5=>simp;omega
      intro v' w1 hown' hgrow _;have hK1:AC wB w1:=(hK.alloc _).grown hgrow ho.ge;clear hgrow b0 b1 b2 b3 b4 b5 b6 b7;go_wp2;go_roundw;case rel=>exact⟨k+1,_,rfl,by omega,by go_num,by rw[HM.out];exact B8 hown',hK1⟩
      case measure=>simp[intOf];omega
     ·
      have HM:=HZ hz;have i5:¬((0:Int)<(ns.length:Int)):=by omega
      clear HH HZ;go_wp2;clear b0 b1 b2 b3 b4 b5 b6 b7;go_roundw;case rel=>exact⟨k+1,_,rfl,by omega,by go_num,by rw[HM.out];exact ho,hK⟩
      case measure=>simp[intOf];omega
    ·
     obtain rfl:k=AA.length:=by omega
     go_wp2;go_ret;exact⟨_,rfl,by rw[<-HP.out];exact ho.BK (by have:=SB.out;omega),kB.trans hK⟩
end Go.Proofs.YtflehmepjhikcaaGreatDoor
