/- Gathered texts. -/
import Derived.Test.YtgakfkjjkobpiaaGreatMH
import Derived.Lib.Hide
import Derived.Deep.QuietTactic
import Derived.BigQuiet
import Derived.Test.YtgakfkjjkobpiaaGreatMG
import Derived.Deep.RegionHeld3
import Derived.Deep.Cut
set_option maxRecDepth 100000
set_option maxHeartbeats 8000000
namespace Go.Proofs.YtgakfkjjkobpiaaGreat
open Go.ChangeShapes Go.WideShapes Go.ChangeAt Go.RowKit
theorem Om (w:World)(v1 v2:Value)(AA:List (List Dd))(h1:Ic w v1 AA)(h2:Ic w v2 AA)(hx:AA.length<=1048576)(hm:∀i,i<AA.length->(AA.getD i []).length<=1048576):
  Calls Tryz.prog 48 #[v1,v2] w fun e w'=>e = .returned (.bool true)/\AC w w':=by
 obtain⟨a1,c1,rfl,h1⟩:=h1;obtain⟨a2,c2,rfl,h2⟩:=h2;have e0:((AA.length:Int) != (AA.length:Int))=false:=by simp
 go_enter Tryz.func48,Tryz.ntmps48
 go_wp2;go_loopw [5] (fun i wr=>∃k:Nat,k<=AA.length/\i = .int .i64 k/\AC w wr) (fun i _=>AA.length-(intOf i).toNat)
 case atStart=>exact⟨0,Nat.zero_le _,rfl,AC.refl _⟩
 case round=>
  obtain⟨k,hk,rfl,hK⟩:=hrel;by_cases hlt:k<AA.length
  ·
   rcases h1 with h|⟨b1,o1,rfl,hb1,hc1⟩
   . exfalso;rw[h] at hlt;simp at hlt
   rcases h2 with h|⟨b2,o2,rfl,hb2,hc2⟩
   . exfalso;rw[h] at hlt;simp at hlt
   obtain⟨u1,e1,r1⟩:=hc1 k hlt;obtain⟨u2,e2,r2⟩:=hc2 k hlt;have hmk:=hm k hlt;clear hc1 hc2 hm;obtain⟨ds,hds⟩:∃ds,ds=AA.getD k []:=⟨_,rfl⟩;rw[<-hds] at r1 r2 hmk;clear hds;obtain⟨ai,ci,rfl,r1⟩:=r1;obtain⟨aj,cj,rfl,r2⟩:=r2;have d1:=(hK.cell hb1).trans e1;have d2:=(hK.cell hb2).trans e2;have hbw1:b1<wr.heap.size:=Nat.lt_of_lt_of_le hb1 hK.size;have hbw2:b2<wr.heap.size:=Nat.lt_of_lt_of_le hb2 hK.size;have i1:(0:Int)<=(k:Int):=Int.natCast_nonneg _;have i2:(k:Int)<(AA.length:Int):=by omega
   have en:((ds.length:Int) != (ds.length:Int))=false:=by simp
   go_wp2;go_quiet (fail)
   go_wp2;go_loopw [6] (fun i wq=>∃q:Nat,q<=ds.length/\i = .int .i64 q/\AC w wq) (fun i _=>ds.length-(intOf i).toNat)
   case atStart=>exact⟨0,Nat.zero_le _,rfl,hK.drewN _⟩
   case round=>
    obtain⟨q,hq,rfl,hQ⟩:=hrel;have d1:=(hQ.cell hb1).trans e1;have d2:=(hQ.cell hb2).trans e2;have hbq1:b1<wr.heap.size:=Nat.lt_of_lt_of_le hb1 hQ.size;have hbq2:b2<wr.heap.size:=Nat.lt_of_lt_of_le hb2 hQ.size;by_cases hlq:q<ds.length
    ·
     rcases r1 with h|⟨p1,s1,rfl,hp1,hd1⟩
     . exfalso;rw[h] at hlq;simp at hlq
     rcases r2 with h|⟨p2,s2,rfl,hp2,hd2⟩
     . exfalso;rw[h] at hlq;simp at hlq
     obtain⟨A0,A1,A2,A3⟩:=(hd1 q hlq).keep hp1 hQ;obtain⟨B0,B1,B2,B3⟩:=(hd2 q hlq).keep hp2 hQ;clear hd1 hd2;generalize ds.getD q zD=d at A0 A1 A2 A3 B0 B1 B2 B3;obtain⟨x0,x1,x2,x3⟩:=d;simp only at A0 A1 A2 A3 B0 B1 B2 B3;have hpw1:p1<wr.heap.size:=Nat.lt_of_lt_of_le hp1 hQ.size;have hpw2:p2<wr.heap.size:=Nat.lt_of_lt_of_le hp2 hQ.size;have j1:(0:Int)<=(q:Int):=Int.natCast_nonneg _;have j2:(q:Int)<(ds.length:Int):=by omega
     go_wp2;go_quiet (fail)
     go_wp2;go_roundw;case rel=>exact⟨q+1,by omega,by go_num,hQ.drewN _⟩
     case measure=>simp[intOf];omega
    ·
     obtain rfl:q=ds.length:=by omega
     go_wp2;go_roundw;case rel=>exact⟨k+1,by omega,by go_num,hQ⟩
     case measure=>simp[intOf];omega
  ·
   obtain rfl:k=AA.length:=by omega
   go_wp2;go_ret;exact⟨rfl,hK⟩
theorem BU (w:World)(v1 v2:Value)(xs:List Int)(h1:Rd w v1 xs)(h2:Rd w v2 xs)(hx:xs.length<=1048576):
  Calls Tryz.prog 17 #[v1,v2] w fun e w'=>e = .returned (.bool true)/\AC w w':=by
 have:=WZ w v1 v2 xs xs h1 h2 hx
 simpa using this
theorem SD (w:World)(v1 v2:Value)(FW:List (List Int))(h1:YG w v1 FW)(h2:YG w v2 FW)(hx:FW.length<=1048576)(hm:∀i,i<FW.length->(FW.getD i []).length<=1048576):
  Calls Tryz.prog 49 #[v1,v2] w fun e w'=>e = .returned (.bool true)/\AC w w':=by
 obtain⟨a1,c1,rfl,h1⟩:=h1;obtain⟨a2,c2,rfl,h2⟩:=h2;have e0:((FW.length:Int) != (FW.length:Int))=false:=by simp
 go_enter Tryz.func49,Tryz.ntmps49
 go_wp2;go_loopw [5] (fun i wr=>∃k:Nat,k<=FW.length/\i = .int .i64 k/\AC w wr) (fun i _=>FW.length-(intOf i).toNat)
 case atStart=>exact⟨0,Nat.zero_le _,rfl,AC.refl _⟩
 case round=>
  obtain⟨k,hk,rfl,hK⟩:=hrel;by_cases hlt:k<FW.length
  ·
   rcases h1 with h|⟨b1,o1,rfl,hb1,hc1⟩
   . exfalso;rw[h] at hlt;simp at hlt
   rcases h2 with h|⟨b2,o2,rfl,hb2,hc2⟩
   . exfalso;rw[h] at hlt;simp at hlt
   obtain⟨u1,e1,r1⟩:=hc1 k hlt;obtain⟨u2,e2,r2⟩:=hc2 k hlt;have hmk:=hm k hlt;clear hc1 hc2 hm;generalize FW.getD k []=zs at r1 r2 hmk;have R1:=r1.keep (hK.trans (AC.refl wr).drew);have R2:=r2.keep (hK.trans (AC.refl wr).drew);have C:=BU wr.drew u1 u2 zs R1 R2 hmk;obtain⟨ai,ci,rfl,-⟩:=r1;obtain⟨aj,cj,rfl,-⟩:=r2;have d1:=(hK.cell hb1).trans e1;have d2:=(hK.cell hb2).trans e2;have hbw1:b1<wr.drew.heap.size:=Nat.lt_of_lt_of_le hb1 hK.size;have hbw2:b2<wr.drew.heap.size:=Nat.lt_of_lt_of_le hb2 hK.size;have i1:(0:Int)<=(k:Int):=Int.natCast_nonneg _;have i2:(k:Int)<(FW.length:Int):=by omega
   clear e1 e2 R1 R2;go_wp2
   go_region_held3 (fun w'=>w'.cell? ⟨b1,o1+k,none⟩=some (.slice ai zs.length ci)/\w'.cell? ⟨b2,o2+k,none⟩=some (.slice aj zs.length cj))
    (first|go_keep|(go_split_ands;refine⟨?_,?_⟩<;>(rw[kk.cell (by assumption)];assumption)))
    ((go_at_call 17;refine C.mono ?_;rintro e wz ⟨rfl,kk⟩))
   all_goals
    have KZ:=(hK.trans (AC.refl wr).drew).trans kk;clear C d1 d2 kk;go_wp2;go_roundw;case rel=>exact⟨k+1,by omega,by go_num,KZ⟩
    case measure=>simp[intOf];omega
  ·
   obtain rfl:k=FW.length:=by omega
   go_wp2;go_ret;exact⟨rfl,hK⟩
theorem Cz (w:World)(v1 v2:BV)(AA:List (List Dd))(b:Bd)(h:CJ w v1 AA b)(h2:CJ w v2 AA b)(hz:Cg AA b):
  Calls Tryz.prog 14 #[v1.agg,v2.agg] w fun e w'=>e = .returned (.bool true)/\AC w w':=by
 obtain⟨aW,aP,aL,aN,aX,aT,aF,aR,cW,cP,cL,cQ,cX,cT,cF,cR,rfl⟩:=h.shapes;obtain⟨LJ,LG,LD,LF,LM,LI,LC,LH,cW2,cP2,cL2,cQ2,cX2,cT2,cF2,cR2,rfl⟩:=h2.shapes;have HH:=Lib.hid h;have HG:=Lib.hid h2;have HZ:=Lib.hid hz;clear h h2 hz;go_enter Tryz.func14,Tryz.ntmps14
 go_upto_region 1 with fail
 obtain⟨wB,J9⟩:∃W:World,W=(w.alloc (.cells #[.slice aW AA.length cW,.slice aP b.AM.length cP,.slice aL b.AQ.length cL,.slice aN b.AH.length cQ,.slice aX b.AL.length cX,.slice aT b.sn.length cT,.slice aF b.fr.length cF,.slice aR b.rws.length cR] 30)).alloc (.cells #[.slice LJ AA.length cW2,.slice LG b.AM.length cP2,.slice LD b.AQ.length cL2,.slice LF b.AH.length cQ2,.slice LM b.AL.length cX2,.slice LI b.sn.length cT2,.slice LC b.fr.length cF2,.slice LH b.rws.length cR2] 30):=⟨_,rfl⟩;have kB:AC w wB:=by rw[J9];exact ((AC.refl w).alloc _).alloc _
 have zB:w.heap.size+1<wB.heap.size:=by rw[J9,AD,AD];omega
 have zA:w.heap.size<wB.heap.size:=by omega
 have b0:wB.cell? ⟨w.heap.size,0,none⟩=some (.slice aW AA.length cW):=by rw[J9];exact AS ((AC.refl _).alloc _) 0
 have b1:wB.cell? ⟨w.heap.size,1,none⟩=some (.slice aP b.AM.length cP):=by rw[J9];exact AS ((AC.refl _).alloc _) 1
 have b2:wB.cell? ⟨w.heap.size,2,none⟩=some (.slice aL b.AQ.length cL):=by rw[J9];exact AS ((AC.refl _).alloc _) 2
 have b3:wB.cell? ⟨w.heap.size,3,none⟩=some (.slice aN b.AH.length cQ):=by rw[J9];exact AS ((AC.refl _).alloc _) 3
 have b4:wB.cell? ⟨w.heap.size,4,none⟩=some (.slice aX b.AL.length cX):=by rw[J9];exact AS ((AC.refl _).alloc _) 4
 have b5:wB.cell? ⟨w.heap.size,5,none⟩=some (.slice aT b.sn.length cT):=by rw[J9];exact AS ((AC.refl _).alloc _) 5
 have b6:wB.cell? ⟨w.heap.size,6,none⟩=some (.slice aF b.fr.length cF):=by rw[J9];exact AS ((AC.refl _).alloc _) 6
 have b7:wB.cell? ⟨w.heap.size,7,none⟩=some (.slice aR b.rws.length cR):=by rw[J9];exact AS ((AC.refl _).alloc _) 7
 have d0:wB.cell? ⟨w.heap.size+1,0,none⟩=some (.slice LJ AA.length cW2):=by rw[J9];have:=AS (w:=w.alloc (.cells #[.slice aW AA.length cW,.slice aP b.AM.length cP,.slice aL b.AQ.length cL,.slice aN b.AH.length cQ,.slice aX b.AL.length cX,.slice aT b.sn.length cT,.slice aF b.fr.length cF,.slice aR b.rws.length cR] 30)) (AC.refl _) (cs:=#[.slice LJ AA.length cW2,.slice LG b.AM.length cP2,.slice LD b.AQ.length cL2,.slice LF b.AH.length cQ2,.slice LM b.AL.length cX2,.slice LI b.sn.length cT2,.slice LC b.fr.length cF2,.slice LH b.rws.length cR2]) (t:=30) 0;rw[AD] at this;exact this
 have d1:wB.cell? ⟨w.heap.size+1,1,none⟩=some (.slice LG b.AM.length cP2):=by rw[J9];have:=AS (w:=w.alloc (.cells #[.slice aW AA.length cW,.slice aP b.AM.length cP,.slice aL b.AQ.length cL,.slice aN b.AH.length cQ,.slice aX b.AL.length cX,.slice aT b.sn.length cT,.slice aF b.fr.length cF,.slice aR b.rws.length cR] 30)) (AC.refl _) (cs:=#[.slice LJ AA.length cW2,.slice LG b.AM.length cP2,.slice LD b.AQ.length cL2,.slice LF b.AH.length cQ2,.slice LM b.AL.length cX2,.slice LI b.sn.length cT2,.slice LC b.fr.length cF2,.slice LH b.rws.length cR2]) (t:=30) 1;rw[AD] at this;exact this
 have d2:wB.cell? ⟨w.heap.size+1,2,none⟩=some (.slice LD b.AQ.length cL2):=by rw[J9];have:=AS (w:=w.alloc (.cells #[.slice aW AA.length cW,.slice aP b.AM.length cP,.slice aL b.AQ.length cL,.slice aN b.AH.length cQ,.slice aX b.AL.length cX,.slice aT b.sn.length cT,.slice aF b.fr.length cF,.slice aR b.rws.length cR] 30)) (AC.refl _) (cs:=#[.slice LJ AA.length cW2,.slice LG b.AM.length cP2,.slice LD b.AQ.length cL2,.slice LF b.AH.length cQ2,.slice LM b.AL.length cX2,.slice LI b.sn.length cT2,.slice LC b.fr.length cF2,.slice LH b.rws.length cR2]) (t:=30) 2;rw[AD] at this;exact this
 have d3:wB.cell? ⟨w.heap.size+1,3,none⟩=some (.slice LF b.AH.length cQ2):=by rw[J9];have:=AS (w:=w.alloc (.cells #[.slice aW AA.length cW,.slice aP b.AM.length cP,.slice aL b.AQ.length cL,.slice aN b.AH.length cQ,.slice aX b.AL.length cX,.slice aT b.sn.length cT,.slice aF b.fr.length cF,.slice aR b.rws.length cR] 30)) (AC.refl _) (cs:=#[.slice LJ AA.length cW2,.slice LG b.AM.length cP2,.slice LD b.AQ.length cL2,.slice LF b.AH.length cQ2,.slice LM b.AL.length cX2,.slice LI b.sn.length cT2,.slice LC b.fr.length cF2,.slice LH b.rws.length cR2]) (t:=30) 3;rw[AD] at this;exact this
 have d4:wB.cell? ⟨w.heap.size+1,4,none⟩=some (.slice LM b.AL.length cX2):=by rw[J9];have:=AS (w:=w.alloc (.cells #[.slice aW AA.length cW,.slice aP b.AM.length cP,.slice aL b.AQ.length cL,.slice aN b.AH.length cQ,.slice aX b.AL.length cX,.slice aT b.sn.length cT,.slice aF b.fr.length cF,.slice aR b.rws.length cR] 30)) (AC.refl _) (cs:=#[.slice LJ AA.length cW2,.slice LG b.AM.length cP2,.slice LD b.AQ.length cL2,.slice LF b.AH.length cQ2,.slice LM b.AL.length cX2,.slice LI b.sn.length cT2,.slice LC b.fr.length cF2,.slice LH b.rws.length cR2]) (t:=30) 4;rw[AD] at this;exact this
 have d5:wB.cell? ⟨w.heap.size+1,5,none⟩=some (.slice LI b.sn.length cT2):=by rw[J9];have:=AS (w:=w.alloc (.cells #[.slice aW AA.length cW,.slice aP b.AM.length cP,.slice aL b.AQ.length cL,.slice aN b.AH.length cQ,.slice aX b.AL.length cX,.slice aT b.sn.length cT,.slice aF b.fr.length cF,.slice aR b.rws.length cR] 30)) (AC.refl _) (cs:=#[.slice LJ AA.length cW2,.slice LG b.AM.length cP2,.slice LD b.AQ.length cL2,.slice LF b.AH.length cQ2,.slice LM b.AL.length cX2,.slice LI b.sn.length cT2,.slice LC b.fr.length cF2,.slice LH b.rws.length cR2]) (t:=30) 5;rw[AD] at this;exact this
 have d6:wB.cell? ⟨w.heap.size+1,6,none⟩=some (.slice LC b.fr.length cF2):=by rw[J9];have:=AS (w:=w.alloc (.cells #[.slice aW AA.length cW,.slice aP b.AM.length cP,.slice aL b.AQ.length cL,.slice aN b.AH.length cQ,.slice aX b.AL.length cX,.slice aT b.sn.length cT,.slice aF b.fr.length cF,.slice aR b.rws.length cR] 30)) (AC.refl _) (cs:=#[.slice LJ AA.length cW2,.slice LG b.AM.length cP2,.slice LD b.AQ.length cL2,.slice LF b.AH.length cQ2,.slice LM b.AL.length cX2,.slice LI b.sn.length cT2,.slice LC b.fr.length cF2,.slice LH b.rws.length cR2]) (t:=30) 6;rw[AD] at this;exact this
 have d7:wB.cell? ⟨w.heap.size+1,7,none⟩=some (.slice LH b.rws.length cR2):=by rw[J9];have:=AS (w:=w.alloc (.cells #[.slice aW AA.length cW,.slice aP b.AM.length cP,.slice aL b.AQ.length cL,.slice aN b.AH.length cQ,.slice aX b.AL.length cX,.slice aT b.sn.length cT,.slice aF b.fr.length cF,.slice aR b.rws.length cR] 30)) (AC.refl _) (cs:=#[.slice LJ AA.length cW2,.slice LG b.AM.length cP2,.slice LD b.AQ.length cL2,.slice LF b.AH.length cQ2,.slice LM b.AL.length cX2,.slice LI b.sn.length cT2,.slice LC b.fr.length cF2,.slice LH b.rws.length cR2]) (t:=30) 7;rw[AD] at this;exact this
 rw[<-J9];clear J9;have K0:=kB;have KB0:=AC.refl wB;have f0:=(KB0.cell zA (o:=0)).trans b0;have g0:=(KB0.cell zB (o:=0)).trans d0;go_wp2_with fail
 refine (Om _ _ _ AA (HH.out.W.keep K0) (HG.out.W.keep K0) HZ.out.w1 HZ.out.w2).mono ?_;rintro e w1 ⟨rfl,k1⟩;have K1:=K0.trans k1;have KB1:=KB0.trans k1;clear f0 g0 b0 d0 K0 KB0 k1;have f1:=(KB1.cell zA (o:=1)).trans b1;have g1:=(KB1.cell zB (o:=1)).trans d1;go_wp2_with fail
 refine (BU _ _ _ b.AM (HH.out.P.keep K1) (HG.out.P.keep K1) HZ.out.AM).mono ?_;rintro e w2 ⟨rfl,k2⟩;have K2:=K1.trans k2;have KB2:=KB1.trans k2;clear f1 g1 b1 d1 K1 KB1 k2;have f2:=(KB2.cell zA (o:=2)).trans b2;have g2:=(KB2.cell zB (o:=2)).trans d2;go_wp2_with fail
 refine (BU _ _ _ b.AQ (HH.out.L.keep K2) (HG.out.L.keep K2) HZ.out.AQ).mono ?_;rintro e w3 ⟨rfl,k3⟩;have K3:=K2.trans k3;have KB3:=KB2.trans k3;clear f2 g2 b2 d2 K2 KB2 k3;have f3:=(KB3.cell zA (o:=4)).trans b4;have g3:=(KB3.cell zB (o:=4)).trans d4;go_wp2_with fail
 refine (BU _ _ _ b.AL (HH.out.X.keep K3) (HG.out.X.keep K3) HZ.out.AL).mono ?_;rintro e w4 ⟨rfl,k4⟩;have K4:=K3.trans k4;have KB4:=KB3.trans k4;clear f3 g3 b4 d4 K3 KB3 k4;have f4:=(KB4.cell zA (o:=5)).trans b5;have g4:=(KB4.cell zB (o:=5)).trans d5;go_wp2_with fail
 refine (BU _ _ _ b.sn (HH.out.S.keep K4) (HG.out.S.keep K4) HZ.out.sn).mono ?_;rintro e w5 ⟨rfl,k5⟩;have K5:=K4.trans k5;have KB5:=KB4.trans k5;clear f4 g4 b5 d5 K4 KB4 k5;have f5:=(KB5.cell zA (o:=6)).trans b6;have g5:=(KB5.cell zB (o:=6)).trans d6;go_wp2_with fail
 refine (BU _ _ _ b.fr (HH.out.F.keep K5) (HG.out.F.keep K5) HZ.out.fr).mono ?_;rintro e w6 ⟨rfl,k6⟩;have K6:=K5.trans k6;have KB6:=KB5.trans k6;clear f5 g5 b6 d6 K5 KB5 k6;have f6:=(KB6.cell zA (o:=7)).trans b7;have g6:=(KB6.cell zB (o:=7)).trans d7;go_wp2_with fail
 refine (SD _ _ _ b.rws (HH.out.R.keep K6) (HG.out.R.keep K6) HZ.out.r1 HZ.out.r2).mono ?_;rintro e w7 ⟨rfl,k7⟩;have K7:=K6.trans k7;have KB7:=KB6.trans k7;clear f6 g6 b7 d7 K6 KB6 k7;have b3':=(KB7.cell zA (o:=3)).trans b3;have d3':=(KB7.cell zB (o:=3)).trans d3;have e0:((b.AH.length:Int) != (b.AH.length:Int))=false:=by simp
 obtain⟨xQ,cN',eN',h1⟩:=HH.out.N;simp only[Value.slice.injEq,true_and] at eN';obtain⟨rfl,rfl⟩:=eN';obtain⟨xQ,cN',eN',h2⟩:=HG.out.N;simp only[Value.slice.injEq,true_and] at eN';obtain⟨rfl,rfl⟩:=eN';have hm:=HZ.out.n2;have hx:=HZ.out.n1;clear b3 d3;go_wp2;go_loopw [5] (fun i wr=>∃k:Nat,k<=b.AH.length/\i = .int .i64 k/\AC w wr/\AC w7 wr) (fun i _=>b.AH.length-(intOf i).toNat)
 case atStart=>exact⟨0,Nat.zero_le _,rfl,K7,AC.refl _⟩
 case round=>
  obtain⟨k,hk,rfl,hK,hJ⟩:=hrel;have zV:w.heap.size<w7.heap.size:=Nat.lt_of_lt_of_le zA KB7.size;have zW:w.heap.size+1<w7.heap.size:=Nat.lt_of_lt_of_le zB KB7.size;have p1:=(hJ.cell zV).trans b3';have p2:=(hJ.cell zW).trans d3';by_cases hlt:k<b.AH.length
  ·
   rcases h1 with h|⟨b1,o1,rfl,hb1,hc1⟩
   . exfalso;rw[h] at hlt;simp at hlt
   rcases h2 with h|⟨b2,o2,rfl,hb2,hc2⟩
   . exfalso;rw[h] at hlt;simp at hlt
   obtain⟨u1,e1,r1⟩:=hc1 k hlt;obtain⟨u2,e2,r2⟩:=hc2 k hlt;have hmk:=hm k hlt;clear hc1 hc2 hm;obtain⟨ns,hns⟩:∃ns,ns=b.AH.getD k []:=⟨_,rfl⟩;rw[<-hns] at r1 r2 hmk;clear hns;obtain⟨ai,ci,rfl,r1⟩:=r1;obtain⟨aj,cj,rfl,r2⟩:=r2;have q1:=(hK.cell hb1).trans e1;have q2:=(hK.cell hb2).trans e2;have hbw1:b1<wr.heap.size:=Nat.lt_of_lt_of_le hb1 hK.size;have hbw2:b2<wr.heap.size:=Nat.lt_of_lt_of_le hb2 hK.size;have i1:(0:Int)<=(k:Int):=Int.natCast_nonneg _;have i2:(k:Int)<(b.AH.length:Int):=by omega
   have en:((ns.length:Int) != (ns.length:Int))=false:=by simp
   go_wp2;go_quiet (fail)
   go_wp2;go_loopw [6] (fun i wq=>∃q:Nat,q<=ns.length/\i = .int .i64 q/\AC w wq/\AC w7 wq) (fun i _=>ns.length-(intOf i).toNat)
   case atStart=>exact⟨0,Nat.zero_le _,rfl,hK.drewN _,hJ.drewN _⟩
   case round=>
    obtain⟨q,hq,rfl,hQ,qU⟩:=hrel;have p1:=(qU.cell zV).trans b3';have p2:=(qU.cell zW).trans d3';have q1:=(hQ.cell hb1).trans e1;have q2:=(hQ.cell hb2).trans e2;by_cases hlq:q<ns.length
    ·
     rcases r1 with h|⟨p1',s1,rfl,hp1,hd1⟩
     . exfalso;rw[h] at hlq;simp at hlq
     rcases r2 with h|⟨p2',s2,rfl,hp2,hd2⟩
     . exfalso;rw[h] at hlq;simp at hlq
     obtain⟨A0,A1,A2⟩:=VT ((hd1 q _ (Gh hlq)).keep hp1 hQ);obtain⟨B0,B1,B2⟩:=VT ((hd2 q _ (Gh hlq)).keep hp2 hQ);clear hd1 hd2;generalize ns.getD q zN=d at A0 A1 A2 B0 B1 B2;obtain⟨x0,x1,x2⟩:=d;simp only at A0 A1 A2 B0 B1 B2;have j1:(0:Int)<=(q:Int):=Int.natCast_nonneg _;have j2:(q:Int)<(ns.length:Int):=by omega
     go_wp2;go_quiet (fail)
     go_wp2;go_roundw;case rel=>exact⟨q+1,by omega,by go_num,hQ.drewN _,qU.drewN _⟩
     case measure=>simp[intOf];omega
    ·
     obtain rfl:q=ns.length:=by omega
     go_wp2;go_roundw;case rel=>exact⟨k+1,by omega,by go_num,hQ,qU⟩
     case measure=>simp[intOf];omega
  ·
   obtain rfl:k=b.AH.length:=by omega
   go_wp2;go_ret;exact⟨rfl,hK⟩
end Go.Proofs.YtgakfkjjkobpiaaGreat
