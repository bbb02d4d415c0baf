/- At every string of bytes the law FnSteps answers true and its argument stays. -/
import Derived.Test.YtgakfkjjkobpiaaGreatRows
import Derived.WalkKit
import Derived.ProofKit
import Derived.OpenShut
import Derived.ShutString
import Derived.ChangeOld
import Derived.Below
import Derived.Test.YtgakfkjjkobpiaaGreatMW
import Derived.Test.YtgakfkjjkobpiaaGreatNE
import Derived.Test.YtgakfkjjkobpiaaGreatNC
import Derived.Test.YtgakfkjjkobpiaaGreatMX
import Derived.Test.YtgakfkjjkobpiaaGreatND
import Derived.BigRegion
import Derived.BigQuiet
import Derived.Deep.QuietTactic
import Derived.Deep.Cut
import Derived.Deep.RegionHeld3
namespace Go.Proofs.YtgakfkjjkobpiaaGreat.fnSteps
open Go.ChangeShapes Go.WideShapes Go.ChangeAt Go.RowKit
open Go.ChangeMaps (open_string shut_string)
set_option linter.unusedVariables false
theorem own:ownKnob Tryz.prog.godebug=none:=by kernel_rfl
theorem laidOut:laidOutB Tryz.prog=true:=by kernel_rfl
def IsRow (k:IntKind)(w:World)(a:Option Addr)(len cap:Nat)(zs:List Int):Prop:=
 (a=none/\len=0/\cap=0/\zs=[]) \/
 ∃x,a=some x/\len<=cap/\cap<=maxLen/\zs.length=cap/\(∀i,i<zs.length->w.cell? (x.add i)=some (.int k (zs.getD i 0)))/\∀n∈zs,(Lit.int k n).wf=true
set_option maxRecDepth 100000 in
set_option maxHeartbeats 8000000 in
theorem walk (a0:Option Addr)(len0 cap0:Nat)(z0:List Int)(w:World)(w0:IsRow .u8 w a0 len0 cap0 z0):
  Calls Tryz.prog 4 #[.slice a0 len0 cap0] w fun e w'=>e = .returned (.bool true)/\Below w.heap.size w w':=by
 by_cases hbig:4096<len0
 ·
  have hbb:decide (4096<len0)=true:=by simpa using hbig
  go_enter Tryz.func4,Tryz.ntmps4
  go_wp2_with (go_at_call 6;refine (Kh _ _ _ _).mono ?_;rintro e w' ⟨rfl,rfl⟩)
  go_ret;exact⟨rfl,Below.refl _ _⟩
 have hbb:decide (4096<len0)=false:=by simpa using hbig
 obtain⟨zs,hzl,hrd⟩:∃zs:List Int,zs.length=len0/\Ms w w.heap.size a0 zs:=MU (by omega) w0;have hz12:zs.length<=4096:=by omega
 subst hzl;clear w0 hbig;go_enter Tryz.func4,Tryz.ntmps4
 go_wp2_with fail
 refine (Kh _ _ _ _).mono ?_;rintro e w' ⟨rfl,rfl⟩;go_wp2_with fail
 refine (KY _ a0 cap0 zs hrd).mono ?_;rintro e w1 ⟨bv,AA,b,s,rfl,fB,⟨hz,hlo⟩,k1⟩;have rB1:=fB.rd;have K1:=k1;have HZ:=Lib.hid hz;clear fB hz hlo k1 hbb;obtain⟨ic,Uz,iX,iY,YW,YT,iW,iZ,Ye,U0,iw,Ik,U1,Yd,iq,iy,rfl⟩:=rB1.shapes;go_upto_region 4 with fail
 obtain⟨w2,hw⟩:∃W:World,W=w1.alloc (.cells #[.slice ic AA.length Ye,.slice Uz b.AM.length U0,.slice iX b.AQ.length iw,.slice iY b.AH.length Ik,.slice YW b.AL.length U1,.slice YT b.sn.length Yd,.slice iW b.fr.length iq,.slice iZ b.rws.length iy] 30):=⟨_,rfl⟩;have kb:AC w1 w2:=by rw[hw];exact (AC.refl w1).alloc _
 have hB:w2.heap[w1.heap.size]? = some (.cells #[.slice ic AA.length Ye,.slice Uz b.AM.length U0,.slice iX b.AQ.length iw,.slice iY b.AH.length Ik,.slice YW b.AL.length U1,.slice YT b.sn.length Yd,.slice iW b.fr.length iq,.slice iZ b.rws.length iy] 30 (0,0)):=by rw[hw];exact heap_alloc_new _ _
 have lB:w1.heap.size<w2.heap.size:=by rw[hw,AD];omega
 rw[<-hw];clear hw;have wR:=K1.trans kb;have rB2:=rB1.keep kb;generalize w1.heap.size=B at *;clear rB1 kb K1;obtain⟨mE,-⟩:=ZT AA b s;have Xi:=Lib.hid mE;clear mE;have CI:=DM w2 _ AA b s rB2 HZ.out;obtain⟨D,hD⟩:∃D,D=FT AA b:=⟨_,rfl⟩;obtain⟨Q,hQ⟩:∃Q,Q=Em AA b s:=⟨_,rfl⟩;obtain⟨T,hT⟩:∃T,T=Gy AA b s:=⟨_,rfl⟩;rw[<-hD,<-hQ] at Xi;rw[<-hD,<-hQ,<-hT] at CI;have HD:=Lib.hid hD;have HQ:=Lib.hid hQ;have Q9:=Lib.hid hT;clear hD hQ hT;go_wp2_with (first|refine wpList_load_row rfl 30 _ rfl B rfl 30 _ (0,0) _ hB Tryz.underlying30 rfl AF ?_|fail)
 refine CI.mono ?_;rintro e w3 ⟨bvX,rfl,fX,k3⟩;have jE:=fX.rd;have K3:=wR.trans k3;have s3:=k3.size;replace hB:=(Below.block k3 B (by omega)).trans hB;have rB3:=rB2.keep k3;clear CI fX k3 wR rB2;obtain⟨VQ,Pi,VN,VO,Sm,Sk,VM,VP,Vp,NH,Su,E5,Sw,Sv,Vm,Vo,rfl⟩:=jE.shapes;go_upto_region 5 with fail
 obtain⟨w4,hw⟩:∃W:World,W=w3.alloc (.cells #[.slice VQ D.length Vp,.slice Pi Q.AM.length NH,.slice VN Q.AQ.length Su,.slice VO Q.AH.length E5,.slice Sm Q.AL.length Sw,.slice Sk Q.sn.length Sv,.slice VM Q.fr.length Vm,.slice VP Q.rws.length Vo] 30):=⟨_,rfl⟩;have kb:AC w3 w4:=by rw[hw];exact (AC.refl w3).alloc _
 have hX:w4.heap[w3.heap.size]? = some (.cells #[.slice VQ D.length Vp,.slice Pi Q.AM.length NH,.slice VN Q.AQ.length Su,.slice VO Q.AH.length E5,.slice Sm Q.AL.length Sw,.slice Sk Q.sn.length Sv,.slice VM Q.fr.length Vm,.slice VP Q.rws.length Vo] 30 (0,0)):=by rw[hw];exact heap_alloc_new _ _
 have lX:w3.heap.size<w4.heap.size:=by rw[hw,AD];omega
 rw[<-hw];clear hw;have wV:=K3.trans kb;have nK:=jE.keep kb;have rB4:=rB3.keep kb;replace hB:=(Below.block kb B (by omega)).trans hB;have zB:B<w3.heap.size:=by omega
 generalize w3.heap.size=X at *;clear jE rB3 kb K3;have CP:=GD w4 _ AA b rB4 HZ.out;obtain⟨P,hP⟩:∃P,P=Dz AA b:=⟨_,rfl⟩;rw[<-hP] at CP;have hpl:P.length<=1048576:=by rw[hP];exact Jz AA b
 have HP:=Lib.hid hP;clear hP;go_wp2_with (first|refine wpList_load_row rfl 30 _ rfl B rfl 30 _ (0,0) _ hB Tryz.underlying30 rfl AF ?_|fail)
 refine CP.mono ?_;rintro e w5 ⟨vp,rfl,op,k5⟩;have rp5:=op.rd;have K5:=wV.trans k5;have s5:=k5.size;replace hB:=(Below.block k5 B (by omega)).trans hB;replace hX:=(Below.block k5 X (by omega)).trans hX;have rB5:=rB4.keep k5;have jF:=nK.keep k5;obtain⟨ap,cp,rfl,-⟩:=id rp5;clear CP op k5 wV rB4 nK;have CS:=Kf w5 _ AA b s rB5 HZ.out;rw[<-HD.out,<-HQ.out,<-Q9.out] at CS;go_wp2_with (first|refine wpList_load_row rfl 30 _ rfl B rfl 30 _ (0,0) _ hB Tryz.underlying30 rfl AF ?_|fail)
 refine CS.mono ?_;rintro e w7 ⟨bvY,rfl,ul,k7⟩;have K7:=K5.trans k7;have s7:=k7.size;replace hB:=(Below.block k7 B (by omega)).trans hB;replace hX:=(Below.block k7 X (by omega)).trans hX;have rB7:=rB5.keep k7;have zH:=jF.keep k7;have rp7:=rp5.keep k7;clear CS k7 K5 rB5 jF rp5;obtain⟨cB,bZ,bU,bV,cK,bg,bT,bf,dQ,dI,dH,Ri,dU,dK,dG,dJ,rfl⟩:=ul.shapes;go_upto_region 7 with fail
 obtain⟨w8,hw⟩:∃W:World,W=w7.alloc (.cells #[.slice cB D.length dQ,.slice bZ Q.AM.length dI,.slice bU Q.AQ.length dH,.slice bV Q.AH.length Ri,.slice cK Q.AL.length dU,.slice bg Q.sn.length dK,.slice bT Q.fr.length dG,.slice bf Q.rws.length dJ] 30):=⟨_,rfl⟩;have kb:AC w7 w8:=by rw[hw];exact (AC.refl w7).alloc _
 have hY:w8.heap[w7.heap.size]? = some (.cells #[.slice cB D.length dQ,.slice bZ Q.AM.length dI,.slice bU Q.AQ.length dH,.slice bV Q.AH.length Ri,.slice cK Q.AL.length dU,.slice bg Q.sn.length dK,.slice bT Q.fr.length dG,.slice bf Q.rws.length dJ] 30 (0,0)):=by rw[hw];exact heap_alloc_new _ _
 have lY:w7.heap.size<w8.heap.size:=by rw[hw,AD];omega
 rw[<-hw];clear hw;have wX:=K7.trans kb;have uh:=zH.keep kb;have rB8:=rB7.keep kb;have zK:=ul.keep kb;have rp8:=rp7.keep kb;replace hB:=(Below.block kb B (by omega)).trans hB;replace hX:=(Below.block kb X (by omega)).trans hX;have zX:X<w7.heap.size:=by omega
 generalize w7.heap.size=Y at *;clear zH rB7 ul rp7 kb K7;have lJ:(T != T)=false:=by cases T<;>rfl
 have Tg:w8.cell? ⟨X,0,none⟩=some (.slice VQ D.length Vp):=by rw[cell_of_row w8 _ 0 _ _ _ hX];rfl
 have RJ:w8.cell? ⟨X,1,none⟩=some (.slice Pi Q.AM.length NH):=by rw[cell_of_row w8 _ 1 _ _ _ hX];rfl
 have Sh:w8.cell? ⟨X,2,none⟩=some (.slice VN Q.AQ.length Su):=by rw[cell_of_row w8 _ 2 _ _ _ hX];rfl
 have RK:w8.cell? ⟨X,3,none⟩=some (.slice VO Q.AH.length E5):=by rw[cell_of_row w8 _ 3 _ _ _ hX];rfl
 have RM:w8.cell? ⟨X,4,none⟩=some (.slice Sm Q.AL.length Sw):=by rw[cell_of_row w8 _ 4 _ _ _ hX];rfl
 have Si:w8.cell? ⟨X,5,none⟩=some (.slice Sk Q.sn.length Sv):=by rw[cell_of_row w8 _ 5 _ _ _ hX];rfl
 have Th:w8.cell? ⟨X,6,none⟩=some (.slice VM Q.fr.length Vm):=by rw[cell_of_row w8 _ 6 _ _ _ hX];rfl
 have Ti:w8.cell? ⟨X,7,none⟩=some (.slice VP Q.rws.length Vo):=by rw[cell_of_row w8 _ 7 _ _ _ hX];rfl
 have vJ:w8.cell? ⟨Y,0,none⟩=some (.slice cB D.length dQ):=by rw[cell_of_row w8 _ 0 _ _ _ hY];rfl
 have vK:w8.cell? ⟨Y,1,none⟩=some (.slice bZ Q.AM.length dI):=by rw[cell_of_row w8 _ 1 _ _ _ hY];rfl
 have vM:w8.cell? ⟨Y,2,none⟩=some (.slice bU Q.AQ.length dH):=by rw[cell_of_row w8 _ 2 _ _ _ hY];rfl
 have vO:w8.cell? ⟨Y,3,none⟩=some (.slice bV Q.AH.length Ri):=by rw[cell_of_row w8 _ 3 _ _ _ hY];rfl
 have vQ:w8.cell? ⟨Y,4,none⟩=some (.slice cK Q.AL.length dU):=by rw[cell_of_row w8 _ 4 _ _ _ hY];rfl
 have vT:w8.cell? ⟨Y,5,none⟩=some (.slice bg Q.sn.length dK):=by rw[cell_of_row w8 _ 5 _ _ _ hY];rfl
 have vU:w8.cell? ⟨Y,6,none⟩=some (.slice bT Q.fr.length dG):=by rw[cell_of_row w8 _ 6 _ _ _ hY];rfl
 have vV:w8.cell? ⟨Y,7,none⟩=some (.slice bf Q.rws.length dJ):=by rw[cell_of_row w8 _ 7 _ _ _ hY];rfl
 have aC:w8.cell? ⟨B,0,none⟩=some (.slice ic AA.length Ye):=by rw[cell_of_row w8 _ 0 _ _ _ hB];rfl
 have aG:w8.cell? ⟨B,1,none⟩=some (.slice Uz b.AM.length U0):=by rw[cell_of_row w8 _ 1 _ _ _ hB];rfl
 have iC:w8.cell? ⟨B,2,none⟩=some (.slice iX b.AQ.length iw):=by rw[cell_of_row w8 _ 2 _ _ _ hB];rfl
 have Zb:w8.cell? ⟨B,3,none⟩=some (.slice iY b.AH.length Ik):=by rw[cell_of_row w8 _ 3 _ _ _ hB];rfl
 have Zc:w8.cell? ⟨B,4,none⟩=some (.slice YW b.AL.length U1):=by rw[cell_of_row w8 _ 4 _ _ _ hB];rfl
 have aH:w8.cell? ⟨B,5,none⟩=some (.slice YT b.sn.length Yd):=by rw[cell_of_row w8 _ 5 _ _ _ hB];rfl
 have iE:w8.cell? ⟨B,6,none⟩=some (.slice iW b.fr.length iq):=by rw[cell_of_row w8 _ 6 _ _ _ hB];rfl
 have iG:w8.cell? ⟨B,7,none⟩=some (.slice iZ b.rws.length iy):=by rw[cell_of_row w8 _ 7 _ _ _ hB];rfl
 go_wp2_with fail
 refine (Cz _ _ _ D Q uh zK Xi.out).mono ?_;rintro e w9 ⟨rfl,k9⟩;have K9:=wX.trans k9;have s9:=k9.size;replace hB:=(Below.block k9 B (by omega)).trans hB;replace hX:=(Below.block k9 X (by omega)).trans hX;have zI:=uh.keep k9;have rB9:=rB8.keep k9;have rp9:=rp8.keep k9;clear Tg RJ Sh RK RM Si Th Ti vJ vK vM vO vQ vT vU vV aC aG iC Zb Zc aH iE iG uh rB8 zK rp8 k9 wX hY;have aC:w9.cell? ⟨B,0,none⟩=some (.slice ic AA.length Ye):=by rw[cell_of_row w9 _ 0 _ _ _ hB];rfl
 have aG:w9.cell? ⟨B,1,none⟩=some (.slice Uz b.AM.length U0):=by rw[cell_of_row w9 _ 1 _ _ _ hB];rfl
 have iC:w9.cell? ⟨B,2,none⟩=some (.slice iX b.AQ.length iw):=by rw[cell_of_row w9 _ 2 _ _ _ hB];rfl
 have Zb:w9.cell? ⟨B,3,none⟩=some (.slice iY b.AH.length Ik):=by rw[cell_of_row w9 _ 3 _ _ _ hB];rfl
 have Zc:w9.cell? ⟨B,4,none⟩=some (.slice YW b.AL.length U1):=by rw[cell_of_row w9 _ 4 _ _ _ hB];rfl
 have aH:w9.cell? ⟨B,5,none⟩=some (.slice YT b.sn.length Yd):=by rw[cell_of_row w9 _ 5 _ _ _ hB];rfl
 have iE:w9.cell? ⟨B,6,none⟩=some (.slice iW b.fr.length iq):=by rw[cell_of_row w9 _ 6 _ _ _ hB];rfl
 have iG:w9.cell? ⟨B,7,none⟩=some (.slice iZ b.rws.length iy):=by rw[cell_of_row w9 _ 7 _ _ _ hB];rfl
 have CQ:=GI w9 _ AA b rB9 HZ.out;rw[<-HP.out] at CQ;go_wp2_with fail
 refine CQ.mono ?_;rintro e w10 ⟨vq,rfl,oq,k10⟩;have gW:=oq.rd;have K10:=K9.trans k10;have s10:=k10.size;replace hB:=(Below.block k10 B (by omega)).trans hB;replace hX:=(Below.block k10 X (by omega)).trans hX;have nC:=zI.keep k10;have rB10:=rB9.keep k10;have rp10:=rp9.keep k10;obtain⟨aq,cq,rfl,-⟩:=id gW;clear CQ oq aC aG iC Zb Zc aH iE iG zI rB9 rp9 k10 K9;go_wp2_with fail
 refine (BU _ _ _ P rp10 gW hpl).mono ?_;rintro e w11 ⟨rfl,k11⟩;have K11:=K10.trans k11;have s11:=k11.size;replace hB:=(Below.block k11 B (by omega)).trans hB;replace hX:=(Below.block k11 X (by omega)).trans hX;have nG:=nC.keep k11;have rB11:=rB10.keep k11;have rp11:=rp10.keep k11;clear gW nC rB10 rp10 k11 K10
 have wK:Hid (∀i,i+1<P.length->P.getD i 0<P.getD (i+1) 0):=Lib.hid (by
  rw[HP.out,Dz];split
  ·
   rename_i hb;exact Ui (Ue (As (RB.any hb).work).1 b)
  . intro i hi;simp at hi)
 go_wp2_with fail
 refine (Uj _ _ P rp11 hpl wK.out).mono ?_;rintro e w12 ⟨rfl,k12⟩;have K12:=K11.trans k12;have s12:=k12.size;replace hB:=(Below.block k12 B (by omega)).trans hB;replace hX:=(Below.block k12 X (by omega)).trans hX;have nH:=nG.keep k12;have rB12:=rB11.keep k12;have rp12:=rp11.keep k12;clear nG rB11 rp11 k12 K11 wK;go_wp2_with (first|refine wpList_load_row rfl 30 _ rfl B rfl 30 _ (0,0) _ hB Tryz.underlying30 rfl AF ?_|fail)
 refine (DP _ _ AA b rB12 HZ.out).mono ?_;rintro e w13 ⟨rfl,k13⟩;have K13:=K12.trans k13;have s13:=k13.size;replace hB:=(Below.block k13 B (by omega)).trans hB;replace hX:=(Below.block k13 X (by omega)).trans hX;have M4:=nH.keep k13;have rB13:=rB12.keep k13;have rp13:=rp12.keep k13;clear nH rB12 rp12 k13 K12;cases Jj:Af AA b
 ·
  have e1:=Lib.hid (show D=[] by rw[HD.out,FT,Jj,if_neg (by simp)]);have e2:=Lib.hid (show Q=PR by rw[HQ.out,Em,Jj,if_neg (by simp)]);have e3:T=false:=by rw[Q9.out,Gy,Jj];rfl
  have e4:P=[]:=by rw[HP.out,Dz,Jj,if_neg (by simp)]
  clear Q9 lJ HD HQ Jj HP rp13;subst e3;subst e4;have Tg:w13.cell? ⟨X,0,none⟩=some (.slice VQ D.length Vp):=by rw[cell_of_row w13 _ 0 _ _ _ hX];rfl
  have RJ:w13.cell? ⟨X,1,none⟩=some (.slice Pi Q.AM.length NH):=by rw[cell_of_row w13 _ 1 _ _ _ hX];rfl
  have Sh:w13.cell? ⟨X,2,none⟩=some (.slice VN Q.AQ.length Su):=by rw[cell_of_row w13 _ 2 _ _ _ hX];rfl
  have RK:w13.cell? ⟨X,3,none⟩=some (.slice VO Q.AH.length E5):=by rw[cell_of_row w13 _ 3 _ _ _ hX];rfl
  have RM:w13.cell? ⟨X,4,none⟩=some (.slice Sm Q.AL.length Sw):=by rw[cell_of_row w13 _ 4 _ _ _ hX];rfl
  have Si:w13.cell? ⟨X,5,none⟩=some (.slice Sk Q.sn.length Sv):=by rw[cell_of_row w13 _ 5 _ _ _ hX];rfl
  have Th:w13.cell? ⟨X,6,none⟩=some (.slice VM Q.fr.length Vm):=by rw[cell_of_row w13 _ 6 _ _ _ hX];rfl
  have Ti:w13.cell? ⟨X,7,none⟩=some (.slice VP Q.rws.length Vo):=by rw[cell_of_row w13 _ 7 _ _ _ hX];rfl
  have HL:=Lib.hid (fun (W:World) (k:AC w13 W)=>Cz W _ Ts D Q (M4.keep k) (by rw[e1.out,e2.out];exact Kw W) Xi.out);clear e1 e2;go_wp2_with fail
  refine (HL.out _ (AC.refl _)).mono ?_;rintro e w14 ⟨rfl,k14⟩;have K14:=K13.trans k14;go_wp2;go_ret;exact⟨rfl,K14⟩
 have e1:D=AA:=by rw[HD.out,FT,Jj,if_pos rfl]
 have e2:=Lib.hid (show Q=EA AA b s by rw[HQ.out,Em,Jj,if_pos rfl]);have hT:T=Dx (Ae AA b) s:=by rw[Q9.out,Gy,Jj,Bool.true_and]
 have e4:P=Ae AA b:=by rw[HP.out,Dz,Jj,if_pos rfl]
 have wM:Hid (UH s P=T):=Lib.hid (by rw[fH,e4,hT]);have YD:=Lib.hid hT;clear HD HQ Q9 lJ e4 hT HP;subst e1;go_wp2_with fail
 refine (WL _ _ s P rp13 hpl).mono ?_;rintro e w14 ⟨rfl,rfl⟩;rw[wM.out];clear rp13 wM;cases Xr:Dx (Ae D b) s
 ·
  have e3:Q=b:=by rw[e2.out,EA,Xr];simp
  have e5:T=false:=by rw[YD.out,Xr]
  clear e2 Xr YD;subst e5;subst e3;go_wp2_with (first|refine wpList_load_row rfl 30 _ rfl X rfl 30 _ (0,0) _ hX Tryz.underlying30 rfl AF ?_|refine wpList_load_row rfl 30 _ rfl B rfl 30 _ (0,0) _ hB Tryz.underlying30 rfl AF ?_|fail)
  refine (Cz _ _ _ D Q M4 rB13 HZ.out).mono ?_;rintro e w15 ⟨rfl,k15⟩;have K15:=K13.trans k15;go_wp2;go_ret;exact⟨rfl,K15⟩
 have e3:Q=Aq D (AB D) b s:=by rw[e2.out,EA,if_pos Xr]
 have e5:T=true:=by rw[YD.out,Xr]
 clear e2 YD;subst e5;have Sj:=RB.any Jj;have Uy:=Sj.So Xr;rw[<-e3] at Uy;have h3:D.length<=3:=(As Sj.work).1;rcases MR h3 Xr with ⟨c,rfl,hc,x,r,qO⟩|⟨c,rfl,hc,c10,hcan⟩
 ·
  skip
  obtain⟨p,hp,ex1,u1,u2,u3,u4,u5⟩:=UF Sj hc qO;rw[<-e3] at u1 u2 u3 u4 u5;have aC:w14.cell? ⟨B,0,none⟩=some (.slice ic D.length Ye):=by rw[cell_of_row w14 _ 0 _ _ _ hB];rfl
  have aG:w14.cell? ⟨B,1,none⟩=some (.slice Uz b.AM.length U0):=by rw[cell_of_row w14 _ 1 _ _ _ hB];rfl
  have iC:w14.cell? ⟨B,2,none⟩=some (.slice iX b.AQ.length iw):=by rw[cell_of_row w14 _ 2 _ _ _ hB];rfl
  have Zb:w14.cell? ⟨B,3,none⟩=some (.slice iY b.AH.length Ik):=by rw[cell_of_row w14 _ 3 _ _ _ hB];rfl
  have Zc:w14.cell? ⟨B,4,none⟩=some (.slice YW b.AL.length U1):=by rw[cell_of_row w14 _ 4 _ _ _ hB];rfl
  have aH:w14.cell? ⟨B,5,none⟩=some (.slice YT b.sn.length Yd):=by rw[cell_of_row w14 _ 5 _ _ _ hB];rfl
  have iE:w14.cell? ⟨B,6,none⟩=some (.slice iW b.fr.length iq):=by rw[cell_of_row w14 _ 6 _ _ _ hB];rfl
  have iG:w14.cell? ⟨B,7,none⟩=some (.slice iZ b.rws.length iy):=by rw[cell_of_row w14 _ 7 _ _ _ hB];rfl
  have Tg:w14.cell? ⟨X,0,none⟩=some (.slice VQ D.length Vp):=by rw[cell_of_row w14 _ 0 _ _ _ hX];rfl
  have RJ:w14.cell? ⟨X,1,none⟩=some (.slice Pi Q.AM.length NH):=by rw[cell_of_row w14 _ 1 _ _ _ hX];rfl
  have Sh:w14.cell? ⟨X,2,none⟩=some (.slice VN Q.AQ.length Su):=by rw[cell_of_row w14 _ 2 _ _ _ hX];rfl
  have RK:w14.cell? ⟨X,3,none⟩=some (.slice VO Q.AH.length E5):=by rw[cell_of_row w14 _ 3 _ _ _ hX];rfl
  have RM:w14.cell? ⟨X,4,none⟩=some (.slice Sm Q.AL.length Sw):=by rw[cell_of_row w14 _ 4 _ _ _ hX];rfl
  have Si:w14.cell? ⟨X,5,none⟩=some (.slice Sk Q.sn.length Sv):=by rw[cell_of_row w14 _ 5 _ _ _ hX];rfl
  have Th:w14.cell? ⟨X,6,none⟩=some (.slice VM Q.fr.length Vm):=by rw[cell_of_row w14 _ 6 _ _ _ hX];rfl
  have Ti:w14.cell? ⟨X,7,none⟩=some (.slice VP Q.rws.length Vo):=by rw[cell_of_row w14 _ 7 _ _ _ hX];rfl
  have lN:=(show c<b.AH.length by rw[Sj.AH];exact hc);obtain⟨a',c',he',hopen⟩:=rB13.N;simp only[Value.slice.injEq,true_and] at he';obtain⟨rfl,rfl⟩:=he';rcases hopen with h0|⟨bn,on,rfl,hbn,hcn⟩
  . exfalso;rw[h0] at lN;simp at lN
  have lM:=(show c<Q.AH.length by rw[Uy.AH];exact hc);obtain⟨a',c',he',hopen⟩:=M4.N;simp only[Value.slice.injEq,true_and] at he';obtain⟨rfl,rfl⟩:=he';rcases hopen with h0|⟨bm,om,rfl,tK,hcm⟩
  . exfalso;rw[h0] at lM;simp at lM
  have lP:=(show p<Q.AM.length by rw[Uy.AM];exact hp);obtain⟨a',c',he',hopen⟩:=M4.P;simp only[Value.slice.injEq,true_and] at he';obtain⟨rfl,rfl⟩:=he';rcases hopen with h0|⟨bp,op,rfl,hbp,hcp⟩
  . exfalso;rw[h0] at lP;simp at lP
  have lL:=(show p<Q.AQ.length by rw[Uy.AQ];exact hp);obtain⟨a',c',he',hopen⟩:=M4.L;simp only[Value.slice.injEq,true_and] at he';obtain⟨rfl,rfl⟩:=he';rcases hopen with h0|⟨bl,ol,rfl,hbl,hcl⟩
  . exfalso;rw[h0] at lL;simp at lL
  obtain⟨vn,d3,r3⟩:=hcn c lN;rw[qO] at r3;obtain⟨an,cn,rfl,r3⟩:=r3;rcases r3 with h0|⟨bq,oq,rfl,hbq,hq⟩
  . cases h0
  obtain⟨g0,g1,g2⟩:=VT (hq 0 x rfl);simp only[Nat.zero_mul,Nat.add_zero] at g0 g1 g2;obtain⟨vm,d4,r4⟩:=hcm c lM;obtain⟨am,cm,rfl,-⟩:=r4;have dP:=hcp p lP;have dL:=hcl p lL;rw[u1] at dP;rw[u2] at dL;have hl:(x::r).length=(Q.AH.getD c []).length+1:=by rw[<-qO];omega
  have hL:=(Uy.nl c).1;rw[hl] at d3;have HU4:=Lib.hid u4.symm;have HU5:=Lib.hid u5.symm;have hzx:=Xi.out.AL;have hzs:=Xi.out.sn;clear u1 u2 u3 u4 u5 hl hcn hcm hcp hcl qO e3 hq Xr Jj Uy Sj;generalize (Q.AH.getD c []).length=L at *;obtain⟨x0,x1,x2⟩:=x;simp only at ex1 g0 g1 g2 dP dL;subst ex1;have i0:decide ((10:Int)<=10+(c:Int))=true:=decide_eq_true (by omega);have i1:IntKind.i64.wrap (10+(c:Int)-10)=(c:Int):=by rw[IntKind.wrap_i64];omega
  have i2:IntKind.i64.wrap (((L+1:Nat):Int)-1)=(L:Int):=by rw[IntKind.wrap_i64];omega
  have i3:IntKind.i64.wrap (L:Int)=(L:Int):=by rw[IntKind.wrap_i64];omega
  have i4:IntKind.i64.wrap ((L:Int)+1-1)=(L:Int):=by rw[IntKind.wrap_i64];omega
  have j1:(0:Int)<=(c:Int):=Int.natCast_nonneg _;have j2:(c:Int)<(b.AH.length:Int):=by omega
  have j3:(c:Int)<(Q.AH.length:Int):=by omega
  have j4:(p:Int)<(Q.AM.length:Int):=by omega
  have j5:(p:Int)<(Q.AQ.length:Int):=by omega
  have j6:(0:Int)<((L+1:Nat):Int):=by omega
  have j7:(0:Int)<=(p:Int):=Int.natCast_nonneg _;go_upto_region 18 with fail
  obtain⟨w15,hw15⟩:∃W:World,W=w14.alloc (.cells #[.int .i64 (p:Int),.int .i64 x1,.int .i64 x2] 44):=⟨_,rfl⟩;have k15:AC w14 w15:=by rw[hw15];exact (AC.refl w14).alloc _
  have z15:w14.heap.size<w15.heap.size:=by rw[hw15,AD];omega
  have hN15:w15.heap[w14.heap.size]? = some (.cells #[.int .i64 (p:Int),.int .i64 x1,.int .i64 x2] 44 (0,0)):=by rw[hw15];exact heap_alloc_new _ _
  have n0:w15.cell? ⟨w14.heap.size,0,none⟩=some (.int .i64 (p:Int)):=by rw[cell_of_row w15 _ 0 _ _ _ hN15];rfl
  have n1:w15.cell? ⟨w14.heap.size,1,none⟩=some (.int .i64 x1):=by rw[cell_of_row w15 _ 1 _ _ _ hN15];rfl
  have n2:w15.cell? ⟨w14.heap.size,2,none⟩=some (.int .i64 x2):=by rw[cell_of_row w15 _ 2 _ _ _ hN15];rfl
  rw[<-hw15];have Q7:B<w14.heap.size:=by omega
  have PO:X<w14.heap.size:=by omega
  have nJ:=M4.keep k15;have iH:=(k15.cell PO).trans RJ;have vg:=(k15.cell PO).trans Sh;have aI:=(k15.cell PO).trans RK;have nZ:=(k15.cell PO).trans RM;have vk:=(k15.cell PO).trans Si;have nY:=(k15.cell Q7).trans Zb;have qf:=(k15.cell Q7).trans Zc;have yB5:=(k15.cell Q7).trans aH;have yP:=(k15.cell hbp).trans dP;have yL:=(k15.cell hbl).trans dL;have y4:=(k15.cell tK).trans d4;have y3:=(k15.cell hbn).trans d3;have rB15:=rB13.keep k15;have K15:=K13.trans k15;clear hw15 hN15 hX hB M4 rB13 K13 Tg RJ Sh RK RM Si Th Ti aC aG iC Zb Zc aH iE iG dP dL d4 d3 g0 g1 g2;generalize w14.heap.size=G at *
  have wu:Hid (∀W W':World,AC W W'->w15.heap.size<=W.heap.size->W.cell? ⟨X,1,none⟩=some (.slice (some ⟨bp,op,none⟩) Q.AM.length NH)/\W.cell? ⟨X,2,none⟩=some (.slice (some ⟨bl,ol,none⟩) Q.AQ.length Su)/\W.cell? ⟨X,3,none⟩=some (.slice (some ⟨bm,om,none⟩) Q.AH.length E5)/\W.cell? ⟨X,4,none⟩=some (.slice Sm Q.AL.length Sw)/\W.cell? ⟨X,5,none⟩=some (.slice Sk Q.sn.length Sv)/\W.cell? ⟨B,3,none⟩=some (.slice (some ⟨bn,on,none⟩) b.AH.length Ik)/\W.cell? ⟨B,4,none⟩=some (.slice YW b.AL.length U1)/\W.cell? ⟨B,5,none⟩=some (.slice YT b.sn.length Yd)/\W.cell? ⟨bp,op+p,none⟩=some (.int .i64 x1)/\W.cell? ⟨bl,ol+p,none⟩=some (.int .i64 x2)/\W.cell? ⟨bm,om+c,none⟩=some (.slice am L (L+cm))/\W.cell? ⟨bn,on+c,none⟩=some (.slice (some ⟨bq,oq,none⟩) (L+1) (L+1+cn))/\W.cell? ⟨G,0,none⟩=some (.int .i64 (p:Int))/\W.cell? ⟨G,1,none⟩=some (.int .i64 x1)/\W.cell? ⟨G,2,none⟩=some (.int .i64 x2)->W'.cell? ⟨X,1,none⟩=some (.slice (some ⟨bp,op,none⟩) Q.AM.length NH)/\W'.cell? ⟨X,2,none⟩=some (.slice (some ⟨bl,ol,none⟩) Q.AQ.length Su)/\W'.cell? ⟨X,3,none⟩=some (.slice (some ⟨bm,om,none⟩) Q.AH.length E5)/\W'.cell? ⟨X,4,none⟩=some (.slice Sm Q.AL.length Sw)/\W'.cell? ⟨X,5,none⟩=some (.slice Sk Q.sn.length Sv)/\W'.cell? ⟨B,3,none⟩=some (.slice (some ⟨bn,on,none⟩) b.AH.length Ik)/\W'.cell? ⟨B,4,none⟩=some (.slice YW b.AL.length U1)/\W'.cell? ⟨B,5,none⟩=some (.slice YT b.sn.length Yd)/\W'.cell? ⟨bp,op+p,none⟩=some (.int .i64 x1)/\W'.cell? ⟨bl,ol+p,none⟩=some (.int .i64 x2)/\W'.cell? ⟨bm,om+c,none⟩=some (.slice am L (L+cm))/\W'.cell? ⟨bn,on+c,none⟩=some (.slice (some ⟨bq,oq,none⟩) (L+1) (L+1+cn))/\W'.cell? ⟨G,0,none⟩=some (.int .i64 (p:Int))/\W'.cell? ⟨G,1,none⟩=some (.int .i64 x1)/\W'.cell? ⟨G,2,none⟩=some (.int .i64 x2)):=Lib.hid (by
   rintro W W' k hs ⟨h0,h1,h2,h3,h4,h5,h6,h7,h8,h9,h10,h11,h12,h13,h14⟩
   exact⟨(k.cell (by omega)).trans h0,(k.cell (by omega)).trans h1,(k.cell (by omega)).trans h2,(k.cell (by omega)).trans h3,(k.cell (by omega)).trans h4,(k.cell (by omega)).trans h5,(k.cell (by omega)).trans h6,(k.cell (by omega)).trans h7,(k.cell (by omega)).trans h8,(k.cell (by omega)).trans h9,(k.cell (by omega)).trans h10,(k.cell (by omega)).trans h11,(k.cell (by omega)).trans h12,(k.cell (by omega)).trans h13,(k.cell (by omega)).trans h14⟩)
  have pJ:AC w15 w15.drew:=(AC.refl w15).drew;refine wp_region_held_drew (S:=(fun w'=>w'.cell? ⟨X,1,none⟩=some (.slice (some ⟨bp,op,none⟩) Q.AM.length NH)/\w'.cell? ⟨X,2,none⟩=some (.slice (some ⟨bl,ol,none⟩) Q.AQ.length Su)/\w'.cell? ⟨X,3,none⟩=some (.slice (some ⟨bm,om,none⟩) Q.AH.length E5)/\w'.cell? ⟨X,4,none⟩=some (.slice Sm Q.AL.length Sw)/\w'.cell? ⟨X,5,none⟩=some (.slice Sk Q.sn.length Sv)/\w'.cell? ⟨B,3,none⟩=some (.slice (some ⟨bn,on,none⟩) b.AH.length Ik)/\w'.cell? ⟨B,4,none⟩=some (.slice YW b.AL.length U1)/\w'.cell? ⟨B,5,none⟩=some (.slice YT b.sn.length Yd)/\w'.cell? ⟨bp,op+p,none⟩=some (.int .i64 x1)/\w'.cell? ⟨bl,ol+p,none⟩=some (.int .i64 x2)/\w'.cell? ⟨bm,om+c,none⟩=some (.slice am L (L+cm))/\w'.cell? ⟨bn,on+c,none⟩=some (.slice (some ⟨bq,oq,none⟩) (L+1) (L+1+cn))/\w'.cell? ⟨G,0,none⟩=some (.int .i64 (p:Int))/\w'.cell? ⟨G,1,none⟩=some (.int .i64 x1)/\w'.cell? ⟨G,2,none⟩=some (.int .i64 x2))) (by kernel_rfl) ?_ (fun hHeld=>?_)
  . exact⟨iH,vg,aI,nZ,vk,nY,qf,yB5,yP,yL,y4,y3,n0,n1,n2⟩
  refine AO 0 93 (v:=?_) ?_ ?_;rotate_left
  ·
   intro wx hSw;go_simp;with_reducible rfl
  simp only[Act.put,List.setIfInBounds_toArray,List.set_cons_zero,List.set_cons_succ];refine AO 1 94 (v:=?_) ?_ ?_;rotate_left
  ·
   intro wx hSw;go_simp;with_reducible rfl
  simp only[Act.put,List.setIfInBounds_toArray,List.set_cons_zero,List.set_cons_succ];refine AO 2 95 (v:=?_) ?_ ?_;rotate_left
  ·
   intro wx hSw;go_simp;with_reducible rfl
  simp only[Act.put,List.setIfInBounds_toArray,List.set_cons_zero,List.set_cons_succ];refine AO 3 96 (v:=?_) ?_ ?_;rotate_left
  ·
   intro wx hSw;go_simp;with_reducible rfl
  simp only[Act.put,List.setIfInBounds_toArray,List.set_cons_zero,List.set_cons_succ];refine AO 4 97 (v:=?_) ?_ ?_;rotate_left
  ·
   intro wx hSw;go_simp;with_reducible rfl
  simp only[Act.put,List.setIfInBounds_toArray,List.set_cons_zero,List.set_cons_succ];refine AO 5 98 (v:=?_) ?_ ?_;rotate_left
  ·
   intro wx hSw;go_simp;with_reducible rfl
  simp only[Act.put,List.setIfInBounds_toArray,List.set_cons_zero,List.set_cons_succ];refine AO 6 99 (v:=?_) ?_ ?_;rotate_left
  ·
   intro wx hSw;go_simp;with_reducible rfl
  simp only[Act.put,List.setIfInBounds_toArray,List.set_cons_zero,List.set_cons_succ];refine AO 7 100 (v:=?_) ?_ ?_;rotate_left
  ·
   intro wx hSw;go_simp;with_reducible rfl
  simp only[Act.put,List.setIfInBounds_toArray,List.set_cons_zero,List.set_cons_succ];refine AO 8 101 (v:=?_) ?_ ?_;rotate_left
  ·
   intro wx hSw;go_simp;with_reducible rfl
  simp only[Act.put,List.setIfInBounds_toArray,List.set_cons_zero,List.set_cons_succ];refine AO 9 102 (v:=?_) ?_ ?_;rotate_left
  ·
   intro wx hSw;go_simp;with_reducible rfl
  simp only[Act.put,List.setIfInBounds_toArray,List.set_cons_zero,List.set_cons_succ];refine AO 10 103 (v:=?_) ?_ ?_;rotate_left
  ·
   intro wx hSw;go_simp;with_reducible rfl
  simp only[Act.put,List.setIfInBounds_toArray,List.set_cons_zero,List.set_cons_succ];refine AO 11 104 (v:=?_) ?_ ?_;rotate_left
  ·
   intro wx hSw;go_simp;with_reducible rfl
  simp only[Act.put,List.setIfInBounds_toArray,List.set_cons_zero,List.set_cons_succ];refine AO 12 105 (v:=?_) ?_ ?_;rotate_left
  ·
   intro wx hSw;go_simp;with_reducible rfl
  simp only[Act.put,List.setIfInBounds_toArray,List.set_cons_zero,List.set_cons_succ];refine AO 13 106 (v:=?_) ?_ ?_;rotate_left
  ·
   intro wx hSw;go_simp;with_reducible rfl
  simp only[Act.put,List.setIfInBounds_toArray,List.set_cons_zero,List.set_cons_succ];refine AO 14 107 (v:=?_) ?_ ?_;rotate_left
  ·
   intro wx hSw;go_simp;with_reducible rfl
  simp only[Act.put,List.setIfInBounds_toArray,List.set_cons_zero,List.set_cons_succ];refine AO 15 108 (v:=?_) ?_ ?_;rotate_left
  ·
   intro wx hSw;go_simp;with_reducible rfl
  simp only[Act.put,List.setIfInBounds_toArray,List.set_cons_zero,List.set_cons_succ];refine AO 16 109 (v:=?_) ?_ ?_;rotate_left
  ·
   intro wx hSw;go_simp;with_reducible rfl
  simp only[Act.put,List.setIfInBounds_toArray,List.set_cons_zero,List.set_cons_succ];refine AO 17 110 (v:=?_) ?_ ?_;rotate_left
  ·
   intro wx hSw;go_simp;with_reducible rfl
  simp only[Act.put,List.setIfInBounds_toArray,List.set_cons_zero,List.set_cons_succ];refine AO 18 111 (v:=?_) ?_ ?_;rotate_left
  ·
   intro wx hSw;go_simp;with_reducible rfl
  simp only[Act.put,List.setIfInBounds_toArray,List.set_cons_zero,List.set_cons_succ];refine AO 19 112 (v:=?_) ?_ ?_;rotate_left
  ·
   intro wx hSw;go_simp;with_reducible rfl
  simp only[Act.put,List.setIfInBounds_toArray,List.set_cons_zero,List.set_cons_succ];refine AO 20 113 (v:=?_) ?_ ?_;rotate_left
  ·
   intro wx hSw;go_simp;with_reducible rfl
  simp only[Act.put,List.setIfInBounds_toArray,List.set_cons_zero,List.set_cons_succ];refine AO 21 114 (v:=?_) ?_ ?_;rotate_left
  ·
   intro wx hSw;go_simp;with_reducible rfl
  simp only[Act.put,List.setIfInBounds_toArray,List.set_cons_zero,List.set_cons_succ];refine AO 22 115 (v:=?_) ?_ ?_;rotate_left
  ·
   intro wx hSw;go_simp;with_reducible rfl
  simp only[Act.put,List.setIfInBounds_toArray,List.set_cons_zero,List.set_cons_succ];refine AO 23 116 (v:=?_) ?_ ?_;rotate_left
  ·
   intro wx hSw;go_simp;with_reducible rfl
  simp only[Act.put,List.setIfInBounds_toArray,List.set_cons_zero,List.set_cons_succ];refine AO 24 117 (v:=?_) ?_ ?_;rotate_left
  ·
   intro wx hSw;go_simp;with_reducible rfl
  simp only[Act.put,List.setIfInBounds_toArray,List.set_cons_zero,List.set_cons_succ];refine AO 25 118 (v:=?_) ?_ ?_;rotate_left
  ·
   intro wx hSw;go_simp;with_reducible rfl
  simp only[Act.put,List.setIfInBounds_toArray,List.set_cons_zero,List.set_cons_succ];refine AO 26 119 (v:=?_) ?_ ?_;rotate_left
  ·
   intro wx hSw;go_simp;with_reducible rfl
  simp only[Act.put,List.setIfInBounds_toArray,List.set_cons_zero,List.set_cons_succ];refine AO 27 120 (v:=?_) ?_ ?_;rotate_left
  ·
   intro wx hSw;go_simp;with_reducible rfl
  simp only[Act.put,List.setIfInBounds_toArray,List.set_cons_zero,List.set_cons_succ];refine AO 28 121 (v:=?_) ?_ ?_;rotate_left
  ·
   intro wx hSw;go_simp;with_reducible rfl
  simp only[Act.put,List.setIfInBounds_toArray,List.set_cons_zero,List.set_cons_succ];refine AO 29 122 (v:=?_) ?_ ?_;rotate_left
  ·
   intro wx hSw;go_simp;with_reducible rfl
  simp only[Act.put,List.setIfInBounds_toArray,List.set_cons_zero,List.set_cons_succ];refine AO 30 123 (v:=?_) ?_ ?_;rotate_left
  ·
   intro wx hSw;go_simp;with_reducible rfl
  simp only[Act.put,List.setIfInBounds_toArray,List.set_cons_zero,List.set_cons_succ];refine AO 31 124 (v:=?_) ?_ ?_;rotate_left
  ·
   intro wx hSw;go_simp;with_reducible rfl
  simp only[Act.put,List.setIfInBounds_toArray,List.set_cons_zero,List.set_cons_succ];refine AO 32 125 (v:=?_) ?_ ?_;rotate_left
  ·
   intro wx hSw;go_simp;with_reducible rfl
  simp only[Act.put,List.setIfInBounds_toArray,List.set_cons_zero,List.set_cons_succ];refine AO 33 126 (v:=?_) ?_ ?_;rotate_left
  ·
   intro wx hSw;go_simp;with_reducible rfl
  simp only[Act.put,List.setIfInBounds_toArray,List.set_cons_zero,List.set_cons_succ];refine AO 34 127 (v:=?_) ?_ ?_;rotate_left
  ·
   intro wx hSw;go_simp;with_reducible rfl
  simp only[Act.put,List.setIfInBounds_toArray,List.set_cons_zero,List.set_cons_succ];refine AO 35 128 (v:=?_) ?_ ?_;rotate_left
  ·
   intro wx hSw;go_simp;with_reducible rfl
  simp only[Act.put,List.setIfInBounds_toArray,List.set_cons_zero,List.set_cons_succ];refine AO 36 129 (v:=?_) ?_ ?_;rotate_left
  ·
   intro wx hSw;go_simp;with_reducible rfl
  simp only[Act.put,List.setIfInBounds_toArray,List.set_cons_zero,List.set_cons_succ];refine AO 37 130 (v:=?_) ?_ ?_;rotate_left
  ·
   intro wx hSw;go_simp;with_reducible rfl
  simp only[Act.put,List.setIfInBounds_toArray,List.set_cons_zero,List.set_cons_succ];refine AO 38 131 (v:=?_) ?_ ?_;rotate_left
  ·
   intro wx hSw;go_simp;with_reducible rfl
  simp only[Act.put,List.setIfInBounds_toArray,List.set_cons_zero,List.set_cons_succ];refine AO 39 132 (v:=?_) ?_ ?_;rotate_left
  ·
   intro wx hSw;go_simp;with_reducible rfl
  simp only[Act.put,List.setIfInBounds_toArray,List.set_cons_zero,List.set_cons_succ];refine AO 40 133 (v:=?_) ?_ ?_;rotate_left
  ·
   intro wx hSw;go_simp;with_reducible rfl
  simp only[Act.put,List.setIfInBounds_toArray,List.set_cons_zero,List.set_cons_succ];refine wpAnyH_ready (rs:=[41]) (by kernel_rfl) (by simp) ?_;refine AllReadyH.cons rfl (fun K hK=>?_) AllReadyH.nil;go_simp;refine (BU _ _ _ Q.AL (nJ.keep pJ).X ((congrArg (Rd _ _) HU4.out).mp (rB15.keep pJ).X) hzx).mono ?_;rintro e va1 ⟨rfl,mK⟩;have YE:=pJ.trans mK;go_wp2_with fail
  refine hK.out _ _ ?_ (fun hHeld=>?_)
  . exact wu.out _ _ mK pJ.size hHeld
  clear hK K;refine AO 42 135 (v:=?_) ?_ ?_;rotate_left
  ·
   intro wx hSw;go_simp;with_reducible rfl
  simp only[Act.put,List.setIfInBounds_toArray,List.set_cons_zero,List.set_cons_succ];refine AO 43 136 (v:=?_) ?_ ?_;rotate_left
  ·
   intro wx hSw;go_simp;with_reducible rfl
  simp only[Act.put,List.setIfInBounds_toArray,List.set_cons_zero,List.set_cons_succ];refine AO 44 137 (v:=?_) ?_ ?_;rotate_left
  ·
   intro wx hSw;go_simp;with_reducible rfl
  simp only[Act.put,List.setIfInBounds_toArray,List.set_cons_zero,List.set_cons_succ];refine AO 45 138 (v:=?_) ?_ ?_;rotate_left
  ·
   intro wx hSw;go_simp;with_reducible rfl
  simp only[Act.put,List.setIfInBounds_toArray,List.set_cons_zero,List.set_cons_succ];refine AO 46 139 (v:=?_) ?_ ?_;rotate_left
  ·
   intro wx hSw;go_simp;with_reducible rfl
  simp only[Act.put,List.setIfInBounds_toArray,List.set_cons_zero,List.set_cons_succ];refine AO 47 140 (v:=?_) ?_ ?_;rotate_left
  ·
   intro wx hSw;go_simp;with_reducible rfl
  simp only[Act.put,List.setIfInBounds_toArray,List.set_cons_zero,List.set_cons_succ];refine wpAnyH_ready (rs:=[48]) (by kernel_rfl) (by simp) ?_;refine AllReadyH.cons rfl (fun K hK=>?_) AllReadyH.nil;go_simp;refine (BU _ _ _ Q.sn (nJ.keep YE).S ((congrArg (Rd _ _) HU5.out).mp (rB15.keep YE).S) hzs).mono ?_;rintro e va2 ⟨rfl,mM⟩;have qy:=YE.trans mM;go_wp2_with fail
  refine hK.out _ _ ?_ (fun hHeld=>?_)
  . exact wu.out _ _ mM YE.size hHeld
  clear hK K;refine AO 49 142 (v:=?_) ?_ ?_;rotate_left
  ·
   intro wx hSw;go_simp;with_reducible rfl
  simp only[Act.put,List.setIfInBounds_toArray,List.set_cons_zero,List.set_cons_succ];refine AO 50 2 (v:=?_) ?_ ?_;rotate_left
  ·
   intro wx hSw;go_simp;with_reducible rfl
  simp only[Act.put,List.setIfInBounds_toArray,List.set_cons_zero,List.set_cons_succ];refine wpAnyH_done (by kernel_rfl) ?_ _;go_wp2;go_ret;exact⟨rfl,K15.trans qy⟩
 ·
  skip
  obtain⟨v1,v2⟩:=fA Sj hc c10 hcan;rw[<-e3] at v1 v2;have pG:=Lib.hid v1;have eb:=Lib.hid Sj.AL;have eq:=Lib.hid Uy.AL;have aC:w14.cell? ⟨B,0,none⟩=some (.slice ic D.length Ye):=by rw[cell_of_row w14 _ 0 _ _ _ hB];rfl
  have aG:w14.cell? ⟨B,1,none⟩=some (.slice Uz b.AM.length U0):=by rw[cell_of_row w14 _ 1 _ _ _ hB];rfl
  have iC:w14.cell? ⟨B,2,none⟩=some (.slice iX b.AQ.length iw):=by rw[cell_of_row w14 _ 2 _ _ _ hB];rfl
  have Zb:w14.cell? ⟨B,3,none⟩=some (.slice iY b.AH.length Ik):=by rw[cell_of_row w14 _ 3 _ _ _ hB];rfl
  have Zc:w14.cell? ⟨B,4,none⟩=some (.slice YW b.AL.length U1):=by rw[cell_of_row w14 _ 4 _ _ _ hB];rfl
  have aH:w14.cell? ⟨B,5,none⟩=some (.slice YT b.sn.length Yd):=by rw[cell_of_row w14 _ 5 _ _ _ hB];rfl
  have iE:w14.cell? ⟨B,6,none⟩=some (.slice iW b.fr.length iq):=by rw[cell_of_row w14 _ 6 _ _ _ hB];rfl
  have iG:w14.cell? ⟨B,7,none⟩=some (.slice iZ b.rws.length iy):=by rw[cell_of_row w14 _ 7 _ _ _ hB];rfl
  have Tg:w14.cell? ⟨X,0,none⟩=some (.slice VQ D.length Vp):=by rw[cell_of_row w14 _ 0 _ _ _ hX];rfl
  have RJ:w14.cell? ⟨X,1,none⟩=some (.slice Pi Q.AM.length NH):=by rw[cell_of_row w14 _ 1 _ _ _ hX];rfl
  have Sh:w14.cell? ⟨X,2,none⟩=some (.slice VN Q.AQ.length Su):=by rw[cell_of_row w14 _ 2 _ _ _ hX];rfl
  have RK:w14.cell? ⟨X,3,none⟩=some (.slice VO Q.AH.length E5):=by rw[cell_of_row w14 _ 3 _ _ _ hX];rfl
  have RM:w14.cell? ⟨X,4,none⟩=some (.slice Sm Q.AL.length Sw):=by rw[cell_of_row w14 _ 4 _ _ _ hX];rfl
  have Si:w14.cell? ⟨X,5,none⟩=some (.slice Sk Q.sn.length Sv):=by rw[cell_of_row w14 _ 5 _ _ _ hX];rfl
  have Th:w14.cell? ⟨X,6,none⟩=some (.slice VM Q.fr.length Vm):=by rw[cell_of_row w14 _ 6 _ _ _ hX];rfl
  have Ti:w14.cell? ⟨X,7,none⟩=some (.slice VP Q.rws.length Vo):=by rw[cell_of_row w14 _ 7 _ _ _ hX];rfl
  have qY:=(show c<b.AL.length by rw[Sj.AL];exact hc);obtain⟨a',c',he',hopen⟩:=rB13.X;simp only[Value.slice.injEq,true_and] at he';obtain⟨rfl,rfl⟩:=he';rcases hopen with h0|⟨bx,ox,rfl,hbx,hcx⟩
  . exfalso;rw[h0] at qY;simp at qY
  have uI:=(show c<Q.AL.length by rw[Uy.AL];exact hc);obtain⟨a',c',he',hopen⟩:=M4.X;simp only[Value.slice.injEq,true_and] at he';obtain⟨rfl,rfl⟩:=he';rcases hopen with h0|⟨by_,oy,rfl,hby,hcy⟩
  . exfalso;rw[h0] at uI;simp at uI
  have i0:decide ((10:Int)<=(c:Int))=false:=by simp;omega
  have Q7:B<w14.heap.size:=by omega
  have PO:X<w14.heap.size:=by omega
  have HE3:=Lib.hid e3;have HQT:=Lib.hid Xr;have zu:=Lib.hid Jj;clear v1 Xr Jj e3;go_wp2;go_loopw [12] (fun i wr=>∃k:Nat,k<=D.length/\i = .int .i64 (k:Int)/\AC w14 wr) (fun i _=>((D.length:Int)-intOf i).toNat)
  case atStart=>exact⟨0,Nat.zero_le _,rfl,AC.refl _⟩
  case round=>
   obtain⟨k,hk,rfl,kr⟩:=hrel;have qf:=(kr.cell Q7).trans Zc;have nZ:=(kr.cell PO).trans RM;by_cases hkl:k<D.length
   ·
    have t0:decide ((k:Int)<(b.AL.length:Int))=true:=by have:=eb.out;simp;omega
    have q1:=(kr.cell hbx).trans (hcx k (by rw[eb.out];exact hkl));have q2:=(kr.cell hby).trans (hcy k (by rw[eq.out];exact hkl));have k1:(0:Int)<=(k:Int):=Int.natCast_nonneg _;have k2:(k:Int)<(b.AL.length:Int):=by have:=eb.out;omega
    have k3:(k:Int)<(Q.AL.length:Int):=by have:=eq.out;omega
    have k4:IntKind.i64.wrap ((k:Int)+1)=(k:Int)+1:=by rw[IntKind.wrap_i64];omega
    clear hcx hcy;by_cases e:k=c
    ·
     have t1:((k:Int) != (c:Int))=false:=by simp[e]
     have t2:((k:Int)==(c:Int))=true:=by simp[e]
     have t3:decide (Q.AL.getD k 0<=b.AL.getD k 0)=false:=decide_eq_false (by rw[e];omega);clear e v2;generalize Q.AL.getD k 0=yq at *;generalize b.AL.getD k 0=yb at *;go_wp2;go_quiet (fail)
     go_wp2;go_roundw;case rel=>exact⟨k+1,hkl,by push_cast;rfl,kr.drewN _⟩
     case measure=>simp[intOf];omega
    ·
     have t1:((k:Int) != (c:Int))=true:=by simp;omega
     have t2:((k:Int)==(c:Int))=false:=by simp;omega
     rw[pG.out k e] at q2;clear e v2;generalize b.AL.getD k 0=yb at *;have t3:(yb != yb)=false:=by simp
     go_wp2;go_quiet (fail)
     go_wp2;go_roundw;case rel=>exact⟨k+1,hkl,by push_cast;rfl,kr.drewN _⟩
     case measure=>simp[intOf];omega
   have t0:decide ((k:Int)<(b.AL.length:Int))=false:=by have:=eb.out;simp;omega
   have t0':decide (k<b.AL.length)=false:=by have:=eb.out;simp;omega
   have hn:b.AL.getD c 0=((Av b c:Nat):Int):=by have:=(EN zu.out hc).1;unfold Av;omega
   obtain⟨hnk,-⟩:=GM hcan;have yw:=(show c<D.length from hc);obtain⟨a',c',he',hopen⟩:=rB13.W;simp only[Value.slice.injEq,true_and] at he';obtain⟨rfl,rfl⟩:=he';rcases hopen with h0|⟨bw,ow,rfl,hbw,hcw⟩
   . exfalso;rw[h0] at yw;simp at yw
   obtain⟨vw,d5,r5⟩:=hcw c hc;obtain⟨aw,cw,rfl,r5⟩:=r5;rcases r5 with h0|⟨bd,od,rfl,hbd,hcd⟩
   . exfalso;rw[h0] at hnk;simp at hnk
   obtain⟨m0,m1,m2,m3⟩:=(hcd (Av b c) hnk).keep hbd kr;have d6:=(kr.cell hbw).trans d5;have q1:=(kr.cell hbx).trans (hcx c qY);rw[hn] at q1;have zU:=(kr.cell Q7).trans aC;have bD:Hid (((D.getD c []).getD (Av b c) zD).1=2->((D.getD c []).getD (Av b c) zD).2.2.2=0->Q.AM=b.AM/\∃e,Q.AH.getD c []=b.AH.getD c []++[(((D.getD c []).getD (Av b c) zD).2.1,((D.getD c []).getD (Av b c) zD).2.2.1,e)]):=Lib.hid (fun h1 h2=>by rw[HE3.out];exact Uw Sj hc c10 hcan h1 h2);have bC:Hid (((D.getD c []).getD (Av b c) zD).1=3->∃p:Nat,p<3/\((D.getD c []).getD (Av b c) zD).2.1=(p:Int)/\Q.AM.getD p 0=((D.getD c []).getD (Av b c) zD).2.2.1/\Q.AH.getD c []=[]):=Lib.hid (fun h1=>by rw[HE3.out];exact XP Sj hc c10 hcan h1);have bB:Hid (((D.getD c []).getD (Av b c) zD).1≠2->((D.getD c []).getD (Av b c) zD).1≠3->((D.getD c []).getD (Av b c) zD).2.2.2=0->Q.AM=b.AM/\Q.AH=b.AH):=Lib.hid (fun h1 h2 h3=>by rw[HE3.out];exact W7 c10 hcan h1 h2 h3);have Zf:Hid (0<=((D.getD c []).getD (Av b c) zD).2.2.2):=Lib.hid (ML (B7 Sj.work hc _ hnk)).2;have k2:((Av b c:Nat):Int)<((D.getD c []).length:Int):=by omega
   have k1:(0:Int)<=((Av b c:Nat):Int):=Int.natCast_nonneg _;have k3:(0:Int)<=(c:Int):=Int.natCast_nonneg _;have k4:(c:Int)<(D.length:Int):=by omega
   have k5:(c:Int)<(b.AL.length:Int):=by omega
   have hnl:=(Uy.nl c).1;have hnb:=(Sj.nl c).1;clear hcd hcx hcy hcw hcan pG hn;generalize (D.getD c []).getD (Av b c) zD=d at *;obtain⟨d0,d1,d2,dg⟩:=d;simp only at m0 m1 m2 m3 bD bC bB Zf;generalize Av b c=n at *;generalize (D.getD c []).length=dl at *;go_upto_region 24 with fail
   have zBr:B<wr.heap.size:=by have:=kr.size;omega
   have zbw:bw<wr.heap.size:=by have:=kr.size;omega
   have zbx:bx<wr.heap.size:=by have:=kr.size;omega
   have zbd:bd<wr.heap.size:=by have:=kr.size;omega
   have rM:Hid (∀W W':World,AC W W'->wr.heap.size<=W.heap.size->W.cell? ⟨B,0,none⟩=some (.slice (some ⟨bw,ow,none⟩) D.length Ye)/\W.cell? ⟨B,4,none⟩=some (.slice (some ⟨bx,ox,none⟩) b.AL.length U1)/\W.cell? ⟨bw,ow+c,none⟩=some (.slice (some ⟨bd,od,none⟩) dl (dl+cw))/\W.cell? ⟨bx,ox+c,none⟩=some (.int .i64 (n:Int))/\W.cell? ⟨bd,od+n*4,none⟩=some (.int .i64 d0)/\W.cell? ⟨bd,od+n*4+1,none⟩=some (.int .i64 d1)/\W.cell? ⟨bd,od+n*4+2,none⟩=some (.int .i64 d2)/\W.cell? ⟨bd,od+n*4+3,none⟩=some (.int .i64 dg)->W'.cell? ⟨B,0,none⟩=some (.slice (some ⟨bw,ow,none⟩) D.length Ye)/\W'.cell? ⟨B,4,none⟩=some (.slice (some ⟨bx,ox,none⟩) b.AL.length U1)/\W'.cell? ⟨bw,ow+c,none⟩=some (.slice (some ⟨bd,od,none⟩) dl (dl+cw))/\W'.cell? ⟨bx,ox+c,none⟩=some (.int .i64 (n:Int))/\W'.cell? ⟨bd,od+n*4,none⟩=some (.int .i64 d0)/\W'.cell? ⟨bd,od+n*4+1,none⟩=some (.int .i64 d1)/\W'.cell? ⟨bd,od+n*4+2,none⟩=some (.int .i64 d2)/\W'.cell? ⟨bd,od+n*4+3,none⟩=some (.int .i64 dg)):=Lib.hid (by
    rintro W W' k hs ⟨h0,h1,h2,h3,h4,h5,h6,h7⟩
    exact⟨(k.cell (by omega)).trans h0,(k.cell (by omega)).trans h1,(k.cell (by omega)).trans h2,(k.cell (by omega)).trans h3,(k.cell (by omega)).trans h4,(k.cell (by omega)).trans h5,(k.cell (by omega)).trans h6,(k.cell (by omega)).trans h7⟩)
   have qz:AC wr wr.drew:=(AC.refl wr).drew;refine wp_region_held_drew (S:=(fun w'=>w'.cell? ⟨B,0,none⟩=some (.slice (some ⟨bw,ow,none⟩) D.length Ye)/\w'.cell? ⟨B,4,none⟩=some (.slice (some ⟨bx,ox,none⟩) b.AL.length U1)/\w'.cell? ⟨bw,ow+c,none⟩=some (.slice (some ⟨bd,od,none⟩) dl (dl+cw))/\w'.cell? ⟨bx,ox+c,none⟩=some (.int .i64 (n:Int))/\w'.cell? ⟨bd,od+n*4,none⟩=some (.int .i64 d0)/\w'.cell? ⟨bd,od+n*4+1,none⟩=some (.int .i64 d1)/\w'.cell? ⟨bd,od+n*4+2,none⟩=some (.int .i64 d2)/\w'.cell? ⟨bd,od+n*4+3,none⟩=some (.int .i64 dg))) (by kernel_rfl) ?_ (fun hHeld=>?_)
   . exact⟨zU,qf,d6,q1,m0,m1,m2,m3⟩
   refine AO 0 184 (v:=?_) ?_ ?_;rotate_left
   ·
    intro wx hSw;go_simp;with_reducible rfl
   simp only[Act.put,List.setIfInBounds_toArray,List.set_cons_zero,List.set_cons_succ];refine AO 1 185 (v:=?_) ?_ ?_;rotate_left
   ·
    intro wx hSw;go_simp;with_reducible rfl
   simp only[Act.put,List.setIfInBounds_toArray,List.set_cons_zero,List.set_cons_succ];refine AO 2 186 (v:=?_) ?_ ?_;rotate_left
   ·
    intro wx hSw;go_simp;with_reducible rfl
   simp only[Act.put,List.setIfInBounds_toArray,List.set_cons_zero,List.set_cons_succ];refine AO 3 187 (v:=?_) ?_ ?_;rotate_left
   ·
    intro wx hSw;go_simp;with_reducible rfl
   simp only[Act.put,List.setIfInBounds_toArray,List.set_cons_zero,List.set_cons_succ];refine AO 4 188 (v:=?_) ?_ ?_;rotate_left
   ·
    intro wx hSw;go_simp;with_reducible rfl
   simp only[Act.put,List.setIfInBounds_toArray,List.set_cons_zero,List.set_cons_succ];refine AO 5 189 (v:=?_) ?_ ?_;rotate_left
   ·
    intro wx hSw;go_simp;with_reducible rfl
   simp only[Act.put,List.setIfInBounds_toArray,List.set_cons_zero,List.set_cons_succ];refine AO 6 190 (v:=?_) ?_ ?_;rotate_left
   ·
    intro wx hSw;go_simp;with_reducible rfl
   simp only[Act.put,List.setIfInBounds_toArray,List.set_cons_zero,List.set_cons_succ];refine AO 7 191 (v:=?_) ?_ ?_;rotate_left
   ·
    intro wx hSw;go_simp;with_reducible rfl
   simp only[Act.put,List.setIfInBounds_toArray,List.set_cons_zero,List.set_cons_succ];refine AO 8 192 (v:=?_) ?_ ?_;rotate_left
   ·
    intro wx hSw;go_simp;with_reducible rfl
   simp only[Act.put,List.setIfInBounds_toArray,List.set_cons_zero,List.set_cons_succ];refine AO 9 193 (v:=?_) ?_ ?_;rotate_left
   ·
    intro wx hSw;go_simp;with_reducible rfl
   simp only[Act.put,List.setIfInBounds_toArray,List.set_cons_zero,List.set_cons_succ];refine AO 10 194 (v:=?_) ?_ ?_;rotate_left
   ·
    intro wx hSw;go_simp;with_reducible rfl
   simp only[Act.put,List.setIfInBounds_toArray,List.set_cons_zero,List.set_cons_succ];refine AO 11 195 (v:=?_) ?_ ?_;rotate_left
   ·
    intro wx hSw;go_simp;with_reducible rfl
   simp only[Act.put,List.setIfInBounds_toArray,List.set_cons_zero,List.set_cons_succ];refine wpAnyH_ready (rs:=[12]) (by kernel_rfl) (by simp) ?_;refine AllReadyH.cons rfl (fun K hK=>?_) AllReadyH.nil;go_simp;refine hK.out _ _ ?_ (fun hHeld2=>?_)
   . exact rM.out _ _ ((AC.refl _).alloc _) qz.size hHeld
   clear hK K;refine wpAnyH_ready (rs:=[13]) (by kernel_rfl) (by simp) ?_;refine AllReadyH.cons rfl (fun K hK=>?_) AllReadyH.nil;go_simp;refine hK.out _ _ ?_ (fun hHeld3=>?_)
   . exact rM.out _ _ ((AC.refl _).alloc _) qz.size hHeld
   clear hK K hHeld2 hHeld3;refine wpAnyH_done (by kernel_rfl) ?_ _;have KW:=(kr.alloc (.cells #[.int .i64 d0,.int .i64 d1,.int .i64 d2,.int .i64 dg] 51)).drew;obtain⟨w20,hw20⟩:∃W:World,W=(wr.alloc (.cells #[.int .i64 d0,.int .i64 d1,.int .i64 d2,.int .i64 dg] 51)).drew:=⟨_,rfl⟩;have k20:AC w14 w20:=by rw[hw20];exact KW
   have z20:wr.heap.size<w20.heap.size:=by rw[hw20,C9,AD];omega
   have hD20:w20.heap[wr.heap.size]? = some (.cells #[.int .i64 d0,.int .i64 d1,.int .i64 d2,.int .i64 dg] 51 (0,0)):=by rw[hw20];exact heap_alloc_new _ _
   have e0:w20.cell? ⟨wr.heap.size,0,none⟩=some (.int .i64 d0):=by rw[cell_of_row w20 _ 0 _ _ _ hD20];rfl
   have e1:w20.cell? ⟨wr.heap.size,1,none⟩=some (.int .i64 d1):=by rw[cell_of_row w20 _ 1 _ _ _ hD20];rfl
   have e2:w20.cell? ⟨wr.heap.size,2,none⟩=some (.int .i64 d2):=by rw[cell_of_row w20 _ 2 _ _ _ hD20];rfl
   have e3:w20.cell? ⟨wr.heap.size,3,none⟩=some (.int .i64 dg):=by rw[cell_of_row w20 _ 3 _ _ _ hD20];rfl
   rw[<-hw20];have sr:=kr.size;have W3:=M4.keep k20;have rB20:=rB13.keep k20;have K20:=K13.trans k20;have iH:=(k20.cell PO).trans RJ;have aI:=(k20.cell PO).trans RK;have vY:=(k20.cell Q7).trans aG;have nY:=(k20.cell Q7).trans Zb;have ng:B<w20.heap.size:=by omega
   have ni:X<w20.heap.size:=by omega
   clear hw20 KW hD20 nZ qf zU d5 d6 q1 m0 m1 m2 m3 Tg RJ Sh RK RM Si Th Ti aC aG iC Zb Zc aH iE iG M4 rB13 K13 t0 t0' hnk k2 k1 zBr zbw zbx zbd hbw hbx hby hbd rM qz hHeld qY uI v2;generalize wr.heap.size=G at *;have lM:=(show c<Q.AH.length by rw[Uy.AH];exact hc);obtain⟨a',c',he',hopen⟩:=W3.N;simp only[Value.slice.injEq,true_and] at he';obtain⟨rfl,rfl⟩:=he';rcases hopen with h0|⟨bm,om,rfl,tK,hcm⟩
   . exfalso;rw[h0] at lM;simp at lM
   have lN:=(show c<b.AH.length by rw[Sj.AH];exact hc);obtain⟨a',c',he',hopen⟩:=rB20.N;simp only[Value.slice.injEq,true_and] at he';obtain⟨rfl,rfl⟩:=he';rcases hopen with h0|⟨bn,on,rfl,hbn,hcn⟩
   . exfalso;rw[h0] at lN;simp at lN
   obtain⟨vm,d4,r4⟩:=hcm c lM;obtain⟨am,cm,rfl,r4⟩:=r4;obtain⟨vn,d3,r3⟩:=hcn c lN;obtain⟨an,cn,rfl,-⟩:=r3;have j2:(c:Int)<(b.AH.length:Int):=by omega
   have j3:(c:Int)<(Q.AH.length:Int):=by omega
   have yj:=Xi.out.AM;have hq3:=Lib.hid Uy.AM;clear hcm hcn Sj Uy k4 k5;by_cases a2:d0=2
   ·
    subst a2;by_cases g0:dg=0
    ·
     subst g0;obtain⟨pe,ev,ne⟩:=bD.out rfl rfl;have qo:=Lib.hid pe.symm;rw[ne] at d4 r4;rcases r4 with h0|⟨bz,oz,rfl,hbz,hz⟩
     . simp at h0
     obtain⟨n0,n1,n2⟩:=VT (hz (b.AH.getD c []).length (d1,d2,ev) (by simp));rw[List.length_append,List.length_singleton] at d4;simp only at n0 n1 n2;clear ne pe hz bD bC bB Zf hnl;generalize (b.AH.getD c []).length=L at *;have i2:IntKind.i64.wrap (((L+1:Nat):Int)-1)=(L:Int):=by rw[IntKind.wrap_i64];omega
     have i3:IntKind.i64.wrap (L:Int)=(L:Int):=by rw[IntKind.wrap_i64];omega
     have i4:IntKind.i64.wrap ((L:Int)+1-1)=(L:Int):=by rw[IntKind.wrap_i64];omega
     have i5:IntKind.i64.wrap ((L:Int)+1)=(L:Int)+1:=by rw[IntKind.wrap_i64];omega
     have i6:(0:Int)<=(L:Int):=Int.natCast_nonneg _;have i7:(L:Int)<((L+1:Nat):Int):=by omega
     have i8:(L:Int)<(L:Int)+1:=by omega
     go_wp2_with fail
     go_upto_region 26 with fail
     have rO:Hid (∀W W':World,AC W W'->w20.heap.size<=W.heap.size->W.cell? ⟨X,3,none⟩=some (.slice (some ⟨bm,om,none⟩) Q.AH.length E5)/\W.cell? ⟨bm,om+c,none⟩=some (.slice (some ⟨bz,oz,none⟩) (L+1) (L+1+cm))/\W.cell? ⟨bz,oz+L*3,none⟩=some (.int .i64 d1)/\W.cell? ⟨bz,oz+L*3+1,none⟩=some (.int .i64 d2)/\W.cell? ⟨bz,oz+L*3+2,none⟩=some (.int .i64 ev)->W'.cell? ⟨X,3,none⟩=some (.slice (some ⟨bm,om,none⟩) Q.AH.length E5)/\W'.cell? ⟨bm,om+c,none⟩=some (.slice (some ⟨bz,oz,none⟩) (L+1) (L+1+cm))/\W'.cell? ⟨bz,oz+L*3,none⟩=some (.int .i64 d1)/\W'.cell? ⟨bz,oz+L*3+1,none⟩=some (.int .i64 d2)/\W'.cell? ⟨bz,oz+L*3+2,none⟩=some (.int .i64 ev)):=Lib.hid (by
      rintro W W' k hs ⟨h0,h1,h2,h3,h4⟩
      exact⟨(k.cell (by omega)).trans h0,(k.cell (by omega)).trans h1,(k.cell (by omega)).trans h2,(k.cell (by omega)).trans h3,(k.cell (by omega)).trans h4⟩)
     have rA:AC w20 w20.drew:=(AC.refl w20).drew;refine wp_region_held_drew (S:=(fun w'=>w'.cell? ⟨X,3,none⟩=some (.slice (some ⟨bm,om,none⟩) Q.AH.length E5)/\w'.cell? ⟨bm,om+c,none⟩=some (.slice (some ⟨bz,oz,none⟩) (L+1) (L+1+cm))/\w'.cell? ⟨bz,oz+L*3,none⟩=some (.int .i64 d1)/\w'.cell? ⟨bz,oz+L*3+1,none⟩=some (.int .i64 d2)/\w'.cell? ⟨bz,oz+L*3+2,none⟩=some (.int .i64 ev))) (by kernel_rfl) ?_ (fun hHeld=>?_)
     . exact⟨aI,d4,n0,n1,n2⟩
     refine AO 0 204 (v:=?_) ?_ ?_;rotate_left
     ·
      intro wx hSw;go_simp;with_reducible rfl
     simp only[Act.put,List.setIfInBounds_toArray,List.set_cons_zero,List.set_cons_succ];refine AO 1 205 (v:=?_) ?_ ?_;rotate_left
     ·
      intro wx hSw;go_simp;with_reducible rfl
     simp only[Act.put,List.setIfInBounds_toArray,List.set_cons_zero,List.set_cons_succ];refine AO 2 206 (v:=?_) ?_ ?_;rotate_left
     ·
      intro wx hSw;go_simp;with_reducible rfl
     simp only[Act.put,List.setIfInBounds_toArray,List.set_cons_zero,List.set_cons_succ];refine AO 3 207 (v:=?_) ?_ ?_;rotate_left
     ·
      intro wx hSw;go_simp;with_reducible rfl
     simp only[Act.put,List.setIfInBounds_toArray,List.set_cons_zero,List.set_cons_succ];refine AO 4 208 (v:=?_) ?_ ?_;rotate_left
     ·
      intro wx hSw;go_simp;with_reducible rfl
     simp only[Act.put,List.setIfInBounds_toArray,List.set_cons_zero,List.set_cons_succ];refine AO 5 209 (v:=?_) ?_ ?_;rotate_left
     ·
      intro wx hSw;go_simp;with_reducible rfl
     simp only[Act.put,List.setIfInBounds_toArray,List.set_cons_zero,List.set_cons_succ];refine AO 6 210 (v:=?_) ?_ ?_;rotate_left
     ·
      intro wx hSw;go_simp;with_reducible rfl
     simp only[Act.put,List.setIfInBounds_toArray,List.set_cons_zero,List.set_cons_succ];refine AO 7 211 (v:=?_) ?_ ?_;rotate_left
     ·
      intro wx hSw;go_simp;with_reducible rfl
     simp only[Act.put,List.setIfInBounds_toArray,List.set_cons_zero,List.set_cons_succ];refine AO 8 212 (v:=?_) ?_ ?_;rotate_left
     ·
      intro wx hSw;go_simp;with_reducible rfl
     simp only[Act.put,List.setIfInBounds_toArray,List.set_cons_zero,List.set_cons_succ];refine AO 9 213 (v:=?_) ?_ ?_;rotate_left
     ·
      intro wx hSw;go_simp;with_reducible rfl
     simp only[Act.put,List.setIfInBounds_toArray,List.set_cons_zero,List.set_cons_succ];refine AO 10 214 (v:=?_) ?_ ?_;rotate_left
     ·
      intro wx hSw;go_simp;with_reducible rfl
     simp only[Act.put,List.setIfInBounds_toArray,List.set_cons_zero,List.set_cons_succ];refine AO 11 215 (v:=?_) ?_ ?_;rotate_left
     ·
      intro wx hSw;go_simp;with_reducible rfl
     simp only[Act.put,List.setIfInBounds_toArray,List.set_cons_zero,List.set_cons_succ];refine AO 12 216 (v:=?_) ?_ ?_;rotate_left
     ·
      intro wx hSw;go_simp;with_reducible rfl
     simp only[Act.put,List.setIfInBounds_toArray,List.set_cons_zero,List.set_cons_succ];refine AO 13 217 (v:=?_) ?_ ?_;rotate_left
     ·
      intro wx hSw;go_simp;with_reducible rfl
     simp only[Act.put,List.setIfInBounds_toArray,List.set_cons_zero,List.set_cons_succ];refine wpAnyH_ready (rs:=[14]) (by kernel_rfl) (by simp) ?_;refine AllReadyH.cons rfl (fun K hK=>?_) AllReadyH.nil;go_simp;refine hK.out _ _ ?_ (fun hHeld2=>?_)
     . exact rO.out _ _ ((AC.refl _).alloc _) rA.size hHeld
     clear hK K;refine wpAnyH_ready (rs:=[15]) (by kernel_rfl) (by simp) ?_;refine AllReadyH.cons rfl (fun K hK=>?_) AllReadyH.nil;go_simp;refine hK.out _ _ ?_ (fun hHeld3=>?_)
     . exact rO.out _ _ ((AC.refl _).alloc _) rA.size hHeld
     clear hK K hHeld2 hHeld3;refine wpAnyH_done (by kernel_rfl) ?_ _;obtain⟨w21,hw21⟩:∃W:World,W=(w20.alloc (.cells #[.int .i64 d1,.int .i64 d2,.int .i64 ev] 44)).drew:=⟨_,rfl⟩;have k21:AC w20 w21:=by rw[hw21];exact ((AC.refl w20).alloc _).drew
     have z21:w20.heap.size<w21.heap.size:=by rw[hw21,C9,AD];omega
     have hN21:w21.heap[w20.heap.size]? = some (.cells #[.int .i64 d1,.int .i64 d2,.int .i64 ev] 44 (0,0)):=by rw[hw21];exact heap_alloc_new _ _
     have u0:w21.cell? ⟨w20.heap.size,0,none⟩=some (.int .i64 d1):=by rw[cell_of_row w21 _ 0 _ _ _ hN21];rfl
     have u1:w21.cell? ⟨w20.heap.size,1,none⟩=some (.int .i64 d2):=by rw[cell_of_row w21 _ 1 _ _ _ hN21];rfl
     rw[<-hw21];have uf:=W3.keep k21;have rB21:=rB20.keep k21;have K21:=K20.trans k21;have zZ:=(k21.cell ni).trans iH;have za:=(k21.cell ni).trans aI;have zB1:=(k21.cell ng).trans vY;have zB3:=(k21.cell ng).trans nY;have z4:=(k21.cell tK).trans d4;have z3:=(k21.cell hbn).trans d3;have f1:=(k21.cell z20).trans e1;have f2:=(k21.cell z20).trans e2;clear hw21 hN21 W3 rB20 K20 rO rA hHeld iH aI vY nY d4 d3 e0 e1 e2 e3 n0 n1 n2 k21;generalize w20.heap.size=G2 at *;go_wp2_with fail
     go_upto_region 27 with fail
     have SKd:Hid (∀W W':World,AC W W'->w21.heap.size<=W.heap.size->W.cell? ⟨X,1,none⟩=some (.slice Pi Q.AM.length NH)/\W.cell? ⟨X,3,none⟩=some (.slice (some ⟨bm,om,none⟩) Q.AH.length E5)/\W.cell? ⟨B,1,none⟩=some (.slice Uz b.AM.length U0)/\W.cell? ⟨B,3,none⟩=some (.slice (some ⟨bn,on,none⟩) b.AH.length Ik)/\W.cell? ⟨bm,om+c,none⟩=some (.slice (some ⟨bz,oz,none⟩) (L+1) (L+1+cm))/\W.cell? ⟨bn,on+c,none⟩=some (.slice an L (L+cn))/\W.cell? ⟨G2,0,none⟩=some (.int .i64 d1)/\W.cell? ⟨G2,1,none⟩=some (.int .i64 d2)/\W.cell? ⟨G,1,none⟩=some (.int .i64 d1)/\W.cell? ⟨G,2,none⟩=some (.int .i64 d2)->W'.cell? ⟨X,1,none⟩=some (.slice Pi Q.AM.length NH)/\W'.cell? ⟨X,3,none⟩=some (.slice (some ⟨bm,om,none⟩) Q.AH.length E5)/\W'.cell? ⟨B,1,none⟩=some (.slice Uz b.AM.length U0)/\W'.cell? ⟨B,3,none⟩=some (.slice (some ⟨bn,on,none⟩) b.AH.length Ik)/\W'.cell? ⟨bm,om+c,none⟩=some (.slice (some ⟨bz,oz,none⟩) (L+1) (L+1+cm))/\W'.cell? ⟨bn,on+c,none⟩=some (.slice an L (L+cn))/\W'.cell? ⟨G2,0,none⟩=some (.int .i64 d1)/\W'.cell? ⟨G2,1,none⟩=some (.int .i64 d2)/\W'.cell? ⟨G,1,none⟩=some (.int .i64 d1)/\W'.cell? ⟨G,2,none⟩=some (.int .i64 d2)):=Lib.hid (by
      rintro W W' k hs ⟨h0,h1,h2,h3,h4,h5,h6,h7,h8,h9⟩
      exact⟨(k.cell (by omega)).trans h0,(k.cell (by omega)).trans h1,(k.cell (by omega)).trans h2,(k.cell (by omega)).trans h3,(k.cell (by omega)).trans h4,(k.cell (by omega)).trans h5,(k.cell (by omega)).trans h6,(k.cell (by omega)).trans h7,(k.cell (by omega)).trans h8,(k.cell (by omega)).trans h9⟩)
     have pK:AC w21 w21.drew:=(AC.refl w21).drew;refine wp_region_held_drew (S:=(fun w'=>w'.cell? ⟨X,1,none⟩=some (.slice Pi Q.AM.length NH)/\w'.cell? ⟨X,3,none⟩=some (.slice (some ⟨bm,om,none⟩) Q.AH.length E5)/\w'.cell? ⟨B,1,none⟩=some (.slice Uz b.AM.length U0)/\w'.cell? ⟨B,3,none⟩=some (.slice (some ⟨bn,on,none⟩) b.AH.length Ik)/\w'.cell? ⟨bm,om+c,none⟩=some (.slice (some ⟨bz,oz,none⟩) (L+1) (L+1+cm))/\w'.cell? ⟨bn,on+c,none⟩=some (.slice an L (L+cn))/\w'.cell? ⟨G2,0,none⟩=some (.int .i64 d1)/\w'.cell? ⟨G2,1,none⟩=some (.int .i64 d2)/\w'.cell? ⟨G,1,none⟩=some (.int .i64 d1)/\w'.cell? ⟨G,2,none⟩=some (.int .i64 d2))) (by kernel_rfl) ?_ (fun hHeld=>?_)
     . exact⟨zZ,za,zB1,zB3,z4,z3,u0,u1,f1,f2⟩
     refine AO 0 218 (v:=?_) ?_ ?_;rotate_left
     ·
      intro wx hSw;go_simp;with_reducible rfl
     simp only[Act.put,List.setIfInBounds_toArray,List.set_cons_zero,List.set_cons_succ];refine AO 1 219 (v:=?_) ?_ ?_;rotate_left
     ·
      intro wx hSw;go_simp;with_reducible rfl
     simp only[Act.put,List.setIfInBounds_toArray,List.set_cons_zero,List.set_cons_succ];refine AO 2 220 (v:=?_) ?_ ?_;rotate_left
     ·
      intro wx hSw;go_simp;with_reducible rfl
     simp only[Act.put,List.setIfInBounds_toArray,List.set_cons_zero,List.set_cons_succ];refine AO 3 221 (v:=?_) ?_ ?_;rotate_left
     ·
      intro wx hSw;go_simp;with_reducible rfl
     simp only[Act.put,List.setIfInBounds_toArray,List.set_cons_zero,List.set_cons_succ];refine wpAnyH_ready (rs:=[4]) (by kernel_rfl) (by simp) ?_;refine AllReadyH.cons rfl (fun K hK=>?_) AllReadyH.nil;go_simp;refine (BU _ _ _ Q.AM (uf.keep pK).P ((congrArg (Rd _ _) qo.out).mp (rB21.keep pK).P) yj).mono ?_;rintro e vd1 ⟨rfl,mO⟩;have rC:=pK.trans mO;go_wp2_with fail
     refine hK.out _ _ ?_ (fun hHeld=>?_)
     . exact SKd.out _ _ mO pK.size hHeld
     clear hK K;refine AO 5 223 (v:=?_) ?_ ?_;rotate_left
     ·
      intro wx hSw;go_simp;with_reducible rfl
     simp only[Act.put,List.setIfInBounds_toArray,List.set_cons_zero,List.set_cons_succ];refine AO 6 224 (v:=?_) ?_ ?_;rotate_left
     ·
      intro wx hSw;go_simp;with_reducible rfl
     simp only[Act.put,List.setIfInBounds_toArray,List.set_cons_zero,List.set_cons_succ];refine AO 7 225 (v:=?_) ?_ ?_;rotate_left
     ·
      intro wx hSw;go_simp;with_reducible rfl
     simp only[Act.put,List.setIfInBounds_toArray,List.set_cons_zero,List.set_cons_succ];refine AO 8 226 (v:=?_) ?_ ?_;rotate_left
     ·
      intro wx hSw;go_simp;with_reducible rfl
     simp only[Act.put,List.setIfInBounds_toArray,List.set_cons_zero,List.set_cons_succ];refine AO 9 227 (v:=?_) ?_ ?_;rotate_left
     ·
      intro wx hSw;go_simp;with_reducible rfl
     simp only[Act.put,List.setIfInBounds_toArray,List.set_cons_zero,List.set_cons_succ];refine AO 10 228 (v:=?_) ?_ ?_;rotate_left
     ·
      intro wx hSw;go_simp;with_reducible rfl
     simp only[Act.put,List.setIfInBounds_toArray,List.set_cons_zero,List.set_cons_succ];refine AO 11 229 (v:=?_) ?_ ?_;rotate_left
     ·
      intro wx hSw;go_simp;with_reducible rfl
     simp only[Act.put,List.setIfInBounds_toArray,List.set_cons_zero,List.set_cons_succ];refine AO 12 230 (v:=?_) ?_ ?_;rotate_left
     ·
      intro wx hSw;go_simp;with_reducible rfl
     simp only[Act.put,List.setIfInBounds_toArray,List.set_cons_zero,List.set_cons_succ];refine AO 13 231 (v:=?_) ?_ ?_;rotate_left
     ·
      intro wx hSw;go_simp;with_reducible rfl
     simp only[Act.put,List.setIfInBounds_toArray,List.set_cons_zero,List.set_cons_succ];refine AO 14 232 (v:=?_) ?_ ?_;rotate_left
     ·
      intro wx hSw;go_simp;with_reducible rfl
     simp only[Act.put,List.setIfInBounds_toArray,List.set_cons_zero,List.set_cons_succ];refine AO 15 233 (v:=?_) ?_ ?_;rotate_left
     ·
      intro wx hSw;go_simp;with_reducible rfl
     simp only[Act.put,List.setIfInBounds_toArray,List.set_cons_zero,List.set_cons_succ];refine AO 16 234 (v:=?_) ?_ ?_;rotate_left
     ·
      intro wx hSw;go_simp;with_reducible rfl
     simp only[Act.put,List.setIfInBounds_toArray,List.set_cons_zero,List.set_cons_succ];refine AO 17 235 (v:=?_) ?_ ?_;rotate_left
     ·
      intro wx hSw;go_simp;with_reducible rfl
     simp only[Act.put,List.setIfInBounds_toArray,List.set_cons_zero,List.set_cons_succ];refine AO 18 236 (v:=?_) ?_ ?_;rotate_left
     ·
      intro wx hSw;go_simp;with_reducible rfl
     simp only[Act.put,List.setIfInBounds_toArray,List.set_cons_zero,List.set_cons_succ];refine AO 19 237 (v:=?_) ?_ ?_;rotate_left
     ·
      intro wx hSw;go_simp;with_reducible rfl
     simp only[Act.put,List.setIfInBounds_toArray,List.set_cons_zero,List.set_cons_succ];refine AO 20 238 (v:=?_) ?_ ?_;rotate_left
     ·
      intro wx hSw;go_simp;with_reducible rfl
     simp only[Act.put,List.setIfInBounds_toArray,List.set_cons_zero,List.set_cons_succ];refine AO 21 239 (v:=?_) ?_ ?_;rotate_left
     ·
      intro wx hSw;go_simp;with_reducible rfl
     simp only[Act.put,List.setIfInBounds_toArray,List.set_cons_zero,List.set_cons_succ];refine AO 22 240 (v:=?_) ?_ ?_;rotate_left
     ·
      intro wx hSw;go_simp;with_reducible rfl
     simp only[Act.put,List.setIfInBounds_toArray,List.set_cons_zero,List.set_cons_succ];refine AO 23 241 (v:=?_) ?_ ?_;rotate_left
     ·
      intro wx hSw;go_simp;with_reducible rfl
     simp only[Act.put,List.setIfInBounds_toArray,List.set_cons_zero,List.set_cons_succ];refine AO 24 242 (v:=?_) ?_ ?_;rotate_left
     ·
      intro wx hSw;go_simp;with_reducible rfl
     simp only[Act.put,List.setIfInBounds_toArray,List.set_cons_zero,List.set_cons_succ];refine AO 25 243 (v:=?_) ?_ ?_;rotate_left
     ·
      intro wx hSw;go_simp;with_reducible rfl
     simp only[Act.put,List.setIfInBounds_toArray,List.set_cons_zero,List.set_cons_succ];refine AO 26 244 (v:=?_) ?_ ?_;rotate_left
     ·
      intro wx hSw;go_simp;with_reducible rfl
     simp only[Act.put,List.setIfInBounds_toArray,List.set_cons_zero,List.set_cons_succ];refine AO 27 245 (v:=?_) ?_ ?_;rotate_left
     ·
      intro wx hSw;go_simp;with_reducible rfl
     simp only[Act.put,List.setIfInBounds_toArray,List.set_cons_zero,List.set_cons_succ];refine AO 28 246 (v:=?_) ?_ ?_;rotate_left
     ·
      intro wx hSw;go_simp;with_reducible rfl
     simp only[Act.put,List.setIfInBounds_toArray,List.set_cons_zero,List.set_cons_succ];refine AO 29 247 (v:=?_) ?_ ?_;rotate_left
     ·
      intro wx hSw;go_simp;with_reducible rfl
     simp only[Act.put,List.setIfInBounds_toArray,List.set_cons_zero,List.set_cons_succ];refine AO 30 248 (v:=?_) ?_ ?_;rotate_left
     ·
      intro wx hSw;go_simp;with_reducible rfl
     simp only[Act.put,List.setIfInBounds_toArray,List.set_cons_zero,List.set_cons_succ];refine AO 31 249 (v:=?_) ?_ ?_;rotate_left
     ·
      intro wx hSw;go_simp;with_reducible rfl
     simp only[Act.put,List.setIfInBounds_toArray,List.set_cons_zero,List.set_cons_succ];refine AO 32 250 (v:=?_) ?_ ?_;rotate_left
     ·
      intro wx hSw;go_simp;with_reducible rfl
     simp only[Act.put,List.setIfInBounds_toArray,List.set_cons_zero,List.set_cons_succ];refine AO 33 251 (v:=?_) ?_ ?_;rotate_left
     ·
      intro wx hSw;go_simp;with_reducible rfl
     simp only[Act.put,List.setIfInBounds_toArray,List.set_cons_zero,List.set_cons_succ];refine AO 34 252 (v:=?_) ?_ ?_;rotate_left
     ·
      intro wx hSw;go_simp;with_reducible rfl
     simp only[Act.put,List.setIfInBounds_toArray,List.set_cons_zero,List.set_cons_succ];refine AO 35 2 (v:=?_) ?_ ?_;rotate_left
     ·
      intro wx hSw;go_simp;with_reducible rfl
     simp only[Act.put,List.setIfInBounds_toArray,List.set_cons_zero,List.set_cons_succ];refine wpAnyH_done (by kernel_rfl) ?_ _;go_wp2;go_ret;exact⟨rfl,K21.trans rC⟩
    ·
     have tO:0<dg:=by have:=Zf.out;omega
     have g1:(dg==0)=false:=by simpa using g0
     have g2:decide (0<dg)=true:=decide_eq_true tO;clear bD bC bB Zf g0;go_wp2;go_quiet (fail)
     go_wp2;go_ret;exact⟨rfl,K20.drewN _⟩
   have a2':(d0==2)=false:=by simpa using a2
   by_cases a3:d0=3
   ·
    subst a3;obtain⟨p,hp,ep,pq,nq⟩:=bC.out rfl;have lP:=(show p<Q.AM.length by rw[hq3.out];exact hp);obtain⟨a',c',he',hopen⟩:=W3.P;simp only[Value.slice.injEq,true_and] at he';obtain⟨rfl,rfl⟩:=he';rcases hopen with h0|⟨bp,op,rfl,hbp,hcp⟩
    . exfalso;rw[h0] at lP;simp at lP
    have dP:=hcp p lP;rw[pq] at dP;rw[nq] at d4;subst ep;have j4:(p:Int)<(Q.AM.length:Int):=by omega
    have j5:(0:Int)<=(p:Int):=Int.natCast_nonneg _;have g1:(d2==d2)=true:=by simp
    clear bD bC bB Zf hcp pq nq a2 r4;go_wp2;go_quiet (fail)
    go_wp2;go_ret;exact⟨rfl,K20.drewN _⟩
   have a3':(d0==3)=false:=by simpa using a3
   by_cases g0:dg=0
   ·
    obtain⟨pe,ne⟩:=bB.out a2 a3 g0;subst g0;have qo:=Lib.hid pe.symm;rw[ne] at d4;clear bD bC bB Zf pe ne a2 a3 r4;generalize (b.AH.getD c []).length=L at *;go_wp2_with fail
    go_upto_region 30 with fail
    have SKe:Hid (∀W W':World,AC W W'->w20.heap.size<=W.heap.size->W.cell? ⟨X,1,none⟩=some (.slice Pi Q.AM.length NH)/\W.cell? ⟨X,3,none⟩=some (.slice (some ⟨bm,om,none⟩) Q.AH.length E5)/\W.cell? ⟨B,1,none⟩=some (.slice Uz b.AM.length U0)/\W.cell? ⟨B,3,none⟩=some (.slice (some ⟨bn,on,none⟩) b.AH.length Ik)/\W.cell? ⟨bm,om+c,none⟩=some (.slice am L (L+cm))/\W.cell? ⟨bn,on+c,none⟩=some (.slice an L (L+cn))/\W.cell? ⟨G,3,none⟩=some (.int .i64 0)->W'.cell? ⟨X,1,none⟩=some (.slice Pi Q.AM.length NH)/\W'.cell? ⟨X,3,none⟩=some (.slice (some ⟨bm,om,none⟩) Q.AH.length E5)/\W'.cell? ⟨B,1,none⟩=some (.slice Uz b.AM.length U0)/\W'.cell? ⟨B,3,none⟩=some (.slice (some ⟨bn,on,none⟩) b.AH.length Ik)/\W'.cell? ⟨bm,om+c,none⟩=some (.slice am L (L+cm))/\W'.cell? ⟨bn,on+c,none⟩=some (.slice an L (L+cn))/\W'.cell? ⟨G,3,none⟩=some (.int .i64 0)):=Lib.hid (by
     rintro W W' k hs ⟨h0,h1,h2,h3,h4,h5,h6⟩
     exact⟨(k.cell (by omega)).trans h0,(k.cell (by omega)).trans h1,(k.cell (by omega)).trans h2,(k.cell (by omega)).trans h3,(k.cell (by omega)).trans h4,(k.cell (by omega)).trans h5,(k.cell (by omega)).trans h6⟩)
    have pM:AC w20 w20.drew:=(AC.refl w20).drew;refine wp_region_held_drew (S:=(fun w'=>w'.cell? ⟨X,1,none⟩=some (.slice Pi Q.AM.length NH)/\w'.cell? ⟨X,3,none⟩=some (.slice (some ⟨bm,om,none⟩) Q.AH.length E5)/\w'.cell? ⟨B,1,none⟩=some (.slice Uz b.AM.length U0)/\w'.cell? ⟨B,3,none⟩=some (.slice (some ⟨bn,on,none⟩) b.AH.length Ik)/\w'.cell? ⟨bm,om+c,none⟩=some (.slice am L (L+cm))/\w'.cell? ⟨bn,on+c,none⟩=some (.slice an L (L+cn))/\w'.cell? ⟨G,3,none⟩=some (.int .i64 0))) (by kernel_rfl) ?_ (fun hHeld=>?_)
    . exact⟨iH,aI,vY,nY,d4,d3,e3⟩
    refine AO 0 274 (v:=?_) ?_ ?_;rotate_left
    ·
     intro wx hSw;go_simp;with_reducible rfl
    simp only[Act.put,List.setIfInBounds_toArray,List.set_cons_zero,List.set_cons_succ];refine AO 1 275 (v:=?_) ?_ ?_;rotate_left
    ·
     intro wx hSw;go_simp;with_reducible rfl
    simp only[Act.put,List.setIfInBounds_toArray,List.set_cons_zero,List.set_cons_succ];refine AO 2 276 (v:=?_) ?_ ?_;rotate_left
    ·
     intro wx hSw;go_simp;with_reducible rfl
    simp only[Act.put,List.setIfInBounds_toArray,List.set_cons_zero,List.set_cons_succ];refine AO 3 277 (v:=?_) ?_ ?_;rotate_left
    ·
     intro wx hSw;go_simp;with_reducible rfl
    simp only[Act.put,List.setIfInBounds_toArray,List.set_cons_zero,List.set_cons_succ];refine AO 4 278 (v:=?_) ?_ ?_;rotate_left
    ·
     intro wx hSw;go_simp;with_reducible rfl
    simp only[Act.put,List.setIfInBounds_toArray,List.set_cons_zero,List.set_cons_succ];refine AO 5 279 (v:=?_) ?_ ?_;rotate_left
    ·
     intro wx hSw;go_simp;with_reducible rfl
    simp only[Act.put,List.setIfInBounds_toArray,List.set_cons_zero,List.set_cons_succ];refine AO 6 280 (v:=?_) ?_ ?_;rotate_left
    ·
     intro wx hSw;go_simp;with_reducible rfl
    simp only[Act.put,List.setIfInBounds_toArray,List.set_cons_zero,List.set_cons_succ];refine AO 7 281 (v:=?_) ?_ ?_;rotate_left
    ·
     intro wx hSw;go_simp;with_reducible rfl
    simp only[Act.put,List.setIfInBounds_toArray,List.set_cons_zero,List.set_cons_succ];refine wpAnyH_ready (rs:=[8]) (by kernel_rfl) (by simp) ?_;refine AllReadyH.cons rfl (fun K hK=>?_) AllReadyH.nil;go_simp;refine (BU _ _ _ Q.AM (W3.keep pM).P ((congrArg (Rd _ _) qo.out).mp (rB20.keep pM).P) yj).mono ?_;rintro e ve1 ⟨rfl,mQ⟩;have rD:=pM.trans mQ;go_wp2_with fail
    refine hK.out _ _ ?_ (fun hHeld=>?_)
    . exact SKe.out _ _ mQ pM.size hHeld
    clear hK K;refine AO 9 283 (v:=?_) ?_ ?_;rotate_left
    ·
     intro wx hSw;go_simp;with_reducible rfl
    simp only[Act.put,List.setIfInBounds_toArray,List.set_cons_zero,List.set_cons_succ];refine AO 10 284 (v:=?_) ?_ ?_;rotate_left
    ·
     intro wx hSw;go_simp;with_reducible rfl
    simp only[Act.put,List.setIfInBounds_toArray,List.set_cons_zero,List.set_cons_succ];refine AO 11 285 (v:=?_) ?_ ?_;rotate_left
    ·
     intro wx hSw;go_simp;with_reducible rfl
    simp only[Act.put,List.setIfInBounds_toArray,List.set_cons_zero,List.set_cons_succ];refine AO 12 286 (v:=?_) ?_ ?_;rotate_left
    ·
     intro wx hSw;go_simp;with_reducible rfl
    simp only[Act.put,List.setIfInBounds_toArray,List.set_cons_zero,List.set_cons_succ];refine AO 13 287 (v:=?_) ?_ ?_;rotate_left
    ·
     intro wx hSw;go_simp;with_reducible rfl
    simp only[Act.put,List.setIfInBounds_toArray,List.set_cons_zero,List.set_cons_succ];refine AO 14 288 (v:=?_) ?_ ?_;rotate_left
    ·
     intro wx hSw;go_simp;with_reducible rfl
    simp only[Act.put,List.setIfInBounds_toArray,List.set_cons_zero,List.set_cons_succ];refine AO 15 289 (v:=?_) ?_ ?_;rotate_left
    ·
     intro wx hSw;go_simp;with_reducible rfl
    simp only[Act.put,List.setIfInBounds_toArray,List.set_cons_zero,List.set_cons_succ];refine AO 16 290 (v:=?_) ?_ ?_;rotate_left
    ·
     intro wx hSw;go_simp;with_reducible rfl
    simp only[Act.put,List.setIfInBounds_toArray,List.set_cons_zero,List.set_cons_succ];refine AO 17 291 (v:=?_) ?_ ?_;rotate_left
    ·
     intro wx hSw;go_simp;with_reducible rfl
    simp only[Act.put,List.setIfInBounds_toArray,List.set_cons_zero,List.set_cons_succ];refine AO 18 292 (v:=?_) ?_ ?_;rotate_left
    ·
     intro wx hSw;go_simp;with_reducible rfl
    simp only[Act.put,List.setIfInBounds_toArray,List.set_cons_zero,List.set_cons_succ];refine AO 19 293 (v:=?_) ?_ ?_;rotate_left
    ·
     intro wx hSw;go_simp;with_reducible rfl
    simp only[Act.put,List.setIfInBounds_toArray,List.set_cons_zero,List.set_cons_succ];refine AO 20 294 (v:=?_) ?_ ?_;rotate_left
    ·
     intro wx hSw;go_simp;with_reducible rfl
    simp only[Act.put,List.setIfInBounds_toArray,List.set_cons_zero,List.set_cons_succ];refine AO 21 295 (v:=?_) ?_ ?_;rotate_left
    ·
     intro wx hSw;go_simp;with_reducible rfl
    simp only[Act.put,List.setIfInBounds_toArray,List.set_cons_zero,List.set_cons_succ];refine AO 22 296 (v:=?_) ?_ ?_;rotate_left
    ·
     intro wx hSw;go_simp;with_reducible rfl
    simp only[Act.put,List.setIfInBounds_toArray,List.set_cons_zero,List.set_cons_succ];refine AO 23 297 (v:=?_) ?_ ?_;rotate_left
    ·
     intro wx hSw;go_simp;with_reducible rfl
    simp only[Act.put,List.setIfInBounds_toArray,List.set_cons_zero,List.set_cons_succ];refine AO 24 298 (v:=?_) ?_ ?_;rotate_left
    ·
     intro wx hSw;go_simp;with_reducible rfl
    simp only[Act.put,List.setIfInBounds_toArray,List.set_cons_zero,List.set_cons_succ];refine AO 25 2 (v:=?_) ?_ ?_;rotate_left
    ·
     intro wx hSw;go_simp;with_reducible rfl
    simp only[Act.put,List.setIfInBounds_toArray,List.set_cons_zero,List.set_cons_succ];refine wpAnyH_done (by kernel_rfl) ?_ _;go_wp2;go_ret;exact⟨rfl,K20.trans rD⟩
   ·
    have tO:0<dg:=by have:=Zf.out;omega
    have g2:decide (0<dg)=true:=decide_eq_true tO;clear bD bC bB Zf g0 a2 a3;go_wp2;go_quiet (fail)
    go_wp2;go_ret;exact⟨rfl,K20.drewN _⟩
set_option maxRecDepth 100000 in
theorem lifted (os:Os)(started:os.Started)(H:Type)(enc:TypeId×Value->H):
  ReturnsInHanded {} Tryz.checked os 4 .any (Rows.fnStepsSpec.pre6 enc Tryz.prog Tryz.f4 Rows.fnStepsRow.domain false) (Rows.fnStepsSpec.post enc Tryz.prog Tryz.f4 false true false false):=by
 refine returnsInHanded_of_change (C:=Tryz.checked) own started (by kernel_rfl) Tryz.func4
  (ChangeSpec.witness6 (enc:=enc) (C:=Tryz.checked) false ⟨#[],#[.slice none 0 0],[]⟩ 8 (by kernel_rfl) (by kernel_rfl) (by kernel_rfl) (by kernel_rfl)) ?_
 intro W base args ds gs before hval0 hW hcnd _;have hval:∀(j:Nat) t v,Tryz.f4.params[j]? = some t->args[j]? = some v->Value.okWide Tryz.prog W .any base t v:=hval0;have hW':=hW;obtain⟨p,q,hA0,hV,rfl,hfz,hnd⟩:=hW;have hA:DataW.TrodAll enc Tryz.prog W 0 (fun _=>true) true Tryz.f4.params.toList args.toList ds p:=hA0;rw[Tryz.params4] at hA hval;obtain⟨v0,vs0,d0,ds0,p0,q0,hargs,rfl,rfl,h0,r0⟩:=trodAll_cons hA;obtain⟨rfl,rfl,rfl⟩:=trodAll_nil r0;obtain rfl:args=#[v0]:=by cases args;simp_all
 obtain⟨rfl,rfl⟩:=trodVars_none hV;have k0:=h0;have lt0:∀x∈p0,x.block<W.heap.size:=by obtain⟨m,hm⟩:=k0;exact DataW.trod_lt m _ _ _ hm
 obtain⟨a0,len0,cap0,rfl⟩:=okWide_slice Tryz.underlying22 (hval 0 22 v0 rfl rfl)
 obtain⟨z0,w0⟩:∃zs,IsRow .u8 W a0 len0 cap0 zs:=by
  obtain⟨fuel,hf⟩:=h0;rcases open_ints Tryz.underlying22 Tryz.underlying5 (by kernel_rfl) hf with ⟨hcs,_⟩|⟨x,l,c,zs,hcs,_,hl,hm,hz,_,hcell,hwz⟩
  ·
   simp[Value.cells] at hcs;obtain⟨rfl,rfl,rfl⟩:=hcs;exact⟨[],.inl ⟨rfl,rfl,rfl,rfl⟩⟩
  ·
   simp[Value.cells] at hcs;obtain⟨rfl,rfl,rfl⟩:=hcs;exact⟨zs,.inr ⟨_,rfl,hl,hm,by simpa using hz,hcell,hwz⟩⟩
 clear hA0 hval0;refine (walk a0 len0 cap0 z0 W w0).mono fun e W' ⟨he,kK⟩=>?_
 subst he;exact⟨_,rfl,_,_,_,[],_,[],hW',trodAll_mk1 (shut_bool Tryz.underlying4 _),(trodAll_cons_mk (Below.trod laidOut (by kernel_rfl) (of_decide_eq_true (by kernel_rfl)) k0 kK lt0) trodAll_mk0),rfl,kK.frame _,fun h=>by cases h⟩
theorem over:Rows.fnStepsRow.holds Tryz.pinned (OpenSpec.ofChange Rows.fnStepsSpec):=
 OpenClaim.holds_of_wide 4 Tryz.f4 rfl rfl rfl rfl rfl rfl rfl ⟨rfl,rfl,rfl,rfl,rfl⟩ rfl rfl rfl rfl rfl (by kernel_rfl) Tryz.func4 (by kernel_rfl)
  (of_decide_eq_true (by kernel_rfl)) (by unfold Func.isWrapper;first|(rw[if_pos (by decide +kernel)];kernel_rfl)|(rw[if_neg (by decide +kernel)];exact⟨rfl,rfl⟩))
  (fun os started H enc _=>lifted os started H enc)
#print axioms over
end Go.Proofs.YtgakfkjjkobpiaaGreat.fnSteps
namespace Go.Proofs.YtgakfkjjkobpiaaGreat
theorem fnSteps_holds:Rows.FnStepsSaid:=fnSteps.over
end Go.Proofs.YtgakfkjjkobpiaaGreat
