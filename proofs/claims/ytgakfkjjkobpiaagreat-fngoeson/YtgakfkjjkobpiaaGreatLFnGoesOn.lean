/- At every string of bytes the law FnGoesOn answers true and its argument stays. -/
import Derived.Test.YtgakfkjjkobpiaaGreatRows
import Derived.WalkKit
import Derived.ProofKit
import Derived.OpenShut
import Derived.ShutString
import Derived.ChangeOld
import Derived.Below
import Derived.Test.YtgakfkjjkobpiaaGreatNA
import Derived.Test.YtgakfkjjkobpiaaGreatMX
import Derived.Test.YtgakfkjjkobpiaaGreatNB
import Derived.Deep.Cut
import Derived.Deep.RegionHeld3
namespace Go.Proofs.YtgakfkjjkobpiaaGreat.fnGoesOn
open Go.ChangeShapes Go.WideShapes Go.ChangeAt Go.RowKit
open Go.ChangeMaps (open_string shut_string)
set_option linter.unusedVariables false
theorem own:ownKnob Tryz.prog.godebug=none:=by kernel_rfl
theorem laidOut:laidOutB Tryz.prog=true:=by kernel_rfl
def IsRow (k:IntKind)(w:World)(a:Option Addr)(len cap:Nat)(zs:List Int):Prop:=
 (a=none/\len=0/\cap=0/\zs=[]) \/
 ∃x,a=some x/\len<=cap/\cap<=maxLen/\zs.length=cap/\(∀i,i<zs.length->w.cell? (x.add i)=some (.int k (zs.getD i 0)))/\∀n∈zs,(Lit.int k n).wf=true
set_option maxRecDepth 100000 in
set_option maxHeartbeats 8000000 in
theorem walk (a0:Option Addr)(len0 cap0:Nat)(z0:List Int)(w:World)(w0:IsRow .u8 w a0 len0 cap0 z0):
  Calls Tryz.prog 5 #[.slice a0 len0 cap0] w fun e w'=>e = .returned (.bool true)/\Below w.heap.size w w':=by
 by_cases hbig:4096<len0
 ·
  have hbb:decide (4096<len0)=true:=by simpa using hbig
  go_enter Tryz.func5,Tryz.ntmps5
  go_wp2_with (go_at_call 6;refine (Kh _ _ _ _).mono ?_;rintro e w' ⟨rfl,rfl⟩)
  go_ret;exact⟨rfl,Below.refl _ _⟩
 have hbb:decide (4096<len0)=false:=by simpa using hbig
 obtain⟨zs,hzl,hrd⟩:∃zs:List Int,zs.length=len0/\Ms w w.heap.size a0 zs:=MU (by omega) w0;have hz12:zs.length<=4096:=by omega
 subst hzl;clear w0 hbig;go_enter Tryz.func5,Tryz.ntmps5
 go_wp2_with fail
 refine (Kh _ _ _ _).mono ?_;rintro e w' ⟨rfl,rfl⟩;go_wp2_with fail
 refine (Pu _ a0 cap0 zs hrd).mono ?_;rintro e w1 ⟨v,AA,vs,l,rfl,rW,⟨q1,q2⟩,rS,l60,K1⟩;have hx:AA.length<=1048576:=by omega
 have HM:Hid (∀i,i<AA.length->(AA.getD i []).length<=1048576):=Lib.hid (fun i hi=>by have:=q2 i hi;omega);obtain⟨aV,cV,rfl,-⟩:=id rW;obtain⟨aS,cS,rfl,-⟩:=id rS;clear hbb q2;have CI:=QC w1 _ _ AA l rW rS hx HM.out (by omega);obtain⟨mE,-⟩:=gu AA l;have Xi:=Lib.hid mE;obtain⟨D,hD⟩:∃D,D=J1 AA l:=⟨_,rfl⟩;obtain⟨Q,hQ⟩:∃Q,Q=J0 AA l:=⟨_,rfl⟩;obtain⟨T,hT⟩:∃T,T=Hu AA l:=⟨_,rfl⟩;rw[<-hD,<-hQ] at Xi;rw[<-hD,<-hQ,<-hT] at CI;have HD:=Lib.hid hD;have HQ:=Lib.hid hQ;have Q9:=Lib.hid hT;clear hD hQ hT mE;go_wp2_with fail
 refine CI.mono ?_;rintro e w2 ⟨bvX,rfl,fX,k2⟩;have uZ:=fX.rd;have K2:=K1.trans k2;have zG:=rW.keep k2;have rS2:=rS.keep k2;clear CI fX k2 rW rS;obtain⟨VQ,Pi,VN,VO,Sm,Sk,VM,VP,Vp,NH,Su,E5,Sw,Sv,Vm,Vo,rfl⟩:=uZ.shapes;go_upto_region 5 with fail
 obtain⟨w3,hw⟩:∃W:World,W=w2.alloc (.cells #[.slice VQ D.length Vp,.slice Pi Q.AM.length NH,.slice VN Q.AQ.length Su,.slice VO Q.AH.length E5,.slice Sm Q.AL.length Sw,.slice Sk Q.sn.length Sv,.slice VM Q.fr.length Vm,.slice VP Q.rws.length Vo] 30):=⟨_,rfl⟩;have kb:AC w2 w3:=by rw[hw];exact (AC.refl w2).alloc _
 have hX:w3.heap[w2.heap.size]? = some (.cells #[.slice VQ D.length Vp,.slice Pi Q.AM.length NH,.slice VN Q.AQ.length Su,.slice VO Q.AH.length E5,.slice Sm Q.AL.length Sw,.slice Sk Q.sn.length Sv,.slice VM Q.fr.length Vm,.slice VP Q.rws.length Vo] 30 (0,0)):=by rw[hw];exact heap_alloc_new _ _
 have lX:w2.heap.size<w3.heap.size:=by rw[hw,AD];omega
 rw[<-hw];clear hw;have wU:=K2.trans kb;have jE:=uZ.keep kb;have CS:=Qo w3 _ _ AA l (zG.keep kb) (rS2.keep kb) hx HM.out;rw[<-HD.out,<-HQ.out,<-Q9.out] at CS;have HX0:=Lib.hid K2.size;generalize w2.heap.size=X at *;clear uZ kb K2 zG rS2;go_wp2_with fail
 refine CS.mono ?_;rintro e w4 ⟨bvY,rfl,uj,k4⟩;have K4:=wU.trans k4;have s4:=k4.size;replace hX:=(Below.block k4 X (by omega)).trans hX;have nK:=jE.keep k4;clear CS k4 wU jE;obtain⟨cB,bZ,bU,bV,cK,bg,bT,bf,dQ,dI,dH,Ri,dU,dK,dG,dJ,rfl⟩:=uj.shapes;go_upto_region 6 with fail
 obtain⟨w5,hw⟩:∃W:World,W=w4.alloc (.cells #[.slice cB D.length dQ,.slice bZ Q.AM.length dI,.slice bU Q.AQ.length dH,.slice bV Q.AH.length Ri,.slice cK Q.AL.length dU,.slice bg Q.sn.length dK,.slice bT Q.fr.length dG,.slice bf Q.rws.length dJ] 30):=⟨_,rfl⟩;have kb:AC w4 w5:=by rw[hw];exact (AC.refl w4).alloc _
 have hY:w5.heap[w4.heap.size]? = some (.cells #[.slice cB D.length dQ,.slice bZ Q.AM.length dI,.slice bU Q.AQ.length dH,.slice bV Q.AH.length Ri,.slice cK Q.AL.length dU,.slice bg Q.sn.length dK,.slice bT Q.fr.length dG,.slice bf Q.rws.length dJ] 30 (0,0)):=by rw[hw];exact heap_alloc_new _ _
 have lY:w4.heap.size<w5.heap.size:=by rw[hw,AD];omega
 rw[<-hw];clear hw;have wW:=K4.trans kb;have jF:=nK.keep kb;have zJ:=uj.keep kb;replace hX:=(Below.block kb X (by omega)).trans hX;generalize w4.heap.size=Y at *;clear nK uj kb K4;have lJ:(T != T)=false:=by cases T<;>rfl
 have Tg:w5.cell? ⟨X,0,none⟩=some (.slice VQ D.length Vp):=by rw[cell_of_row w5 _ 0 _ _ _ hX];rfl
 have RJ:w5.cell? ⟨X,1,none⟩=some (.slice Pi Q.AM.length NH):=by rw[cell_of_row w5 _ 1 _ _ _ hX];rfl
 have Sh:w5.cell? ⟨X,2,none⟩=some (.slice VN Q.AQ.length Su):=by rw[cell_of_row w5 _ 2 _ _ _ hX];rfl
 have RK:w5.cell? ⟨X,3,none⟩=some (.slice VO Q.AH.length E5):=by rw[cell_of_row w5 _ 3 _ _ _ hX];rfl
 have RM:w5.cell? ⟨X,4,none⟩=some (.slice Sm Q.AL.length Sw):=by rw[cell_of_row w5 _ 4 _ _ _ hX];rfl
 have Si:w5.cell? ⟨X,5,none⟩=some (.slice Sk Q.sn.length Sv):=by rw[cell_of_row w5 _ 5 _ _ _ hX];rfl
 have Th:w5.cell? ⟨X,6,none⟩=some (.slice VM Q.fr.length Vm):=by rw[cell_of_row w5 _ 6 _ _ _ hX];rfl
 have Ti:w5.cell? ⟨X,7,none⟩=some (.slice VP Q.rws.length Vo):=by rw[cell_of_row w5 _ 7 _ _ _ hX];rfl
 have vJ:w5.cell? ⟨Y,0,none⟩=some (.slice cB D.length dQ):=by rw[cell_of_row w5 _ 0 _ _ _ hY];rfl
 have vK:w5.cell? ⟨Y,1,none⟩=some (.slice bZ Q.AM.length dI):=by rw[cell_of_row w5 _ 1 _ _ _ hY];rfl
 have vM:w5.cell? ⟨Y,2,none⟩=some (.slice bU Q.AQ.length dH):=by rw[cell_of_row w5 _ 2 _ _ _ hY];rfl
 have vO:w5.cell? ⟨Y,3,none⟩=some (.slice bV Q.AH.length Ri):=by rw[cell_of_row w5 _ 3 _ _ _ hY];rfl
 have vQ:w5.cell? ⟨Y,4,none⟩=some (.slice cK Q.AL.length dU):=by rw[cell_of_row w5 _ 4 _ _ _ hY];rfl
 have vT:w5.cell? ⟨Y,5,none⟩=some (.slice bg Q.sn.length dK):=by rw[cell_of_row w5 _ 5 _ _ _ hY];rfl
 have vU:w5.cell? ⟨Y,6,none⟩=some (.slice bT Q.fr.length dG):=by rw[cell_of_row w5 _ 6 _ _ _ hY];rfl
 have vV:w5.cell? ⟨Y,7,none⟩=some (.slice bf Q.rws.length dJ):=by rw[cell_of_row w5 _ 7 _ _ _ hY];rfl
 go_wp2_with fail
 refine (Cz _ _ _ D Q jF zJ Xi.out).mono ?_;rintro e w6 ⟨rfl,k6⟩;have K6:=wW.trans k6;have s6:=k6.size;replace hX:=(Below.block k6 X (by omega)).trans hX;have ug:=jF.keep k6;have zX6:X<w6.heap.size:=by omega
 clear Tg RJ Sh RK RM Si Th Ti vJ vK vM vO vQ vT vU vV jF zJ k6 wW hY;cases Jj:Hu AA l
 ·
  have e1:=Lib.hid (show D=[] by rw[HD.out,J1,Jj,if_neg (by simp)]);have e2:=Lib.hid (show Q=PR by rw[HQ.out,J0,Jj,if_neg (by simp)]);have e3:T=false:=by rw[Q9.out,Jj]
  clear Q9 lJ HD HQ Jj;subst e3;have Tg:w6.cell? ⟨X,0,none⟩=some (.slice VQ D.length Vp):=by rw[cell_of_row w6 _ 0 _ _ _ hX];rfl
  have RJ:w6.cell? ⟨X,1,none⟩=some (.slice Pi Q.AM.length NH):=by rw[cell_of_row w6 _ 1 _ _ _ hX];rfl
  have Sh:w6.cell? ⟨X,2,none⟩=some (.slice VN Q.AQ.length Su):=by rw[cell_of_row w6 _ 2 _ _ _ hX];rfl
  have RK:w6.cell? ⟨X,3,none⟩=some (.slice VO Q.AH.length E5):=by rw[cell_of_row w6 _ 3 _ _ _ hX];rfl
  have RM:w6.cell? ⟨X,4,none⟩=some (.slice Sm Q.AL.length Sw):=by rw[cell_of_row w6 _ 4 _ _ _ hX];rfl
  have Si:w6.cell? ⟨X,5,none⟩=some (.slice Sk Q.sn.length Sv):=by rw[cell_of_row w6 _ 5 _ _ _ hX];rfl
  have Th:w6.cell? ⟨X,6,none⟩=some (.slice VM Q.fr.length Vm):=by rw[cell_of_row w6 _ 6 _ _ _ hX];rfl
  have Ti:w6.cell? ⟨X,7,none⟩=some (.slice VP Q.rws.length Vo):=by rw[cell_of_row w6 _ 7 _ _ _ hX];rfl
  have HL:=Lib.hid (fun (W:World) (k:AC w6 W)=>Cz W _ Ts D Q (ug.keep k) (by rw[e1.out,e2.out];exact Kw W) Xi.out);clear e1 e2 Tg RJ Sh RK RM Si Th Ti;go_wp2_with (first|refine wpList_load_row rfl 30 _ rfl X rfl 30 _ (0,0) _ hX Tryz.underlying30 rfl AF ?_|fail)
  refine (HL.out _ (AC.refl _)).mono ?_;rintro e w7 ⟨rfl,k7⟩;go_wp2;go_ret;exact⟨rfl,K6.trans k7⟩
 have e1:D=AA:=by rw[HD.out,J1,Jj,if_pos rfl]
 have e2:Q=Bw AA (AB AA) (Bq AA) l:=by rw[HQ.out,J0,Jj,if_pos rfl]
 have e3:T=true:=by rw[Q9.out,Jj]
 have hw:AW AA=true:=by
  simp only[Hu,Bool.and_eq_true] at Jj;exact Jj.1
 have g0:GR AA Q 0:=by rw[e2];exact GR.ran hw l (GR.new hw)
 clear Q9 lJ HD HQ Jj e2;subst e3;subst e1;have HW:=Lib.hid hw;go_wp2;go_loopw [9,10] (fun i _ wr=>∃(k:Nat) (bv:BV) (b':Bd),i = .int .i64 (k:Int)/\GR D b' k/\CJ wr bv D b'/\wr.heap[X]? = some (.cells bv.arr 30 (0,0))/\AC w' wr) (fun i _ _=>((40:Int)-intOf i).toNat)
 case atStart=>exact⟨0,_,Q,rfl,g0,ug,hX,K6⟩
 case round=>
  clear g0 ug hX K6;obtain⟨k,bv,b',rfl,jX,RB,hX,kr⟩:=hrel;have hk24:k<=24:=by have:=jX.mV;omega
  have t0:decide ((k:Int)<40)=true:=decide_eq_true (by omega);have zXr:X<wr.heap.size:=(Array.getElem?_eq_some_iff.1 hX).1;have Lr:=jX.run.board HW.out;have HZ:=Lib.hid (EU Lr);have HE:=Lib.hid (jX.ended HW.out);obtain⟨qB,pz,pY,pu,qC,p9,pX,p8,qK,qG,qE,Yc,qM,qJ,qD,qH,rfl⟩:=RB.shapes;simp only[BV.arr] at hX;have CP:=GD wr _ D b' RB HZ.out;have yV:Dz D b'=Ae D b':=by rw[Dz,if_pos Lr]
  have hpl:=Jz D b';rw[yV] at CP hpl;have wI:=Lib.hid jX;have Ze:=Lib.hid Lr;clear yV jX Lr;go_wp2_with (first|refine wpList_load_row rfl 30 _ rfl X rfl 30 _ (0,0) _ hX Tryz.underlying30 rfl AF ?_|fail)
  refine CP.mono ?_;rintro e w7 ⟨vp,rfl,op,k7⟩;have rp7:=op.rd;have K7:=kr.trans k7;have s7:=k7.size;have hbl:=op.ge;replace hX:=(Below.block k7 X (by omega)).trans hX;have jd:=RB.keep k7;obtain⟨ap,cp,rfl,hcp⟩:=rp7;clear CP k7 kr RB op;have CE:=Mu w7 _ D b' jd HZ.out;rw[HE.out] at CE;by_cases hp0:(Ae D b').length=0
  ·
   have hd:decide ((Ae D b').length=0)=true:=by simpa using hp0
   rw[hd] at CE;clear hd hcp hbl HE;generalize (Ae D b').length=pl at *;subst hp0;go_wp2_with (first|refine wpList_load_row rfl 30 _ rfl X rfl 30 _ (0,0) _ hX Tryz.underlying30 rfl AF ?_|fail)
   refine CE.mono ?_;rintro e w8 ⟨rfl,k8⟩;have K8:=K7.trans k8;replace hX:=(Below.block k8 X (by omega)).trans hX;have je:=jd.keep k8;have Tg:w8.cell? ⟨X,0,none⟩=some (.slice qB D.length qK):=by rw[cell_of_row w8 _ 0 _ _ _ hX];rfl
   have RJ:w8.cell? ⟨X,1,none⟩=some (.slice pz b'.AM.length qG):=by rw[cell_of_row w8 _ 1 _ _ _ hX];rfl
   have Sh:w8.cell? ⟨X,2,none⟩=some (.slice pY b'.AQ.length qE):=by rw[cell_of_row w8 _ 2 _ _ _ hX];rfl
   have RK:w8.cell? ⟨X,3,none⟩=some (.slice pu b'.AH.length Yc):=by rw[cell_of_row w8 _ 3 _ _ _ hX];rfl
   have RM:w8.cell? ⟨X,4,none⟩=some (.slice qC b'.AL.length qM):=by rw[cell_of_row w8 _ 4 _ _ _ hX];rfl
   have Si:w8.cell? ⟨X,5,none⟩=some (.slice p9 b'.sn.length qJ):=by rw[cell_of_row w8 _ 5 _ _ _ hX];rfl
   have Th:w8.cell? ⟨X,6,none⟩=some (.slice pX b'.fr.length qD):=by rw[cell_of_row w8 _ 6 _ _ _ hX];rfl
   have Ti:w8.cell? ⟨X,7,none⟩=some (.slice p8 b'.rws.length qH):=by rw[cell_of_row w8 _ 7 _ _ _ hX];rfl
   have CB:=DJ w8 _ D b' je HZ.out;rw[Ze.out] at CB;clear CE K7 jd k8;go_wp2_with fail
   refine CB.mono ?_;rintro e w9 ⟨rfl,k9⟩;clear Tg RJ Sh RK RM Si Th Ti;go_wp2;go_ret;exact⟨rfl,K8.trans k9⟩
  ·
   have hp1:¬((Ae D b').length:Int)=0:=by omega
   have hd:decide ((Ae D b').length=0)=false:=by simpa using hp0
   rw[hd] at CE;have e0:(((Ae D b').length:Int)==0)=false:=by simpa using hp1
   rcases hcp with h0|⟨bp,op',rfl,hbp,hcp⟩
   . exfalso;rw[h0] at hp0;simp at hp0
   have lu:bp≠X:=fun e=>by have:=hbl bp rfl;omega
   clear hd hbl HE;go_wp2_with (first|refine wpList_load_row rfl 30 _ rfl X rfl 30 _ (0,0) _ hX Tryz.underlying30 rfl AF ?_|fail)
   refine CE.mono ?_;rintro e w8 ⟨rfl,k8⟩;have K8:=K7.trans k8;have s8:=k8.size;replace hX:=(Below.block k8 X (by omega)).trans hX;have je:=jd.keep k8;have Tg:w8.cell? ⟨X,0,none⟩=some (.slice qB D.length qK):=by rw[cell_of_row w8 _ 0 _ _ _ hX];rfl
   have RJ:w8.cell? ⟨X,1,none⟩=some (.slice pz b'.AM.length qG):=by rw[cell_of_row w8 _ 1 _ _ _ hX];rfl
   have Sh:w8.cell? ⟨X,2,none⟩=some (.slice pY b'.AQ.length qE):=by rw[cell_of_row w8 _ 2 _ _ _ hX];rfl
   have RK:w8.cell? ⟨X,3,none⟩=some (.slice pu b'.AH.length Yc):=by rw[cell_of_row w8 _ 3 _ _ _ hX];rfl
   have RM:w8.cell? ⟨X,4,none⟩=some (.slice qC b'.AL.length qM):=by rw[cell_of_row w8 _ 4 _ _ _ hX];rfl
   have Si:w8.cell? ⟨X,5,none⟩=some (.slice p9 b'.sn.length qJ):=by rw[cell_of_row w8 _ 5 _ _ _ hX];rfl
   have Th:w8.cell? ⟨X,6,none⟩=some (.slice pX b'.fr.length qD):=by rw[cell_of_row w8 _ 6 _ _ _ hX];rfl
   have Ti:w8.cell? ⟨X,7,none⟩=some (.slice p8 b'.rws.length qH):=by rw[cell_of_row w8 _ 7 _ _ _ hX];rfl
   have CB:=DJ w8 _ D b' je HZ.out;rw[Ze.out] at CB;clear CE K7 jd;go_wp2_with fail
   refine CB.mono ?_;rintro e w9 ⟨rfl,k9⟩;have K9:=K8.trans k9;have s9:=k9.size;replace hX:=(Below.block k9 X (by omega)).trans hX;have wm:=je.keep k9;obtain⟨PF,qp⟩:∃PF:Nat->Int,Hid (∀j,PF j=(Ae D b').getD j 0):=⟨fun j=>(Ae D b').getD j 0,Lib.hid (fun _=>rfl)⟩;have hc9:∀j,j<(Ae D b').length->w9.cell? ⟨bp,op'+j,none⟩=some (.int .i64 (PF j)):=fun j hj=>by rw[qp.out j];exact ((k8.trans k9).cell hbp).trans (hcp j hj)
   have ze:X<w9.heap.size:=by omega
   clear CB je hcp k8 k9 K8 Tg RJ Sh RK RM Si Th Ti;have yX0:w9.cell? ⟨X,0,none⟩=some (.slice qB D.length qK):=by rw[cell_of_row w9 _ 0 _ _ _ hX];rfl
   have iH:w9.cell? ⟨X,1,none⟩=some (.slice pz b'.AM.length qG):=by rw[cell_of_row w9 _ 1 _ _ _ hX];rfl
   have vg:w9.cell? ⟨X,2,none⟩=some (.slice pY b'.AQ.length qE):=by rw[cell_of_row w9 _ 2 _ _ _ hX];rfl
   have aI:w9.cell? ⟨X,3,none⟩=some (.slice pu b'.AH.length Yc):=by rw[cell_of_row w9 _ 3 _ _ _ hX];rfl
   have nZ:w9.cell? ⟨X,4,none⟩=some (.slice qC b'.AL.length qM):=by rw[cell_of_row w9 _ 4 _ _ _ hX];rfl
   have vk:w9.cell? ⟨X,5,none⟩=some (.slice p9 b'.sn.length qJ):=by rw[cell_of_row w9 _ 5 _ _ _ hX];rfl
   have yX6:w9.cell? ⟨X,6,none⟩=some (.slice pX b'.fr.length qD):=by rw[cell_of_row w9 _ 6 _ _ _ hX];rfl
   have yX7:w9.cell? ⟨X,7,none⟩=some (.slice p8 b'.rws.length qH):=by rw[cell_of_row w9 _ 7 _ _ _ hX];rfl
   go_upto_region 18 with fail
   have KD:AC w9 w9.drew:=(AC.refl w9).drew;have qh:bp<w9.drew.heap.size:=by show bp<w9.heap.size;omega
   have zX0:w9.drew.cell? ⟨X,0,none⟩=some (.slice qB D.length qK):=yX0;have zZ:w9.drew.cell? ⟨X,1,none⟩=some (.slice pz b'.AM.length qG):=iH;have zX2:w9.drew.cell? ⟨X,2,none⟩=some (.slice pY b'.AQ.length qE):=vg;have za:w9.drew.cell? ⟨X,3,none⟩=some (.slice pu b'.AH.length Yc):=aI;have zX4:w9.drew.cell? ⟨X,4,none⟩=some (.slice qC b'.AL.length qM):=nZ;have zX5:w9.drew.cell? ⟨X,5,none⟩=some (.slice p9 b'.sn.length qJ):=vk;have zX6:w9.drew.cell? ⟨X,6,none⟩=some (.slice pX b'.fr.length qD):=yX6;have zX7:w9.drew.cell? ⟨X,7,none⟩=some (.slice p8 b'.rws.length qH):=yX7;refine wp_region_held_drew (S:=(fun w'=>∀j,j<(Ae D b').length->w'.cell? ⟨bp,op'+j,none⟩=some (.int .i64 (PF j)))) (by kernel_rfl) ?_ (fun hHeld=>?_)
   . exact hc9
   refine AO 1 66 (v:=?_) ?_ ?_;rotate_left
   ·
    intro wx hSw;go_simp;with_reducible rfl
   simp only[Act.put,List.setIfInBounds_toArray,List.set_cons_zero,List.set_cons_succ];refine AO 2 67 (v:=?_) ?_ ?_;rotate_left
   ·
    intro wx hSw;go_simp;with_reducible rfl
   simp only[Act.put,List.setIfInBounds_toArray,List.set_cons_zero,List.set_cons_succ];refine AO 3 68 (v:=?_) ?_ ?_;rotate_left
   ·
    intro wx hSw;go_simp;with_reducible rfl
   simp only[Act.put,List.setIfInBounds_toArray,List.set_cons_zero,List.set_cons_succ];refine AO 4 69 (v:=?_) ?_ ?_;rotate_left
   ·
    intro wx hSw;go_simp;with_reducible rfl
   simp only[Act.put,List.setIfInBounds_toArray,List.set_cons_zero,List.set_cons_succ];refine AO 5 70 (v:=?_) ?_ ?_;rotate_left
   ·
    intro wx hSw;go_simp;with_reducible rfl
   simp only[Act.put,List.setIfInBounds_toArray,List.set_cons_zero,List.set_cons_succ];refine wpAnyH_ready (rs:=[0,6]) (by kernel_rfl) (by simp) ?_;refine AllReadyH.cons rfl (fun K hK=>?_) (AllReadyH.cons rfl (fun K hK=>?_) AllReadyH.nil)
   ·
    go_simp;refine hK.out _ _ ?_ (fun hHeld=>?_)
    . exact hHeld
    clear hK K;refine wpAnyH_ready (rs:=[6]) (by kernel_rfl) (by simp) ?_;refine AllReadyH.cons rfl (fun K hK=>?_) AllReadyH.nil;go_simp;refine (Np _ _ a0 cap0 zs (Ms.vI hrd (K9.trans KD)) hz12 (k:Int) ((Ae D b').length:Int) (by omega) (by omega) (by omega) (by omega)).mono ?_;rintro e v5 ⟨m,rfl,m0,m1,rfl⟩;go_wp2_with fail
    refine hK.out _ _ ?_ (fun hHeld=>?_)
    . exact hHeld
    clear hK K;obtain⟨mn,hmn0⟩:=Int.eq_ofNat_of_zero_le m0;subst hmn0;have hmn:mn<(Ae D b').length:=by omega
    have j1:(0:Int)<=(mn:Int):=Int.natCast_nonneg _;have j2:(mn:Int)<((Ae D b').length:Int):=by omega
    refine AO 7 72 (v:=?_) ?_ ?_;rotate_left
    ·
     intro wx hSw;go_simp;with_reducible rfl
    simp only[Act.put,List.setIfInBounds_toArray,List.set_cons_zero,List.set_cons_succ];refine AO 8 73 (v:=?_) ?_ ?_;rotate_left
    ·
     intro wx hSw;have hat:=hSw mn hmn;go_simp;with_reducible rfl
    simp only[Act.put,List.setIfInBounds_toArray,List.set_cons_zero,List.set_cons_succ];obtain⟨st,hst⟩:∃st,st=PF mn:=⟨_,rfl⟩;rw[<-hst];have hs:Dx (Ae D b') st=true:=by rw[hst,qp.out mn];exact TH hmn
    clear hst;have Xy:=DM w9.drew _ D b' st (wm.keep KD) HZ.out;rw[show FT D b'=D by rw[FT,if_pos Ze.out],show Em D b' st=Aq D (AB D) b' st by rw[Em,if_pos Ze.out,EA,if_pos hs],show Gy D b' st=true by rw[Gy,Ze.out,hs];rfl] at Xy;have G6:=Lib.hid (wI.out.step HW.out hs);obtain⟨nb,hnb⟩:∃nb,nb=Aq D (AB D) b' st:=⟨_,rfl⟩;rw[<-hnb] at Xy G6;clear hnb hs;refine wpAnyH_ready (rs:=[9]) (by kernel_rfl) (by simp) ?_;refine AllReadyH.cons rfl (fun K hK=>?_) AllReadyH.nil;go_simp;refine Xy.mono ?_;rintro e w10 ⟨bv6,rfl,f6,k6⟩;obtain⟨YU,YQ,YO,YP,YV,YS,YN,YR,cW6,cP6,cL6,cN'6,cX6,cT6,cF6,cR6,rfl⟩:=f6.rd.shapes;have hX10:=(Below.block (KD.trans k6) X ze).trans hX;have K10:=(K9.trans KD).trans k6;have s10:=(KD.trans k6).size;have hS10:=fun j hj=>(k6.cell qh).trans (hHeld j hj)
    go_wp2_with fail
    refine hK.out _ _ ?_ (fun hHeld=>?_)
    . exact hS10
    clear hK K Xy;refine AO 10 64 (v:=?_) ?_ ?_;rotate_left
    ·
     intro wx hSw;go_simp;with_reducible rfl
    simp only[Act.put,List.setIfInBounds_toArray,List.set_cons_zero,List.set_cons_succ];refine AO 11 75 (v:=?_) ?_ ?_;rotate_left
    ·
     intro wx hSw;go_simp;with_reducible rfl
    simp only[Act.put,List.setIfInBounds_toArray,List.set_cons_zero,List.set_cons_succ];refine AO 12 76 (v:=?_) ?_ ?_;rotate_left
    ·
     intro wx hSw;go_simp;with_reducible rfl
    simp only[Act.put,List.setIfInBounds_toArray,List.set_cons_zero,List.set_cons_succ];have HG:=Lib.hid (AV w10 X #[.slice YU D.length cW6,.slice YQ nb.AM.length cP6,.slice YO nb.AQ.length cL6,.slice YP nb.AH.length cN'6,.slice YV nb.AL.length cX6,.slice YS nb.sn.length cT6,.slice YN nb.fr.length cF6,.slice YR nb.rws.length cR6]);have qw:=Lib.hid (setRow_heap w10 X _ #[.slice YU D.length cW6,.slice YQ nb.AM.length cP6,.slice YO nb.AQ.length cL6,.slice YP nb.AH.length cN'6,.slice YV nb.AL.length cX6,.slice YS nb.sn.length cT6,.slice YN nb.fr.length cF6,.slice YR nb.rws.length cR6] _ _ hX10);have HK6:=Lib.hid (K10.grown HG.out (fun q hq=>by have:=Option.some.inj hq;have:=HX0.out;omega));have HR6:=Lib.hid (f6.above (fun q hq hq2=>HG.out.block q hq2 (fun e=>by have:=Option.some.inj e;have hq':w9.heap.size<=q:=hq;omega)) HG.out.size).rd;have hS11:∀j,j<(Ae D b').length->(w10.setRow X #[.slice YU D.length cW6,.slice YQ nb.AM.length cP6,.slice YO nb.AQ.length cL6,.slice YP nb.AH.length cN'6,.slice YV nb.AL.length cX6,.slice YS nb.sn.length cT6,.slice YN nb.fr.length cF6,.slice YR nb.rws.length cR6]).cell? ⟨bp,op'+j,none⟩=some (.int .i64 (PF j)):=fun j hj=>(World.cell?_of_block (HG.out.block bp (by have:bp<w9.heap.size:=qh;omega) (fun e=>lu (Option.some.inj e)))).trans (hS10 j hj)
    refine wpAnyH_ready (rs:=[13]) (by kernel_rfl) (by simp) ?_;refine AllReadyH.cons rfl (fun K hK=>?_) AllReadyH.nil;rw[if_pos (by simp[Region.wanted])];refine wp_store_row 30 _ _ rfl X _ rfl rfl 30 _ hX10 AF rfl (by simp[Value.oneCell']) ?_;refine hK.out _ _ ?_ (fun hHeld=>?_)
    . exact hS11
    clear hK K hHeld hS10 hS11 f6 hX10 K10;refine wpAnyH_done (by kernel_rfl) ?_ _;simp only[Act.put];go_wp2;go_roundw;case rel=>exact⟨k+1,⟨.slice YU D.length cW6,.slice YQ nb.AM.length cP6,.slice YO nb.AQ.length cL6,.slice YP nb.AH.length cN'6,.slice YV nb.AL.length cX6,.slice YS nb.sn.length cT6,.slice YN nb.fr.length cF6,.slice YR nb.rws.length cR6⟩,nb,by push_cast;rfl,G6.out,HR6.out,qw.out,HK6.out⟩
    case measure=>simp[intOf];omega
   ·
    go_simp;refine (Np _ _ a0 cap0 zs (Ms.vI hrd (K9.trans KD)) hz12 (k:Int) ((Ae D b').length:Int) (by omega) (by omega) (by omega) (by omega)).mono ?_;rintro e v5 ⟨m,rfl,m0,m1,rfl⟩;go_wp2_with fail
    refine hK.out _ _ ?_ (fun hHeld=>?_)
    . exact hHeld
    clear hK K;obtain⟨mn,hmn0⟩:=Int.eq_ofNat_of_zero_le m0;subst hmn0;have hmn:mn<(Ae D b').length:=by omega
    have j1:(0:Int)<=(mn:Int):=Int.natCast_nonneg _;have j2:(mn:Int)<((Ae D b').length:Int):=by omega
    refine AO 7 72 (v:=?_) ?_ ?_;rotate_left
    ·
     intro wx hSw;go_simp;with_reducible rfl
    simp only[Act.put,List.setIfInBounds_toArray,List.set_cons_zero,List.set_cons_succ];refine AO 8 73 (v:=?_) ?_ ?_;rotate_left
    ·
     intro wx hSw;have hat:=hSw mn hmn;go_simp;with_reducible rfl
    simp only[Act.put,List.setIfInBounds_toArray,List.set_cons_zero,List.set_cons_succ];refine wpAnyH_ready (rs:=[0]) (by kernel_rfl) (by simp) ?_;refine AllReadyH.cons rfl (fun K hK=>?_) AllReadyH.nil;go_simp;refine hK.out _ _ ?_ (fun hHeld=>?_)
    . exact hHeld
    clear hK K;obtain⟨st,hst⟩:∃st,st=PF mn:=⟨_,rfl⟩;rw[<-hst];have hs:Dx (Ae D b') st=true:=by rw[hst,qp.out mn];exact TH hmn
    clear hst;have Xy:=DM w9.drew _ D b' st (wm.keep KD) HZ.out;rw[show FT D b'=D by rw[FT,if_pos Ze.out],show Em D b' st=Aq D (AB D) b' st by rw[Em,if_pos Ze.out,EA,if_pos hs],show Gy D b' st=true by rw[Gy,Ze.out,hs];rfl] at Xy;have G6:=Lib.hid (wI.out.step HW.out hs);obtain⟨nb,hnb⟩:∃nb,nb=Aq D (AB D) b' st:=⟨_,rfl⟩;rw[<-hnb] at Xy G6;clear hnb hs;refine wpAnyH_ready (rs:=[9]) (by kernel_rfl) (by simp) ?_;refine AllReadyH.cons rfl (fun K hK=>?_) AllReadyH.nil;go_simp;refine Xy.mono ?_;rintro e w10 ⟨bv6,rfl,f6,k6⟩;obtain⟨YU,YQ,YO,YP,YV,YS,YN,YR,cW6,cP6,cL6,cN'6,cX6,cT6,cF6,cR6,rfl⟩:=f6.rd.shapes;have hX10:=(Below.block (KD.trans k6) X ze).trans hX;have K10:=(K9.trans KD).trans k6;have s10:=(KD.trans k6).size;have hS10:=fun j hj=>(k6.cell qh).trans (hHeld j hj)
    go_wp2_with fail
    refine hK.out _ _ ?_ (fun hHeld=>?_)
    . exact hS10
    clear hK K Xy;refine AO 10 64 (v:=?_) ?_ ?_;rotate_left
    ·
     intro wx hSw;go_simp;with_reducible rfl
    simp only[Act.put,List.setIfInBounds_toArray,List.set_cons_zero,List.set_cons_succ];refine AO 11 75 (v:=?_) ?_ ?_;rotate_left
    ·
     intro wx hSw;go_simp;with_reducible rfl
    simp only[Act.put,List.setIfInBounds_toArray,List.set_cons_zero,List.set_cons_succ];refine AO 12 76 (v:=?_) ?_ ?_;rotate_left
    ·
     intro wx hSw;go_simp;with_reducible rfl
    simp only[Act.put,List.setIfInBounds_toArray,List.set_cons_zero,List.set_cons_succ];have HG:=Lib.hid (AV w10 X #[.slice YU D.length cW6,.slice YQ nb.AM.length cP6,.slice YO nb.AQ.length cL6,.slice YP nb.AH.length cN'6,.slice YV nb.AL.length cX6,.slice YS nb.sn.length cT6,.slice YN nb.fr.length cF6,.slice YR nb.rws.length cR6]);have qw:=Lib.hid (setRow_heap w10 X _ #[.slice YU D.length cW6,.slice YQ nb.AM.length cP6,.slice YO nb.AQ.length cL6,.slice YP nb.AH.length cN'6,.slice YV nb.AL.length cX6,.slice YS nb.sn.length cT6,.slice YN nb.fr.length cF6,.slice YR nb.rws.length cR6] _ _ hX10);have HK6:=Lib.hid (K10.grown HG.out (fun q hq=>by have:=Option.some.inj hq;have:=HX0.out;omega));have HR6:=Lib.hid (f6.above (fun q hq hq2=>HG.out.block q hq2 (fun e=>by have:=Option.some.inj e;have hq':w9.heap.size<=q:=hq;omega)) HG.out.size).rd;have hS11:∀j,j<(Ae D b').length->(w10.setRow X #[.slice YU D.length cW6,.slice YQ nb.AM.length cP6,.slice YO nb.AQ.length cL6,.slice YP nb.AH.length cN'6,.slice YV nb.AL.length cX6,.slice YS nb.sn.length cT6,.slice YN nb.fr.length cF6,.slice YR nb.rws.length cR6]).cell? ⟨bp,op'+j,none⟩=some (.int .i64 (PF j)):=fun j hj=>(World.cell?_of_block (HG.out.block bp (by have:bp<w9.heap.size:=qh;omega) (fun e=>lu (Option.some.inj e)))).trans (hS10 j hj)
    refine wpAnyH_ready (rs:=[13]) (by kernel_rfl) (by simp) ?_;refine AllReadyH.cons rfl (fun K hK=>?_) AllReadyH.nil;rw[if_pos (by simp[Region.wanted])];refine wp_store_row 30 _ _ rfl X _ rfl rfl 30 _ hX10 AF rfl (by simp[Value.oneCell']) ?_;refine hK.out _ _ ?_ (fun hHeld=>?_)
    . exact hS11
    clear hK K hHeld hS10 hS11 f6 hX10 K10;refine wpAnyH_done (by kernel_rfl) ?_ _;simp only[Act.put];go_wp2;go_roundw;case rel=>exact⟨k+1,⟨.slice YU D.length cW6,.slice YQ nb.AM.length cP6,.slice YO nb.AQ.length cL6,.slice YP nb.AH.length cN'6,.slice YV nb.AL.length cX6,.slice YS nb.sn.length cT6,.slice YN nb.fr.length cF6,.slice YR nb.rws.length cR6⟩,nb,by push_cast;rfl,G6.out,HR6.out,qw.out,HK6.out⟩
    case measure=>simp[intOf];omega
set_option maxRecDepth 100000 in
theorem lifted (os:Os)(started:os.Started)(H:Type)(enc:TypeId×Value->H):
  ReturnsInHanded {} Tryz.checked os 5 .any (Rows.fnGoesOnSpec.pre6 enc Tryz.prog Tryz.f5 Rows.fnGoesOnRow.domain false) (Rows.fnGoesOnSpec.post enc Tryz.prog Tryz.f5 false true false false):=by
 refine returnsInHanded_of_change (C:=Tryz.checked) own started (by kernel_rfl) Tryz.func5
  (ChangeSpec.witness6 (enc:=enc) (C:=Tryz.checked) false ⟨#[],#[.slice none 0 0],[]⟩ 8 (by kernel_rfl) (by kernel_rfl) (by kernel_rfl) (by kernel_rfl)) ?_
 intro W base args ds gs before hval0 hW hcnd _;have hval:∀(j:Nat) t v,Tryz.f5.params[j]? = some t->args[j]? = some v->Value.okWide Tryz.prog W .any base t v:=hval0;have hW':=hW;obtain⟨p,q,hA0,hV,rfl,hfz,hnd⟩:=hW;have hA:DataW.TrodAll enc Tryz.prog W 0 (fun _=>true) true Tryz.f5.params.toList args.toList ds p:=hA0;rw[Tryz.params5] at hA hval;obtain⟨v0,vs0,d0,ds0,p0,q0,hargs,rfl,rfl,h0,r0⟩:=trodAll_cons hA;obtain⟨rfl,rfl,rfl⟩:=trodAll_nil r0;obtain rfl:args=#[v0]:=by cases args;simp_all
 obtain⟨rfl,rfl⟩:=trodVars_none hV;have k0:=h0;have lt0:∀x∈p0,x.block<W.heap.size:=by obtain⟨m,hm⟩:=k0;exact DataW.trod_lt m _ _ _ hm
 obtain⟨a0,len0,cap0,rfl⟩:=okWide_slice Tryz.underlying22 (hval 0 22 v0 rfl rfl)
 obtain⟨z0,w0⟩:∃zs,IsRow .u8 W a0 len0 cap0 zs:=by
  obtain⟨fuel,hf⟩:=h0;rcases open_ints Tryz.underlying22 Tryz.underlying5 (by kernel_rfl) hf with ⟨hcs,_⟩|⟨x,l,c,zs,hcs,_,hl,hm,hz,_,hcell,hwz⟩
  ·
   simp[Value.cells] at hcs;obtain⟨rfl,rfl,rfl⟩:=hcs;exact⟨[],.inl ⟨rfl,rfl,rfl,rfl⟩⟩
  ·
   simp[Value.cells] at hcs;obtain⟨rfl,rfl,rfl⟩:=hcs;exact⟨zs,.inr ⟨_,rfl,hl,hm,by simpa using hz,hcell,hwz⟩⟩
 clear hA0 hval0;refine (walk a0 len0 cap0 z0 W w0).mono fun e W' ⟨he,kK⟩=>?_
 subst he;exact⟨_,rfl,_,_,_,[],_,[],hW',trodAll_mk1 (shut_bool Tryz.underlying4 _),(trodAll_cons_mk (Below.trod laidOut (by kernel_rfl) (of_decide_eq_true (by kernel_rfl)) k0 kK lt0) trodAll_mk0),rfl,kK.frame _,fun h=>by cases h⟩
theorem over:Rows.fnGoesOnRow.holds Tryz.pinned (OpenSpec.ofChange Rows.fnGoesOnSpec):=
 OpenClaim.holds_of_wide 5 Tryz.f5 rfl rfl rfl rfl rfl rfl rfl ⟨rfl,rfl,rfl,rfl,rfl⟩ rfl rfl rfl rfl rfl (by kernel_rfl) Tryz.func5 (by kernel_rfl)
  (of_decide_eq_true (by kernel_rfl)) (by unfold Func.isWrapper;first|(rw[if_pos (by decide +kernel)];kernel_rfl)|(rw[if_neg (by decide +kernel)];exact⟨rfl,rfl⟩))
  (fun os started H enc _=>lifted os started H enc)
#print axioms over
end Go.Proofs.YtgakfkjjkobpiaaGreat.fnGoesOn
namespace Go.Proofs.YtgakfkjjkobpiaaGreat
theorem fnGoesOn_holds:Rows.FnGoesOnSaid:=fnGoesOn.over
end Go.Proofs.YtgakfkjjkobpiaaGreat
