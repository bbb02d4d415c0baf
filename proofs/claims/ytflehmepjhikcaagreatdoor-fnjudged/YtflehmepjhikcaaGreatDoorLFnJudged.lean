/- At every string of bytes the law FnJudged answers true and its argument stays. -/
import Derived.Test.YtflehmepjhikcaaGreatDoorRows
import Derived.Test.YtflehmepjhikcaaGreatDoorTie
import Derived.Test.YtflehmepjhikcaaGreatDoorCards
import Derived.SevenTiedAt
import Derived.LaidMore
import Derived.Stop.Joined
import Derived.Stop.LaidErr
import Derived.HandedShaped
import Derived.Shelf.Vars
import Derived.WalkKit
import Derived.ProofKit
import Derived.OpenShut
import Derived.ShutString
import Derived.ChangeOld
import Derived.Below
import Derived.Test.YtflehmepjhikcaaGreatDoorMW
import Derived.Test.YtflehmepjhikcaaGreatDoorNF
import Derived.Test.YtflehmepjhikcaaGreatDoorNC
import Derived.Deep.Cut
import Derived.Deep.RegionHeld3
namespace Go.Proofs.YtflehmepjhikcaaGreatDoor.fnJudged
open Go.ChangeShapes Go.WideShapes Go.ChangeAt Go.RowKit
open Go.ChangeMaps (open_string shut_string)
set_option linter.unusedVariables false
theorem own:ownKnob Tryz.prog.godebug=none:=by kernel_rfl
theorem laidOut:laidOutB Tryz.prog=true:=by kernel_rfl
def IsRow (k:IntKind)(w:World)(a:Option Addr)(len cap:Nat)(zs:List Int):Prop:=
 (a=none/\len=0/\cap=0/\zs=[]) \/
 ∃x,a=some x/\len<=cap/\cap<=maxLen/\zs.length=cap/\(∀i,i<zs.length->w.cell? (x.add i)=some (.int k (zs.getD i 0)))/\∀n∈zs,(Lit.int k n).wf=true
set_option maxRecDepth 100000 in
set_option maxHeartbeats 8000000 in
theorem walk (a0:Option Addr)(len0 cap0:Nat)(z0:List Int)(w:World)(w0:IsRow .u8 w a0 len0 cap0 z0)(hno:∃a,w.cell? ⟨0,0,none⟩=some (.iface 234 (.pointer (some a))))(hnx:∃a,w.cell? ⟨2,0,none⟩=some (.iface 234 (.pointer (some a))))(hun:∃a,w.cell? ⟨3,0,none⟩=some (.iface 234 (.pointer (some a))))(jP:w.cell? ⟨1,0,none⟩=some (.iface 138 (.agg #[.pointer (some ⟨4,57,none⟩)]))):
  Calls Tryz.prog 3 #[.slice a0 len0 cap0] w fun e w'=>e = .returned (.bool true)/\Below w.heap.size w w':=by
 obtain⟨eA,hno⟩:=hno;obtain⟨eB,hnx⟩:=hnx;obtain⟨eC,hun⟩:=hun;have XN:Hid (Rk w eA eB eC):=AI ⟨hno,hnx,hun⟩;have XH:=AI jP;clear hno hnx hun jP;by_cases hbig:4096<len0
 ·
  have hbb:decide (4096<len0)=true:=by simpa using hbig
  go_enter Tryz.func3,Tryz.ntmps3
  go_wp2_with (go_at_call 5;refine (VB _ _ _ _).mono ?_;rintro e w' ⟨rfl,rfl⟩)
  go_ret;exact⟨rfl,Below.refl _ _⟩
 have hbb:decide (4096<len0)=false:=by simpa using hbig
 obtain⟨zs,hzl,hrd⟩:∃zs:List Int,zs.length=len0/\Oi w w.heap.size a0 zs:=Uj (by omega) w0;have hz12:zs.length<=4096:=by omega
 subst hzl;clear w0 hbig;have XD:=AI (fun (W:World) (k:AC w W)=>Om W a0 cap0 zs (Oi.up hrd k));go_enter Tryz.func3,Tryz.ntmps3
 go_wp2_with fail
 refine (VB _ _ _ _).mono ?_;rintro e w' ⟨rfl,rfl⟩;go_wp2_with fail
 refine (M9 _ a0 cap0 zs hrd).mono ?_;rintro e w1 ⟨v,uR,uV,AA,rs,vs,rfl,rW,⟨q1,q2⟩,hR,hV,⟨lr,lv⟩,K1⟩;have hx:AA.length<=1048576:=by omega
 have HM:Hid (∀i,i<AA.length->(AA.getD i []).length<=1048576):=AI (fun i hi=>by have:=q2 i hi;omega);obtain⟨aR,cR,rfl,-⟩:=id hR;obtain⟨aV,cV,rfl,-⟩:=id hV;go_upto_region 4 with fail
 obtain⟨w2,hw2⟩:∃W:World,W=w1.alloc (Cp (.slice aR rs.length cR) (.slice aV vs.length cV)):=⟨_,rfl⟩;have k2:AC w1 w2:=by rw[hw2];exact (AC.refl _).alloc _
 have x0:w2.cell? ⟨w1.heap.size,0,none⟩=some (.slice aR rs.length cR):=by rw[hw2];exact AO (AC.refl _) 0
 have x1:w2.cell? ⟨w1.heap.size,1,none⟩=some (.slice aV vs.length cV):=by rw[hw2];exact AO (AC.refl _) 1
 have xl:w1.heap.size<w2.heap.size:=by rw[hw2,AD];omega
 rw[show w1.alloc (.cells #[.slice aR rs.length cR,.slice aV vs.length cV] 27)=w2 from hw2.symm];obtain⟨X,hX⟩:∃X,X=w1.heap.size:=⟨_,rfl⟩;rw[<-hX] at x0 x1 xl ⊢;have HRW:=AI (rW.keep k2);have HR:=AI (hR.keep k2);have HV:=AI (hV.keep k2);have yA:=AI (K1.trans k2);have lr2:rs.length<=1048576:=by omega
 have lv2:vs.length<=2097152:=by omega
 have XN2:=AI (XN.out.keep yA.out);have xu:=AI (Dc XH.out yA.out);clear XN XH;have CJ:=GK w2 v _ _ AA rs vs eA eB eC XN2.out xu.out HRW.out HR.out HV.out hx HM.out (by omega) lv2;clear hw2 hX k2 K1 rW hR hV q1 q2 lr lv hbb;go_wp2_with fail
 refine CJ.mono ?_;rintro e w3 ⟨n,al,rfl,hj,k3⟩;have HJ:=AI hj;replace x0:=(k3.cell xl).trans x0;replace x1:=(k3.cell xl).trans x1;replace xl:=KAC xl k3.size;have K3:=AI k3;have CD:=XD.out w3 (yA.out.trans k3);clear CJ hj k3 XD;go_wp2_with fail
 refine CD.mono ?_;rintro e w4 ⟨vq,bR,bV,bO,rC,sR,sV,sO,rfl,rQ,⟨q1,q2⟩,hR,hV,⟨lr,lv⟩,hO,lO,k4⟩;have hxq:rC.length<=1048576:=by omega
 have y8:Hid (∀i,i<rC.length->(rC.getD i []).length<=1048576):=AI (fun i hi=>by have:=q2 i hi;omega);obtain⟨aS,cS,rfl,-⟩:=id hR;obtain⟨aU,cU,rfl,-⟩:=id hV;replace x0:=(k4.cell xl).trans x0;replace x1:=(k4.cell xl).trans x1;replace xl:=KAC xl k4.size;go_upto_region 6 with fail
 obtain⟨w5,hw5⟩:∃W:World,W=w4.alloc (Cp (.slice aS sR.length cS) (.slice aU sV.length cU)):=⟨_,rfl⟩;have k5:AC w4 w5:=by rw[hw5];exact (AC.refl _).alloc _
 have y0:w5.cell? ⟨w4.heap.size,0,none⟩=some (.slice aS sR.length cS):=by rw[hw5];exact AO (AC.refl _) 0
 have y1:w5.cell? ⟨w4.heap.size,1,none⟩=some (.slice aU sV.length cU):=by rw[hw5];exact AO (AC.refl _) 1
 have yl:w4.heap.size<w5.heap.size:=by rw[hw5,AD];omega
 rw[show w4.alloc (.cells #[.slice aS sR.length cS,.slice aU sV.length cU] 27)=w5 from hw5.symm];obtain⟨Y,hY⟩:∃X,X=w4.heap.size:=⟨_,rfl⟩;rw[<-hY] at y0 y1 yl ⊢;replace x0:=(k5.cell xl).trans x0;replace x1:=(k5.cell xl).trans x1;replace xl:=KAC xl k5.size;have y9:=AI (rQ.keep k5);have zC:=AI (hR.keep k5);have zF:=AI (hV.keep k5);have zA:=AI (hO.keep k5);have K5:=AI (K3.out.trans (k4.trans k5));have lr3:sR.length<=1048576:=by omega
 have lo3:sO.length<=1048576:=by omega
 obtain⟨M,hM⟩:∃M,M=Cz rC sR sV sO:=⟨_,rfl⟩;have yj:=G8 w5 vq _ _ bO rC sR sV sO eA eB eC (XN2.out.keep K5.out) (Dc xu.out K5.out) y9.out zC.out zF.out zA.out hxq y8.out (by omega) (by omega) lo3;rw[<-hM] at yj;have HMM:=AI hM;clear hw5 hY k4 k5 rQ hR hV hO q1 q2 lr lv lO CD K3 hM;go_wp2_with fail
 refine yj.mono ?_;rintro e w6 ⟨rfl,k6⟩;replace x0:=(k6.cell xl).trans x0;replace x1:=(k6.cell xl).trans x1;replace xl:=KAC xl k6.size;replace y0:=(k6.cell yl).trans y0;replace y1:=(k6.cell yl).trans y1;replace yl:=KAC yl k6.size;have K6:=AI (K5.out.trans k6);have L6:=AI k6;have CJs:=It w6 v _ _ AA rs vs (HRW.out.keep K6.out) (HR.out.keep K6.out) (HV.out.keep K6.out) hx HM.out lr2;clear yj k6 K5;go_wp2_with fail
 refine CJs.mono ?_;rintro e w7 ⟨n',al',rfl,hj,k7⟩;obtain⟨hn,ha⟩:=hj.one HJ.out;subst hn;subst ha;replace x0:=(k7.cell xl).trans x0;replace x1:=(k7.cell xl).trans x1;replace xl:=KAC xl k7.size;replace y0:=(k7.cell yl).trans y0;replace y1:=(k7.cell yl).trans y1;replace yl:=KAC yl k7.size;have K7:=AI (K6.out.trans k7);have L7:=AI (L6.out.trans k7);clear CJs hj k7 K6 L6
 have CM:Hid (∀W,AC w7 W->Calls Tryz.prog 11 #[vq,.agg #[.slice aS sR.length cS,.slice aU sV.length cU],bO] W fun e w'=>e = .returned (.bool M)/\AC W w'):=AI (fun W kW=>by
  rw[HMM.out]
  exact PD W vq _ _ bO rC sR sV sO (y9.out.keep (L7.out.trans kW)) (zC.out.keep (L7.out.trans kW)) (zF.out.keep (L7.out.trans kW)) (zA.out.keep (L7.out.trans kW)) hxq y8.out lr3 lo3)
 obtain⟨A,hA⟩:∃A,A=Db AA rs vs:=⟨_,rfl⟩
 have CA:Hid (∀W,AC w7 W->Calls Tryz.prog 12 #[v,.agg #[.slice aR rs.length cR,.slice aV vs.length cV]] W fun e w'=>e = .returned (.bool A)/\AC W w'):=AI (fun W kW=>by
  rw[hA]
  exact Kl W v _ _ AA rs vs eA (XN2.out.keep (K7.out.trans kW)).no (HRW.out.keep (K7.out.trans kW)) (HR.out.keep (K7.out.trans kW)) (HV.out.keep (K7.out.trans kW)) hx HM.out (by omega) lv2)
 have CB:Hid (∀W,AC w7 W->Calls Tryz.prog 13 #[v,.agg #[.slice aR rs.length cR,.slice aV vs.length cV]] W fun e w'=>e = .returned (.bool A)/\AC W w'):=AI (fun W kW=>by
  rw[hA]
  exact GS W v _ _ AA rs vs (HRW.out.keep (K7.out.trans kW)) (HR.out.keep (K7.out.trans kW)) (HV.out.keep (K7.out.trans kW)) hx HM.out lr2)
 have HA:=AI hA;clear hA;have en:(n' != n')=false:=by simp
 have ea:(al' != al')=false:=by simp
 have eM:(M != M)=false:=by simp
 have eA:(A != A)=false:=by simp
 have z1:X<w7.drew.heap.size:=xl;have t1:Y<w7.drew.heap.size:=yl;go_upto_region 8 with fail
 go_cut [71] from 72 (fun s71 wx=>s71 = .bool false/\AC w7 wx)
 case first=>
  go_wp2_with fail
  go_region_held3 (fun w'=>w'.cell? ⟨X,0,none⟩=some (.slice aR rs.length cR)/\w'.cell? ⟨X,1,none⟩=some (.slice aV vs.length cV)/\w'.cell? ⟨Y,0,none⟩=some (.slice aS sR.length cS)/\w'.cell? ⟨Y,1,none⟩=some (.slice aU sV.length cU))
   (first|go_keep|(go_split_ands;refine⟨?_,?_,?_,?_⟩<;>(rw[kk.cell (by assumption)];assumption)))
   ((first
    | (go_at_call 11;refine (CM.out _ (AC.refl w7).drew).mono ?_;rintro e wx ⟨rfl,kk⟩;have z2:X<wx.heap.size:=KAC z1 kk.size;have t2:Y<wx.heap.size:=KAC t1 kk.size;have k1:=(AC.refl w7).drew.trans kk)
    | (go_at_call 12;refine (CA.out _ k1).mono ?_;clear kk;rintro e wy ⟨rfl,kk⟩;have z3:X<wy.heap.size:=KAC z2 kk.size;have t3:Y<wy.heap.size:=KAC t2 kk.size;have k2:=k1.trans kk)
    | (go_at_call 13;refine (CB.out _ k2).mono ?_;clear kk;rintro e wz ⟨rfl,kk⟩)))
  all_goals
   go_wp2;go_meet;case rel=>exact⟨rfl,k2.trans kk⟩
 case rest=>
  obtain⟨rfl,k8⟩:=hcut;obtain⟨w8,hw8⟩:∃W:World,W=wc:=⟨_,rfl⟩;rw[<-hw8] at k8 ⊢;clear hw8;replace x0:=(k8.cell xl).trans x0;replace x1:=(k8.cell xl).trans x1;replace xl:=KAC xl k8.size;have K8:=AI (K7.out.trans k8);have L8:=AI (yA.out.trans K8.out);have CB8:=AI (fun (W:World) (kW:AC w8 W)=>CB.out W (k8.trans kW));clear CM CA CB k8 y0 y1 yl z1 t1 en ea eM eA HMM zC zF zA y9 y8 K7 L7;cases A
  ·
   obtain⟨hn,ha⟩:=HJ.out.no HA.out.symm;subst hn;subst ha;have CB9:=CB8.out w8 (AC.refl _);go_wp2_with fail
   refine CB9.mono ?_;rintro e w9 ⟨rfl,k9⟩;clear CB9;go_wp2;go_ret;exact⟨rfl,L8.out.trans k9⟩
  ·
   obtain⟨l,el,hn,ha⟩:=HJ.out.is HA.out.symm;obtain⟨N,hN⟩:∃N,N=JV rs vs l l.length:=⟨_,rfl⟩;have hNl:N<=l.length:=by rw[hN];exact Vi _ _ _ _
   rw[<-hN] at hn;have HN:=AI hN;subst hn;subst ha;have EL:=AI el;have hll:l.length<=78125:=el.len;have HWB:Hid (AL AA=true):=AI (PM HA.out.symm);have CE:=RR w8 v AA (HRW.out.keep K8.out) hx HM.out;have hn0:decide ((N:Int)<0)=false:=by rw[decide_eq_false_iff_not];omega
   clear hN el CB8 HJ;go_wp2_with fail
   refine CE.mono ?_;rintro e w9 ⟨ve,l2,rfl,r2,e2,k9⟩;obtain rfl:l2=l:=e2.one EL.out;obtain⟨ae,ce,rfl,hrl⟩:=r2.rd;have XR:=AI hrl;replace x0:=(k9.cell xl).trans x0;replace x1:=(k9.cell xl).trans x1;replace xl:=KAC xl k9.size;have K9:=AI (K8.out.trans k9);have L9:=AI (L8.out.trans k9)
   have CM:Hid (∀(W:World),AC w9 W->∀(u:Value) (i:Nat),i<l2.length->Rd W u (l2.getD i [])->Calls Tryz.prog 9 #[v,.agg #[.slice aR rs.length cR,.slice aV vs.length cV],u] W fun e w'=>e = .returned (.bool (DF rs vs (l2.getD i [])))/\AC W w'):=AI (fun W kW u i hi hu=>by
    rw[<-Xm HA.out.symm EL.out hi]
    exact G8 W v _ _ u AA rs vs (l2.getD i []) eA eB eC (XN2.out.keep (K9.out.trans kW)) (Dc xu.out (K9.out.trans kW)) (HRW.out.keep (K9.out.trans kW)) (HR.out.keep (K9.out.trans kW)) (HV.out.keep (K9.out.trans kW)) hu hx HM.out (by omega) lv2 (KAU (EL.out.lens i hi) (by omega)))
   clear CE r2 e2 k9 hrl K8 L8;go_upto_region 15 with fail
   go_loopw [14,15] (fun s14 i wr=>∃(k n:Nat),k<=l2.length/\i = .int .i64 k/\s14 = .int .i64 n/\n<=k/\Hid (n=JV rs vs l2 k)/\Hid (AC w9 wr)) (fun _ i _=>l2.length-(intOf i).toNat)
   case atStart=>exact⟨0,0,KAb _,rfl,rfl,KAM _,AI rfl,AI (AC.refl _)⟩
   case round=>
    obtain⟨k,n,hk,rfl,rfl,hnk,hn,hK⟩:=hrel;by_cases hlt:k<l2.length
    ·
     rcases XR.out with q|⟨bl,ol,rfl,hbl,dl⟩
     . exfalso;rw[q] at hlt;simp at hlt
     obtain⟨vi,d1,r1⟩:=dl k hlt;have e1:=(hK.out.cell hbl).trans d1;have f0:=(hK.out.cell xl).trans x0;have f1:=(hK.out.cell xl).trans x1;have z0:X<wr.drew.heap.size:=KAC xl hK.out.size;have z1:bl<wr.drew.heap.size:=KAC hbl hK.out.size;have CK:Hid (∀(W:World),AC wr W->Calls Tryz.prog 9 #[v,.agg #[.slice aR rs.length cR,.slice aV vs.length cV],vi] W fun e w'=>e = .returned (.bool (DF rs vs (l2.getD k [])))/\AC W w'):=AI (fun W kW=>CM.out W (hK.out.trans kW) vi k hlt (r1.keep (hK.out.trans kW)));have XS:Hid (JV rs vs l2 (k+1)=JV rs vs l2 k+(if DF rs vs (l2.getD k [])=true then 1 else 0)):=AI rfl;obtain⟨ai,ci,mV,-⟩:=id r1;generalize (l2.getD k []).length=m at mV;obtain⟨B,hB⟩:∃B,B=DF rs vs (l2.getD k []):=⟨_,rfl⟩;rw[<-hB] at CK XS;subst mV;have i1:(0:Int)<=(k:Int):=KAK _;have i2:(k:Int)<(l2.length:Int):=by omega
     have hw1:IntKind.i64.wrap ((n:Int)+1)=(n:Int)+1:=by rw[KAk];omega
     clear dl d1 r1 hB x0 x1 CM;go_upto_region 17 with fail
     go_cut [96] from 97 to 98 (fun s96 wx=>s96 = .bool B/\AC wr wx)
     case first=>
      go_region_held3 (fun w'=>w'.cell? ⟨X,0,none⟩=some (.slice aR rs.length cR)/\w'.cell? ⟨X,1,none⟩=some (.slice aV vs.length cV)/\w'.cell? ⟨bl,ol+k,none⟩=some (.slice ai m ci))
       (first|go_keep|(go_split_ands;refine⟨?_,?_,?_⟩<;>(rw[kk.cell (by assumption)];assumption)))
       ((go_at_call 9;refine (CK.out _ (AC.refl wr).drew).mono ?_;rintro e wz ⟨rfl,kk⟩))
      all_goals
       go_wp2;go_meet;case rel=>exact⟨rfl,(AC.refl wr).drew.trans kk⟩
     case rest=>
      obtain⟨rfl,kc⟩:=hcut;have XC:=AI (hK.out.trans kc);clear kc e1 f0 f1 z0 z1 CK;cases B
      ·
       go_wp2;go_roundw;case rel=>exact⟨k+1,n,by omega,by go_num,rfl,by omega,AI (by rw[XS.out,KAQ (by simp),<-hn.out];rfl),AI XC.out⟩
       case measure=>simp[intOf];omega
      ·
       go_wp2;go_roundw;case rel=>exact⟨k+1,n+1,by omega,by go_num,by go_num,by omega,AI (by rw[XS.out,KAP rfl,<-hn.out]),AI XC.out⟩
       case measure=>simp[intOf];omega
    ·
     obtain rfl:k=l2.length:=by omega
     obtain rfl:n=N:=by rw[hn.out,HN.out]
     have CN:=GK wr v Ac Ac AA [] [] eA eB eC (XN2.out.keep (K9.out.trans hK.out)) (Dc xu.out (K9.out.trans hK.out)) (HRW.out.keep (K9.out.trans hK.out)) (V9 _) (V9 _) hx HM.out (by simp) (by simp);clear x0 x1 xl CM;go_wp2_with fail
     refine CN.mono ?_;rintro e w10 ⟨p,q,rfl,hj,k10⟩;obtain⟨hp,hq⟩:=hj.nil HWB.out EL.out;subst hp;subst hq;clear CN hj;have g1:(n:Int)<=(l2.length:Int):=by omega
     go_wp2;go_ret;exact⟨rfl,L9.out.trans (hK.out.trans k10)⟩
abbrev laidL : List (String × DataW Unit) := [("errors.errorType", Rows.laid_errors_errorType), ("loop.example/g00411/impl.errNoAsk", Rows.laid_loop_example_g00411_impl_errNoAsk), ("loop.example/g00411/impl.errNoOutcome", Rows.laid_loop_example_g00411_impl_errNoOutcome), ("loop.example/g00411/impl.errUnmet", Rows.laid_loop_example_g00411_impl_errUnmet)]
theorem door_met (os:Os)(args:Array Value):laidMetH Tryz.prog laidL ((World.doorLaid Tryz.prog 4000 os).forCall (fun _ _=>0) ⟨#[],args,[]⟩).memory:=
 laidMetH_of_parts3 (fuel:=8) (laidMet_of_run' 8 (by kernel_rfl) (by kernel_rfl)) (by kernel_rfl) (by kernel_rfl)
theorem returns_laid_shaped {H:Type}{enc:TypeId×Value->H}{a:Assume}{C:Checked}{os:Os}{f:FuncId}{fn:Func}{s:ChangeSpec}{conds:List PathCond}{apart fresh handsOn again:Bool}{X:World->Array Value->Prop}
  (hX:∀(w w':World) (args:Array Value),w.heap=w'.heap->X w args->X w' args)
  (own:ownKnob C.prog.godebug=none) (started:os.Started) (noInit:C.prog.inits.idxOf? f=none) (hfn:C.prog.funcs[f]? = some fn)
  (witness:∃(w:World) (tape:Tape) (i:Input),w.os=os/\(w.forCall tape i).Shaped C.prog/\i.vars=[]/\Input.okWide C.prog (w.forCall tape i) .any w.heap.size f i /\
   ((s.pre enc C.prog fn conds apart (w.forCall tape i).memory i.args/\X (w.forCall tape i).memory i.args)/\sizedMet enc C.prog fn (OpenSpec.ofChange s) apart (w.forCall tape i).memory i.args)/\a.holds C.prog (lone (Frame.enter C.prog f i.args .normal) [] (w.forCall tape i)))
  (contract:∀(W:World) (base:Nat) (args:Array Value) (ds gs:List (DataW H)) (before:List MemPlace),
   (∀(j:Nat) t v,fn.params[j]? = some t->args[j]? = some v->Value.okWide C.prog W .any base t v) ->
   DataW.Whole enc C.prog fn.params.toList s.vars apart W args.toList ds gs before->X W args->W.ShapedOpen C.prog ->
   Calls C.prog f args W fun e W'=>∃v,e = .returned v/\s.post enc C.prog fn apart fresh handsOn again W args v W'):
  ReturnsInHanded a C os f .any (fun w args=>(s.pre enc C.prog fn conds apart w args/\X w args)/\sizedMet enc C.prog fn (OpenSpec.ofChange s) apart w args) (s.post enc C.prog fn apart fresh handsOn again):=by
 refine returnsInHanded_of_calls own started noInit witness ?_;intro w tape i _ hsh _ hok hpre _;obtain⟨_,_,_,fn',hfn',_,_,_,_,hval⟩:=hok;have e:fn'=fn:=KAI (hfn'.symm.trans hfn);subst e;obtain⟨⟨⟨ds,gs,before,hw,hc⟩,hx⟩,hz⟩:=hpre;have hw':=DataW.Whole.of_heap (w':=w.forCall tape i) (by rfl) hw;refine (contract (w.forCall tape i) w.heap.size i.args ds gs before hval hw' (hX _ _ _ (by rfl) hx) hsh).mono fun e W' ⟨v,he,hp⟩=>?_
 subst he;exact ChangeSpec.post_blind hp
set_option maxRecDepth 100000 in
theorem lifted (os:Os)(started:os.Started)(H:Type)(enc:TypeId×Value->H):
  ReturnsInHanded {} Tryz.checked os 3 .any (fun w args=>(Rows.fnJudgedSpec.pre enc Tryz.prog Tryz.f3 [] false w args/\laidMetH Tryz.prog laidL w)/\sizedMet enc Tryz.prog Tryz.f3 (OpenSpec.ofChange Rows.fnJudgedSpec) false w args)
   (Rows.fnJudgedSpec.post enc Tryz.prog Tryz.f3 false true false false):=by
 refine returns_laid_shaped (C:=Tryz.checked) (X:=fun w _=>laidMetH Tryz.prog laidL w) (fun _ _ _ hh h=>h.of_heap hh) own started (by kernel_rfl) Tryz.func3
  (ChangeSpec.witness_shaped (enc:=enc) (C:=Tryz.checked) (os:=os) (X:=fun w _=>laidMetH Tryz.prog laidL w) false (World.doorLaid Tryz.prog 4000 os) #[.slice none 0 0] 8 rfl (World.shaped_of_RefB (by kernel_rfl) (by kernel_rfl)) (by kernel_rfl) (by kernel_rfl) (by kernel_rfl) (door_met os _)) ?_
 intro W base args ds gs before hval0 hW hL hsh;have hval:∀(j:Nat) t v,Tryz.f3.params[j]? = some t->args[j]? = some v->Value.okWide Tryz.prog W .any base t v:=hval0;have hW':=hW;obtain⟨p,q,hA0,hV,rfl,hfz,hnd⟩:=hW;have hA:DataW.TrodAll enc Tryz.prog W 0 (fun _=>true) true Tryz.f3.params.toList args.toList ds p:=hA0;rw[Tryz.params3] at hA hval;obtain⟨v0,vs0,d0,ds0,p0,q0,hargs,rfl,rfl,h0,r0⟩:=trodAll_cons hA;obtain⟨rfl,rfl,rfl⟩:=trodAll_nil r0;obtain rfl:args=#[v0]:=by cases args;simp_all
 have hV2 : DataW.TrodVars enc Tryz.prog W (fun _ => true) ["loop.example/g00411/impl.errNoAsk", "loop.example/g00411/impl.errNoOutcome", "loop.example/g00411/impl.errUnmet"] gs q := hV
 obtain⟨g0,g1,g2,rfl⟩:∃g0 g1 g2,gs=[g0,g1,g2]:=by
  have:=OQ hV2
  match gs,this with
  | [g0,g1,g2],_=>exact⟨g0,g1,g2,rfl⟩
 have k0:=h0;have lt0:∀x∈p0,x.block<W.heap.size:=by obtain⟨m,hm⟩:=k0;exact DataW.trod_lt m _ _ _ hm
 obtain⟨a0,len0,cap0,rfl⟩:=okWide_slice Tryz.underlying22 (hval 0 22 v0 rfl rfl)
 obtain⟨z0,w0⟩:∃zs,IsRow .u8 W a0 len0 cap0 zs:=by
  obtain⟨fuel,hf⟩:=h0;rcases open_ints Tryz.underlying22 Tryz.underlying5 (by kernel_rfl) hf with ⟨hcs,_⟩|⟨x,l,c,zs,hcs,_,hl,hm,hz,_,hcell,hwz⟩
  ·
   simp[Value.cells] at hcs;obtain⟨rfl,rfl,rfl⟩:=hcs;exact⟨[],.inl ⟨rfl,rfl,rfl,rfl⟩⟩
  ·
   simp[Value.cells] at hcs;obtain⟨rfl,rfl,rfl⟩:=hcs;exact⟨zs,.inr ⟨_,rfl,hl,hm,by simpa using hz,hcell,hwz⟩⟩
 have hL' : laidMet Tryz.prog laidL.tail W ∧ handlesMet Tryz.prog [("errors.errorType", Rows.laid_errors_errorType)] W := hL
 have jP:=han_cell hL'.2;have hS:=hL'.1;have hno:∃a,W.cell? ⟨0,0,none⟩=some (.iface 234 (.pointer (some a))):=sent_cell hS (by kernel_rfl) (by kernel_rfl);have hnx:∃a,W.cell? ⟨2,0,none⟩=some (.iface 234 (.pointer (some a))):=sent_cell hS.tail (by kernel_rfl) (by kernel_rfl);have hun:∃a,W.cell? ⟨3,0,none⟩=some (.iface 234 (.pointer (some a))):=sent_cell hS.tail.tail (by kernel_rfl) (by kernel_rfl);clear hA0 hval0;refine (walk a0 len0 cap0 z0 W w0 hno hnx hun jP).mono fun e W' ⟨he,lu⟩=>?_
 subst he;exact⟨_,rfl,_,_,_,[],_,_,hW',trodAll_mk1 (shut_bool Tryz.underlying4 _),(trodAll_cons_mk (Below.trod laidOut (by kernel_rfl) (KCF (by kernel_rfl)) k0 lu lt0) trodAll_mk0),J7 lu (List.forall_mem_cons.2 ⟨⟨0,57,_,by kernel_rfl,by kernel_rfl,Tryz.underlying57⟩,List.forall_mem_cons.2 ⟨⟨2,57,_,by kernel_rfl,by kernel_rfl,Tryz.underlying57⟩,List.forall_mem_cons.2 ⟨⟨3,57,_,by kernel_rfl,by kernel_rfl,Tryz.underlying57⟩,List.forall_mem_nil _⟩⟩⟩) hV2,lu.frame _,fun h=>by cases h⟩
theorem over:Rows.fnJudgedRow.holds Tryz.pinned (OpenSpec.ofChange Rows.fnJudgedSpec):=
 OpenClaim.holds_of_wide 3 Tryz.f3 rfl rfl rfl rfl rfl rfl rfl ⟨rfl,rfl,rfl,rfl,rfl⟩ rfl rfl rfl rfl rfl (by kernel_rfl) Tryz.func3 (by kernel_rfl)
  (KCF (by kernel_rfl)) (by unfold Func.isWrapper;first|(rw[KAP (by decide +kernel)];kernel_rfl)|(rw[KAQ (by decide +kernel)];exact⟨rfl,rfl⟩))
  (fun os started H enc _=>lifted os started H enc)
theorem carded:Rows.FnJudgedCardSaid:=
 Claim7.holds_tied_plain_at .later [] [.handle, .sentinel, .sentinel, .sentinel] true (true, "6292a260b34e5406c57cfb3370b13a8bdeff023c87927d0bc6208dd1b4a93b41") true
  over (fun _ h=>by cases h) (by kernel_rfl) (fun _ h=>by cases h) fnJudged_row_tie rfl ⟨rfl,rfl⟩ (by kernel_rfl) rfl
  (fun f fn hf hfn=>by
   obtain rfl : f = 3 := Option.some.inj ((show Tryz.prog.funcNamed "loop.example/g00411/laws.FnJudged" = some 3 by kernel_rfl).symm.trans hf) |>.symm
   obtain rfl:fn=Tryz.f3:=(KAI (Tryz.func3.symm.trans hfn)).symm
   exact⟨by kernel_rfl,fun j t ht=>by
    rw[Tryz.params3] at ht;have hm:t∈[22]:=by simpa using Array.mem_of_getElem? ht
    have hall:([22].all fun u=>!Tryz.prog.wantsStandIn u)=true:=by kernel_rfl
    exact (show Tryz.prog.wantsStandIn t=false by simpa using KAx.1 hall t hm)⟩)
  (by kernel_rfl)
#print axioms carded
end Go.Proofs.YtflehmepjhikcaaGreatDoor.fnJudged
namespace Go.Proofs.YtflehmepjhikcaaGreatDoor
theorem fnJudged_holds:Rows.FnJudgedCardSaid:=fnJudged.carded
end Go.Proofs.YtflehmepjhikcaaGreatDoor
