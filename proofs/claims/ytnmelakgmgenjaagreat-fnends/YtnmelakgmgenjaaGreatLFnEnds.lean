/- At every string of bytes the law FnEnds answers true and its argument stays. -/
import Derived.Test.YtnmelakgmgenjaaGreatRows
import Derived.WalkKit
import Derived.ProofKit
import Derived.OpenShut
import Derived.ShutString
import Derived.ChangeOld
import Derived.Below
import Derived.Test.YtnmelakgmgenjaaGreatMZ
import Derived.Test.YtnmelakgmgenjaaGreatMQ
import Derived.Test.YtnmelakgmgenjaaGreatNA
import Derived.Deep.Cut
import Derived.Deep.QuietTactic
import Derived.BigQuiet
import Derived.Deep.RegionHeld3
namespace Go.Proofs.YtnmelakgmgenjaaGreat.fnEnds
open Go.ChangeShapes Go.WideShapes Go.ChangeAt Go.RowKit
open Go.ChangeMaps (open_string shut_string)
set_option linter.unusedVariables false
theorem own:ownKnob Tryz.prog.godebug=none:=by kernel_rfl
theorem laidOut:laidOutB Tryz.prog=true:=by kernel_rfl
def IsRow (k:IntKind)(w:World)(a:Option Addr)(len cap:Nat)(zs:List Int):Prop:=
 (a=none/\len=0/\cap=0/\zs=[]) \/
 ∃x,a=some x/\len<=cap/\cap<=maxLen/\zs.length=cap/\(∀i,i<zs.length->w.cell? (x.add i)=some (.int k (zs.getD i 0)))/\∀n∈zs,(Lit.int k n).wf=true
set_option maxRecDepth 100000 in
set_option maxHeartbeats 8000000 in
theorem walk (a0:Option Addr)(len0 cap0:Nat)(z0:List Int)(w:World)(w0:IsRow .u8 w a0 len0 cap0 z0):
  Calls Tryz.prog 3 #[.slice a0 len0 cap0] w fun e w'=>e = .returned (.bool true)/\Below w.heap.size w w':=by
 by_cases hbig:4096<len0
 ·
  have hbb:decide (4096<len0)=true:=by simpa using hbig
  go_enter Tryz.func3,Tryz.ntmps3
  go_wp2_with (go_at_call 6;refine (UW _ _ _ _).mono ?_;rintro e w' ⟨rfl,rfl⟩)
  go_ret;exact⟨rfl,Below.refl _ _⟩
 have hbb:decide (4096<len0)=false:=by simpa using hbig
 obtain⟨zs,hzl,hrd⟩:∃zs:List Int,zs.length=len0/\Q4 w w.heap.size a0 zs:=T0 (by omega) w0;have hz12:zs.length<=4096:=by omega
 subst hzl;clear w0 hbig;go_enter Tryz.func3,Tryz.ntmps3
 go_wp2_with fail
 refine (UW _ _ _ _).mono ?_;rintro e w' ⟨rfl,rfl⟩;go_wp2_with fail
 refine (Pv _ a0 cap0 zs hrd).mono ?_;rintro e w1 ⟨v,AA,rfl,rW,⟨q1,q2⟩,K1⟩;have hx:AA.length<=1048576:=by omega
 have HM:Hid (∀i,i<AA.length->(AA.getD i []).length<=1048576):=Lib.hid (fun i hi=>by have:=q2 i hi;omega);obtain⟨aV,cV,rfl,-⟩:=id rW;clear hbb q2;have CI:=P9 w1 _ AA rW hx HM.out;have HRW:=Lib.hid rW;clear rW;go_wp2_with fail
 refine CI.mono ?_;rintro e w2 ⟨ve,E,rfl,fe,eo,k2⟩;have K2:=K1.trans k2;have re2:=fe.rd;have pV:=Lib.hid eo;have le:E.length<=78125:=eo.len;have ml:=Lib.hid (fun i (hi:i<E.length)=>Nat.le_trans (eo.lens i hi) (show 15<=1048576 by omega));clear CI fe eo;have CQ:=KL w2 _ AA (HRW.out.keep k2) hx HM.out;go_wp2_with fail
 refine CQ.mono ?_;rintro e w3 ⟨vq,Q,rfl,fq,qo,k3⟩;have K3:=K2.trans k3;have rq3:=fq.rd;have re3:=re2.keep k3;have pY:=Lib.hid qo;have lq:Q.length<=78125:=qo.len;have mq:=Lib.hid (fun i (hi:i<Q.length)=>Nat.le_trans (qo.lens i hi) (show 15<=1048576 by omega));have HW3:=Lib.hid (HRW.out.keep (k2.trans k3));clear CQ fq qo k2 k3 re2 HRW;go_wp2_with fail
 refine (Mm _ a0 cap0 zs (Q4.up hrd K3)).mono ?_;rintro e w4 ⟨vl,vo,l,x,rfl,rl4,rx4,ll,lm,lx,k4⟩;have K4:=K3.trans k4;have re4:=re3.keep k4;have zh:=rq3.keep k4;have HW4:=Lib.hid (HW3.out.keep k4);have LM:=Lib.hid (fun i (hi:i<l.length)=>Nat.le_trans (lm i hi) (show 15<=1048576 by omega));clear k4 re3 rq3 HW3 lm;go_wp2_with fail
 refine (Qs _ _ AA HW4.out hx HM.out).mono ?_;rintro e w5 ⟨v5,E5,rfl,r5,o5,k5⟩;obtain rfl:E5=E:=o5.one pV.out;have r5':=r5.rd;go_wp2_with fail
 refine (NJ _ _ _ E5 (re4.keep k5) r5' (by omega) ml.out).mono ?_;rintro e w6 ⟨rfl,k6⟩;have k46:=k5.trans k6;clear r5 r5' o5 k5 k6;go_wp2_with fail
 refine (Fv _ _ AA (HW4.out.keep k46) hx HM.out).mono ?_;rintro e w7 ⟨v7,Q7,rfl,r7,o7,k7⟩;obtain rfl:Q7=Q:=o7.one pY.out;have r7':=r7.rd;go_wp2_with fail
 refine (NJ _ _ _ Q7 (zh.keep (k46.trans k7)) r7' (by omega) mq.out).mono ?_;rintro e w8 ⟨rfl,k8⟩;have k48:=(k46.trans k7).trans k8;clear r7 r7' o7 k7 k8 k46;go_wp2_with fail
 refine (FQ _ _ _ l x (rl4.keep k48) (rx4.keep k48) (by omega) LM.out).mono ?_;rintro e w9 ⟨rfl,k9⟩;have k49:=k48.trans k9;obtain⟨T,hT⟩:∃T,T=Jb l x:=⟨_,rfl⟩;have HT:=Lib.hid hT;rw[<-hT];clear hT;go_wp2_with fail
 refine (Nj _ _ _ l x (rl4.keep k49) (rx4.keep k49) (by omega) LM.out).mono ?_;rw[<-HT.out];rintro e w10 ⟨rfl,k10⟩;have k410:=k49.trans k10;have hTT:(T != T)=false:=by cases T<;>rfl
 have re10:=re4.keep k410;have tK:=zh.keep k410;have K10:=K4.trans k410;have HW10:=Lib.hid (HW4.out.keep k410);clear k48 k9 k49 k10 k410 re4 zh K4 K3 K2 rl4 rx4 HW4 HT LM K1;have CW:=DE w10 _ AA HW10.out hx HM.out;go_wp2_with fail
 refine CW.mono ?_;rintro e w11 ⟨rfl,k11⟩;have K11:=K10.trans k11;have re11:=re10.keep k11;have tO:=tK.keep k11;have HW11:=Lib.hid (HW10.out.keep k11);obtain⟨ae,ce,rfl,hre⟩:=id re11;obtain⟨aq,cq,rfl,hrq⟩:=id tO;clear CW re10 tK HW10 K10 k11;cases hw:AQ AA
 ·
  have e1:E5.length=0:=by rw[pV.out.no hw];rfl
  have e2:Q7.length=0:=by rw[pY.out.no hw];rfl
  clear hw hre hrq re11 tO pV pY ml mq;generalize E5.length=n1 at *;generalize Q7.length=n2 at *;subst e1;subst e2;go_wp2;go_ret;exact⟨rfl,K11⟩
 have HW:=Lib.hid hw;have um:=Lib.hid (pV.out.is hw);have HIQ:=Lib.hid (pY.out.is hw);clear hw;have hie:=Nz HW.out um.out HIQ.out;have wR:=Lib.hid hie;have uw:=Lib.hid (WF HW.out um.out);have HLS:=Lib.hid (fun k hk=>WE um.out (k:=k) hk);obtain⟨nE,hnE⟩:∃nE,nE=(AX Ah (AB AA)).length+3:=⟨_,rfl⟩;rw[<-hnE] at uw;clear hie pV pY hnE;go_wp2;go_loopw [8] (fun i wr=>∃k:Nat,k<=Q7.length/\i = .int .i64 k/\AC w11 wr) (fun i _=>Q7.length-(intOf i).toNat)
 case atStart=>exact⟨0,Nat.zero_le _,rfl,AC.refl _⟩
 case round=>
  obtain⟨k,hk,rfl,kr⟩:=hrel;by_cases hlt:k<Q7.length
  ·
   rcases hrq with h0|⟨bq,oq,rfl,hbq,hcq⟩
   . exfalso;rw[h0] at hlt;simp at hlt
   obtain⟨vi,d1,rd⟩:=hcq k hlt;have d1:=(kr.cell hbq).trans d1;have CI:=FQ wr _ vi E5 _ (re11.keep kr) (rd.keep kr) (by omega) ml.out;rw[wR.out k hlt] at CI;have j1:(0:Int)<=(k:Int):=Int.natCast_nonneg _;have j2:(k:Int)<(Q7.length:Int):=by omega
   clear hcq rd hre;go_wp2_with fail
   refine CI.mono ?_;rintro e wz ⟨rfl,kk⟩;go_wp2;go_roundw;case rel=>exact⟨k+1,by omega,by go_num,kr.trans kk⟩
   case measure=>simp[intOf];omega
  ·
   obtain rfl:k=Q7.length:=by omega
   clear hlt hk;go_wp2;go_loopw [9,10,11] (fun i _ _ ws=>∃k:Nat,(k+1<=E5.length\/k=0)/\i = .int .i64 ((k:Int)+1)/\AC w11 ws) (fun i _ _ _=>E5.length-(intOf i).toNat)
   case atStart=>exact⟨0,.inr rfl,rfl,kr⟩
   case round=>
    clear kr;obtain⟨k,hk,rfl,kr⟩:=hrel;by_cases hlt:k+1<E5.length
    ·
     rcases hre with h0|⟨be,oe,rfl,hbe,hce⟩
     . exfalso;rw[h0] at hlt;simp at hlt
     obtain⟨v1,d1,rd1⟩:=hce k (by omega);obtain⟨v2,d2,rd2⟩:=hce (k+1) hlt;have d1:=(kr.cell hbe).trans d1;have d2:=(kr.cell hbe).trans d2;have e1:=uw.out k (by omega);have e2:=uw.out (k+1) hlt;have lx1:=ml.out k (by omega);have HL:=Lib.hid (HLS.out k hlt);obtain⟨x1,hx1⟩:∃x1,x1=E5.getD k []:=⟨_,rfl⟩;obtain⟨x2,hx2⟩:∃x2,x2=E5.getD (k+1) []:=⟨_,rfl⟩;rw[<-hx1] at rd1 e1 HL lx1;rw[<-hx2] at rd2 e2 HL;have rd1:=rd1.keep kr;have rd2:=rd2.keep kr;obtain⟨a1,c1,rfl,g1⟩:=rd1;obtain⟨a2,c2,rfl,g2⟩:=rd2;have E1:=Lib.hid e1;have E2:=Lib.hid e2;have l12:x1.length<=x2.length:=by omega
     have l21:x2.length<=x1.length:=by omega
     have hbe':be<wr.heap.size:=Nat.lt_of_lt_of_le hbe kr.size;have j1:(0:Int)<=(k:Int):=Int.natCast_nonneg _;have j2:(k:Int)+1<(E5.length:Int):=by omega
     have HRE:=Lib.hid (show True from trivial);obtain⟨wo,rfl⟩:∃wo:World,wo=wr:=⟨_,rfl⟩;clear hce hx1 hx2 e1 e2 hlt hk;go_wp2;go_loopw [10,11] (fun ls i ws=>∃j:Nat,ls = .bool false/\j<=x1.length/\i = .int .i64 j/\Hid (x1.take j=x2.take j)/\AC wo ws) (fun _ i _=>x1.length-(intOf i).toNat)
     case atStart=>exact⟨0,rfl,Nat.zero_le _,rfl,Lib.hid (by simp),AC.refl _⟩
     case round=>
      obtain⟨j,rfl,hj,rfl,ht,kj⟩:=hrel;have d1':=(kj.cell hbe').trans d1;have d2':=(kj.cell hbe').trans d2;by_cases hjl:j<x1.length
      ·
       have hj2:j<x2.length:=by omega
       rcases g1 with h0|⟨b1,o1,rfl,hb1,hc1⟩
       . exfalso;rw[h0] at hjl;simp at hjl
       rcases g2 with h0|⟨b2,o2,rfl,hb2,hc2⟩
       . exfalso;rw[h0] at hj2;simp at hj2
       have f1:=(kj.cell hb1).trans (hc1 j hjl);have f2:=(kj.cell hb2).trans (hc2 j hj2);have HD:=Lib.hid (LH j x1 x2 hjl hj2 ht.out);have HT2:=Lib.hid (fun e=>Fj hjl hj2 ht.out e);obtain⟨p,hp⟩:∃p,p=x1.getD j 0:=⟨_,rfl⟩;obtain⟨q,hq⟩:∃q,q=x2.getD j 0:=⟨_,rfl⟩;rw[<-hp] at f1 HD HT2;rw[<-hq] at f2 HD HT2;have i1:(0:Int)<=(j:Int):=Int.natCast_nonneg _;have i2:(j:Int)<(x1.length:Int):=by omega
       have i3:(j:Int)<(x2.length:Int):=by omega
       clear hc1 hc2 hp hq;by_cases he:p=q
       ·
        have hne:(p != q)=false:=by simp[he]
        have HN:=Lib.hid (HT2.out he);clear he HD HT2;go_wp2;go_quiet (fail)
        go_wp2;go_roundw;case rel=>exact⟨j+1,rfl,by omega,by go_num,HN,kj.drewN _⟩
        case measure=>simp[intOf];omega
       ·
        have hne:(p != q)=true:=by simp[he]
        have hlt2:decide (p<q)=true:=by rw[<-HD.out he];exact HL.out
        clear he HD HT2;go_wp2;go_quiet (fail)
        go_wp2;go_quiet (fail)
        go_wp2;go_roundw;case rel=>exact⟨k+1,.inl (by omega),by go_num,kr.trans (kj.drewN _)⟩
        case measure=>simp[intOf];omega
      ·
       exfalso;obtain rfl:j=x1.length:=by omega
       have:=KT x1.length x1 x2 ht.out (Nat.le_refl _) l12 (.inl rfl);rw[HL.out] at this;simp at this;omega
    ·
     clear hre uw HLS;have C0:=Jj wr _ AA (HW11.out.keep kr) HW.out hx HM.out;have K12:=K11.trans kr;have hlt0:¬(k:Int)+1<(E5.length:Int):=by omega
     have rew:=re11.keep kr;have hqs:=WG HW.out HIQ.out;clear hk hlt kr;go_wp2_with fail
     refine C0.mono ?_;rintro e w13 ⟨bv,nv,rv,bs,N,rfl,V13,hm13,k13⟩;have K13:=K12.trans k13;have re13:=rew.keep k13;have g0:=GR.new HW.out;have r0:=A6.new (AA:=AA) (quick:=false);have dU:=V13.rd0;generalize Cd AA=Q at g0 r0 dU;clear C0 V13 hm13 k13 K12 rew;obtain⟨aWX,aPX,aLX,aNX,aXX,aTX,aFX,aRX,cWX,cPX,cLX,qj,cXX,cTX,cFX,cRX,rfl⟩:=dU.shapes;go_upto_region 28 with fail
     obtain⟨w14,hw⟩:∃W:World,W=w13.alloc (.cells #[.slice aWX AA.length cWX,.slice aPX Q.AM.length cPX,.slice aLX Q.AO.length cLX,.slice aNX Q.AG.length qj,.slice aXX Q.AL.length cXX,.slice aTX Q.sn.length cTX,.slice aFX Q.fr.length cFX,.slice aRX Q.rws.length cRX] 36):=⟨_,rfl⟩;have kb:AC w13 w14:=by rw[hw];exact (AC.refl w13).alloc _
     have hX:w14.heap[w13.heap.size]? = some (.cells #[.slice aWX AA.length cWX,.slice aPX Q.AM.length cPX,.slice aLX Q.AO.length cLX,.slice aNX Q.AG.length qj,.slice aXX Q.AL.length cXX,.slice aTX Q.sn.length cTX,.slice aFX Q.fr.length cFX,.slice aRX Q.rws.length cRX] 36 (0,0)):=by rw[hw];exact heap_alloc_new _ _
     have lX:w13.heap.size<w14.heap.size:=by rw[hw,AD];omega
     rw[<-hw];clear hw;have wZ:=K13.trans kb;have qE:=dU.keep kb;obtain⟨X,y7⟩:∃X,X=w13.heap.size:=⟨_,rfl⟩;rw[<-y7] at hX lX ⊢;have HX0:=Lib.hid y7;have HRE:=Lib.hid re13;have HK13:=Lib.hid K13;clear dU re13 K13 wZ y7;go_wp2;go_loopw [14,15] (fun i _ ws=>∃(k:Nat) (bv:BV) (b':Bd),i = .int .i64 (k:Int)/\GR AA b' k/\A6 AA false b'/\CV ws bv AA b'/\ws.heap[X]? = some (.cells bv.arr 36 (0,0))/\AC w13 ws) (fun i _ _=>((40:Int)-intOf i).toNat)
     case atStart=>exact⟨0,_,Q,rfl,g0,r0,qE,hX,kb⟩
     case round=>
      clear g0 r0 qE hX kb;obtain⟨k,bv,b',rfl,uf,RCH,RB,hX,kr⟩:=hrel;have hk24:k<=24:=by have:=uf.mes;omega
      have t0:decide ((k:Int)<40)=true:=decide_eq_true (by omega);have zXr:X<wr.heap.size:=(Array.getElem?_eq_some_iff.1 hX).1;have vQ:=uf.run.board HW.out;have HZ:=Lib.hid (aG vQ);obtain⟨xw,xk,xg,xh,yA,xu,xZ,xq,yO,yJ,yI,kZ,yQ,yM,yH,yK,rfl⟩:=RB.shapes;simp only[BV.arr] at hX;have CP:=LX wr _ AA b' RB HZ.out;have hpB:B8 AA b'=Ad AA b':=by rw[B8,if_pos vQ]
      have hpl:=Wl AA b';rw[hpB] at CP hpl;have HGR:=Lib.hid uf;have wO:=Lib.hid vQ;have uq:=Lib.hid RCH;clear hpB uf vQ RCH;go_wp2_with (first|refine wpList_load_row rfl 36 _ rfl X rfl 36 _ (0,0) _ hX Tryz.underlying36 rfl AK ?_|fail)
      refine CP.mono ?_;rintro e w9 ⟨vp,rfl,op,k9⟩;have rp9:=op.rd;have K9:=kr.trans k9;have s9:=k9.size;have hbl:=op.ge;replace hX:=(Below.block k9 X (by omega)).trans hX;have xA:=RB.keep k9;have zX9:X<w9.heap.size:=by omega
      obtain⟨ap,cp,rfl,hcp⟩:=rp9;clear CP kr RB op k9;by_cases hp0:(Ad AA b').length=0
      ·
       have he:Co AA b'=true:=NO (List.eq_nil_of_length_eq_zero hp0);have wT:=Lib.hid (N0 um.out uq.out he);have wK:=Jk w9 _ AA b' xA HZ.out;rw[show Em AA b'=An b' from by rw[Em,if_pos wO.out];rfl] at wK;have lsh:(An b').length<=1048576:=by have:=(Ki HW.out uq.out).shown;omega
       have xX0:w9.cell? ⟨X,0,none⟩=some (.slice xw AA.length yO):=by rw[cell_of_row w9 _ 0 _ _ _ hX];rfl
       have xX1:w9.cell? ⟨X,1,none⟩=some (.slice xk b'.AM.length yJ):=by rw[cell_of_row w9 _ 1 _ _ _ hX];rfl
       have xX2:w9.cell? ⟨X,2,none⟩=some (.slice xg b'.AO.length yI):=by rw[cell_of_row w9 _ 2 _ _ _ hX];rfl
       have xX3:w9.cell? ⟨X,3,none⟩=some (.slice xh b'.AG.length kZ):=by rw[cell_of_row w9 _ 3 _ _ _ hX];rfl
       have xX4:w9.cell? ⟨X,4,none⟩=some (.slice yA b'.AL.length yQ):=by rw[cell_of_row w9 _ 4 _ _ _ hX];rfl
       have xX5:w9.cell? ⟨X,5,none⟩=some (.slice xu b'.sn.length yM):=by rw[cell_of_row w9 _ 5 _ _ _ hX];rfl
       have xX6:w9.cell? ⟨X,6,none⟩=some (.slice xZ b'.fr.length yH):=by rw[cell_of_row w9 _ 6 _ _ _ hX];rfl
       have xX7:w9.cell? ⟨X,7,none⟩=some (.slice xq b'.rws.length yK):=by rw[cell_of_row w9 _ 7 _ _ _ hX];rfl
       have hqi:(0:Int)<(Q7.length:Int):=by omega
       clear he hcp hbl;generalize (Ad AA b').length=pl at *;subst hp0;go_wp2_with (first|refine wpList_load_row rfl 36 _ rfl X rfl 36 _ (0,0) _ hX Tryz.underlying36 rfl AK ?_|fail)
       refine wK.mono ?_;rintro e w10 ⟨vs,rfl,os,k10⟩;have K10:=K9.trans k10;have CI2:=FQ w10 _ vs E5 _ (HRE.out.keep K10) os.rd (by omega) ml.out;rw[wT.out] at CI2;clear wK os xX0 xX1 xX2 xX3 xX4 xX5 xX6 xX7;go_wp2_with fail
       refine CI2.mono ?_;rintro e w11' ⟨rfl,k11'⟩;have KF:=HK13.out.trans (K10.trans k11');clear CI2;go_wp2;go_ret;exact⟨rfl,KF⟩
      ·
       have hp1:¬((Ad AA b').length:Int)=0:=by omega
       have e0:(((Ad AA b').length:Int)==0)=false:=by simpa using hp1
       rcases hcp with h0|⟨bp,op',rfl,hbp,hcp⟩
       . exfalso;rw[h0] at hp0;simp at hp0
       have rQ:bp≠X:=fun e=>by have:=hbl bp rfl;omega
       obtain⟨PF,wV⟩:∃PF:Nat->Int,Hid (∀j,PF j=(Ad AA b').getD j 0):=⟨fun j=>(Ad AA b').getD j 0,Lib.hid (fun _=>rfl)⟩;have hc9:∀j,j<(Ad AA b').length->w9.cell? ⟨bp,op'+j,none⟩=some (.int .i64 (PF j)):=fun j hj=>by rw[wV.out j];exact hcp j hj
       clear hcp hbl;have yX0:w9.cell? ⟨X,0,none⟩=some (.slice xw AA.length yO):=by rw[cell_of_row w9 _ 0 _ _ _ hX];rfl
       have yX1:w9.cell? ⟨X,1,none⟩=some (.slice xk b'.AM.length yJ):=by rw[cell_of_row w9 _ 1 _ _ _ hX];rfl
       have yX2:w9.cell? ⟨X,2,none⟩=some (.slice xg b'.AO.length yI):=by rw[cell_of_row w9 _ 2 _ _ _ hX];rfl
       have yX3:w9.cell? ⟨X,3,none⟩=some (.slice xh b'.AG.length kZ):=by rw[cell_of_row w9 _ 3 _ _ _ hX];rfl
       have yX4:w9.cell? ⟨X,4,none⟩=some (.slice yA b'.AL.length yQ):=by rw[cell_of_row w9 _ 4 _ _ _ hX];rfl
       have yX5:w9.cell? ⟨X,5,none⟩=some (.slice xu b'.sn.length yM):=by rw[cell_of_row w9 _ 5 _ _ _ hX];rfl
       have yX6:w9.cell? ⟨X,6,none⟩=some (.slice xZ b'.fr.length yH):=by rw[cell_of_row w9 _ 6 _ _ _ hX];rfl
       have yX7:w9.cell? ⟨X,7,none⟩=some (.slice xq b'.rws.length yK):=by rw[cell_of_row w9 _ 7 _ _ _ hX];rfl
       go_upto_region 33 with fail
       have KD:AC w9 w9.drew:=(AC.refl w9).drew;have wJ:bp<w9.drew.heap.size:=by show bp<w9.heap.size;omega
       have zX0:w9.drew.cell? ⟨X,0,none⟩=some (.slice xw AA.length yO):=yX0;have zX1:w9.drew.cell? ⟨X,1,none⟩=some (.slice xk b'.AM.length yJ):=yX1;have zX2:w9.drew.cell? ⟨X,2,none⟩=some (.slice xg b'.AO.length yI):=yX2;have zX3:w9.drew.cell? ⟨X,3,none⟩=some (.slice xh b'.AG.length kZ):=yX3;have zX4:w9.drew.cell? ⟨X,4,none⟩=some (.slice yA b'.AL.length yQ):=yX4;have zX5:w9.drew.cell? ⟨X,5,none⟩=some (.slice xu b'.sn.length yM):=yX5;have zX6:w9.drew.cell? ⟨X,6,none⟩=some (.slice xZ b'.fr.length yH):=yX6;have zX7:w9.drew.cell? ⟨X,7,none⟩=some (.slice xq b'.rws.length yK):=yX7;refine wp_region_held_drew (S:=(fun w'=>∀j,j<(Ad AA b').length->w'.cell? ⟨bp,op'+j,none⟩=some (.int .i64 (PF j)))) (by kernel_rfl) ?_ (fun hHeld=>?_)
       . exact hc9
       refine Ar 1 139 (v:=?_) ?_ ?_;rotate_left
       ·
        intro wx hSw;go_simp;with_reducible rfl
       simp only[Act.put,List.setIfInBounds_toArray,List.set_cons_zero,List.set_cons_succ];refine Ar 2 140 (v:=?_) ?_ ?_;rotate_left
       ·
        intro wx hSw;go_simp;with_reducible rfl
       simp only[Act.put,List.setIfInBounds_toArray,List.set_cons_zero,List.set_cons_succ];refine Ar 3 141 (v:=?_) ?_ ?_;rotate_left
       ·
        intro wx hSw;go_simp;with_reducible rfl
       simp only[Act.put,List.setIfInBounds_toArray,List.set_cons_zero,List.set_cons_succ];refine Ar 4 142 (v:=?_) ?_ ?_;rotate_left
       ·
        intro wx hSw;go_simp;with_reducible rfl
       simp only[Act.put,List.setIfInBounds_toArray,List.set_cons_zero,List.set_cons_succ];refine Ar 5 143 (v:=?_) ?_ ?_;rotate_left
       ·
        intro wx hSw;go_simp;with_reducible rfl
       simp only[Act.put,List.setIfInBounds_toArray,List.set_cons_zero,List.set_cons_succ];refine wpAnyH_ready (rs:=[0,6]) (by kernel_rfl) (by simp) ?_;refine AllReadyH.cons rfl (fun K hK=>?_) (AllReadyH.cons rfl (fun K hK=>?_) AllReadyH.nil)
       ·
        go_simp;refine hK.out _ _ ?_ (fun hHeld=>?_)
        . exact hHeld
        clear hK K;refine wpAnyH_ready (rs:=[6]) (by kernel_rfl) (by simp) ?_;refine AllReadyH.cons rfl (fun K hK=>?_) AllReadyH.nil;go_simp;refine (PR _ _ a0 cap0 zs (Q4.up hrd (HK13.out.trans (K9.trans KD))) hz12 (k:Int) ((Ad AA b').length:Int) (by omega) (by omega) (by omega) (by omega)).mono ?_;rintro e v5 ⟨m,rfl,m0,m1,rfl⟩;go_wp2_with fail
        refine hK.out _ _ ?_ (fun hHeld=>?_)
        . exact hHeld
        clear hK K;obtain⟨mn,hmn0⟩:=Int.eq_ofNat_of_zero_le m0;subst hmn0;have hmn:mn<(Ad AA b').length:=by omega
        have j1:(0:Int)<=(mn:Int):=Int.natCast_nonneg _;have j2:(mn:Int)<((Ad AA b').length:Int):=by omega
        refine Ar 7 145 (v:=?_) ?_ ?_;rotate_left
        ·
         intro wx hSw;go_simp;with_reducible rfl
        simp only[Act.put,List.setIfInBounds_toArray,List.set_cons_zero,List.set_cons_succ];refine Ar 8 146 (v:=?_) ?_ ?_;rotate_left
        ·
         intro wx hSw;have hat:=hSw mn hmn;go_simp;with_reducible rfl
        simp only[Act.put,List.setIfInBounds_toArray,List.set_cons_zero,List.set_cons_succ];obtain⟨st,hst⟩:∃st,st=PF mn:=⟨_,rfl⟩;rw[<-hst];have hs:Gv (Ad AA b') st=true:=by rw[hst,wV.out mn];exact Ux hmn
        clear hst;have bV:=Fw w9.drew _ AA b' st (xA.keep KD) HZ.out wO.out;rw[hs,show Dw AA b' st=Am AA (AB AA) b' st from by unfold Dw;rw[if_pos hs]] at bV;have G6:=Lib.hid (HGR.out.step HW.out hs);have R6:=Lib.hid (A6.step uq.out (FW (es:=AB AA) hs));obtain⟨nb,hnb⟩:∃nb,nb=Am AA (AB AA) b' st:=⟨_,rfl⟩;rw[<-hnb] at bV G6 R6;clear hnb hs;refine wpAnyH_ready (rs:=[9]) (by kernel_rfl) (by simp) ?_;refine AllReadyH.cons rfl (fun K hK=>?_) AllReadyH.nil;go_simp;refine bV.mono ?_;rintro e w10 ⟨bv6,nv6,rv6,bs6,N6,rfl,V6,hbs6,k6⟩;obtain⟨fE,fA,eZ,eu,fG,fC,eY,fB,cW6,cP6,cL6,cN'6,cX6,cT6,cF6,cR6,rfl⟩:=V6.rd0.shapes;have hX10:=(Below.block (KD.trans k6) X zX9).trans hX;have K10:=(K9.trans KD).trans k6;have s10:=(KD.trans k6).size;have hS10:=fun j hj=>(k6.cell wJ).trans (hHeld j hj)
        go_wp2_with fail
        refine hK.out _ _ ?_ (fun hHeld=>?_)
        . exact hS10
        clear hK K bV;refine Ar 10 137 (v:=?_) ?_ ?_;rotate_left
        ·
         intro wx hSw;go_simp;with_reducible rfl
        simp only[Act.put,List.setIfInBounds_toArray,List.set_cons_zero,List.set_cons_succ];refine Ar 11 148 (v:=?_) ?_ ?_;rotate_left
        ·
         intro wx hSw;go_simp;with_reducible rfl
        simp only[Act.put,List.setIfInBounds_toArray,List.set_cons_zero,List.set_cons_succ];refine Ar 12 149 (v:=?_) ?_ ?_;rotate_left
        ·
         intro wx hSw;go_simp;with_reducible rfl
        simp only[Act.put,List.setIfInBounds_toArray,List.set_cons_zero,List.set_cons_succ];have HG:=Lib.hid (Af w10 X #[.slice fE AA.length cW6,.slice fA nb.AM.length cP6,.slice eZ nb.AO.length cL6,.slice eu nb.AG.length cN'6,.slice fG nb.AL.length cX6,.slice fC nb.sn.length cT6,.slice eY nb.fr.length cF6,.slice fB nb.rws.length cR6]);have wW:=Lib.hid (setRow_heap w10 X _ #[.slice fE AA.length cW6,.slice fA nb.AM.length cP6,.slice eZ nb.AO.length cL6,.slice eu nb.AG.length cN'6,.slice fG nb.AL.length cX6,.slice fC nb.sn.length cT6,.slice eY nb.fr.length cF6,.slice fB nb.rws.length cR6] _ _ hX10);have HK6:=Lib.hid (K10.grown HG.out (fun q hq=>by have:=Option.some.inj hq;have:=HX0.out;omega));have HR6:=Lib.hid ((V6.far HG.out (fun q hq=>by have:=Option.some.inj hq;rw[A7] at hbs6 ⊢;omega)).rd0);have hS11:∀j,j<(Ad AA b').length->(w10.setRow X #[.slice fE AA.length cW6,.slice fA nb.AM.length cP6,.slice eZ nb.AO.length cL6,.slice eu nb.AG.length cN'6,.slice fG nb.AL.length cX6,.slice fC nb.sn.length cT6,.slice eY nb.fr.length cF6,.slice fB nb.rws.length cR6]).cell? ⟨bp,op'+j,none⟩=some (.int .i64 (PF j)):=fun j hj=>(World.cell?_of_block (HG.out.block bp (by have:bp<w9.heap.size:=wJ;omega) (fun e=>rQ (Option.some.inj e)))).trans (hS10 j hj)
        refine wpAnyH_ready (rs:=[13]) (by kernel_rfl) (by simp) ?_;refine AllReadyH.cons rfl (fun K hK=>?_) AllReadyH.nil;rw[if_pos (by simp[Region.wanted])];refine wp_store_row 36 _ _ rfl X _ rfl rfl 36 _ hX10 AK rfl (by simp[Value.oneCell']) ?_;refine hK.out _ _ ?_ (fun hHeld=>?_)
        . exact hS11
        clear hK K hHeld hS10 hS11 V6 hX10 K10;refine wpAnyH_done (by kernel_rfl) ?_ _;simp only[Act.put];go_wp2;go_roundw;case rel=>exact⟨k+1,⟨.slice fE AA.length cW6,.slice fA nb.AM.length cP6,.slice eZ nb.AO.length cL6,.slice eu nb.AG.length cN'6,.slice fG nb.AL.length cX6,.slice fC nb.sn.length cT6,.slice eY nb.fr.length cF6,.slice fB nb.rws.length cR6⟩,nb,by push_cast;rfl,G6.out,R6.out,HR6.out,wW.out,HK6.out⟩
        case measure=>simp[intOf];omega
       ·
        go_simp;refine (PR _ _ a0 cap0 zs (Q4.up hrd (HK13.out.trans (K9.trans KD))) hz12 (k:Int) ((Ad AA b').length:Int) (by omega) (by omega) (by omega) (by omega)).mono ?_;rintro e v5 ⟨m,rfl,m0,m1,rfl⟩;go_wp2_with fail
        refine hK.out _ _ ?_ (fun hHeld=>?_)
        . exact hHeld
        clear hK K;obtain⟨mn,hmn0⟩:=Int.eq_ofNat_of_zero_le m0;subst hmn0;have hmn:mn<(Ad AA b').length:=by omega
        have j1:(0:Int)<=(mn:Int):=Int.natCast_nonneg _;have j2:(mn:Int)<((Ad AA b').length:Int):=by omega
        refine Ar 7 145 (v:=?_) ?_ ?_;rotate_left
        ·
         intro wx hSw;go_simp;with_reducible rfl
        simp only[Act.put,List.setIfInBounds_toArray,List.set_cons_zero,List.set_cons_succ];refine Ar 8 146 (v:=?_) ?_ ?_;rotate_left
        ·
         intro wx hSw;have hat:=hSw mn hmn;go_simp;with_reducible rfl
        simp only[Act.put,List.setIfInBounds_toArray,List.set_cons_zero,List.set_cons_succ];refine wpAnyH_ready (rs:=[0]) (by kernel_rfl) (by simp) ?_;refine AllReadyH.cons rfl (fun K hK=>?_) AllReadyH.nil;go_simp;refine hK.out _ _ ?_ (fun hHeld=>?_)
        . exact hHeld
        clear hK K;obtain⟨st,hst⟩:∃st,st=PF mn:=⟨_,rfl⟩;rw[<-hst];have hs:Gv (Ad AA b') st=true:=by rw[hst,wV.out mn];exact Ux hmn
        clear hst;have bV:=Fw w9.drew _ AA b' st (xA.keep KD) HZ.out wO.out;rw[hs,show Dw AA b' st=Am AA (AB AA) b' st from by unfold Dw;rw[if_pos hs]] at bV;have G6:=Lib.hid (HGR.out.step HW.out hs);have R6:=Lib.hid (A6.step uq.out (FW (es:=AB AA) hs));obtain⟨nb,hnb⟩:∃nb,nb=Am AA (AB AA) b' st:=⟨_,rfl⟩;rw[<-hnb] at bV G6 R6;clear hnb hs;refine wpAnyH_ready (rs:=[9]) (by kernel_rfl) (by simp) ?_;refine AllReadyH.cons rfl (fun K hK=>?_) AllReadyH.nil;go_simp;refine bV.mono ?_;rintro e w10 ⟨bv6,nv6,rv6,bs6,N6,rfl,V6,hbs6,k6⟩;obtain⟨fE,fA,eZ,eu,fG,fC,eY,fB,cW6,cP6,cL6,cN'6,cX6,cT6,cF6,cR6,rfl⟩:=V6.rd0.shapes;have hX10:=(Below.block (KD.trans k6) X zX9).trans hX;have K10:=(K9.trans KD).trans k6;have s10:=(KD.trans k6).size;have hS10:=fun j hj=>(k6.cell wJ).trans (hHeld j hj)
        go_wp2_with fail
        refine hK.out _ _ ?_ (fun hHeld=>?_)
        . exact hS10
        clear hK K bV;refine Ar 10 137 (v:=?_) ?_ ?_;rotate_left
        ·
         intro wx hSw;go_simp;with_reducible rfl
        simp only[Act.put,List.setIfInBounds_toArray,List.set_cons_zero,List.set_cons_succ];refine Ar 11 148 (v:=?_) ?_ ?_;rotate_left
        ·
         intro wx hSw;go_simp;with_reducible rfl
        simp only[Act.put,List.setIfInBounds_toArray,List.set_cons_zero,List.set_cons_succ];refine Ar 12 149 (v:=?_) ?_ ?_;rotate_left
        ·
         intro wx hSw;go_simp;with_reducible rfl
        simp only[Act.put,List.setIfInBounds_toArray,List.set_cons_zero,List.set_cons_succ];have HG:=Lib.hid (Af w10 X #[.slice fE AA.length cW6,.slice fA nb.AM.length cP6,.slice eZ nb.AO.length cL6,.slice eu nb.AG.length cN'6,.slice fG nb.AL.length cX6,.slice fC nb.sn.length cT6,.slice eY nb.fr.length cF6,.slice fB nb.rws.length cR6]);have wW:=Lib.hid (setRow_heap w10 X _ #[.slice fE AA.length cW6,.slice fA nb.AM.length cP6,.slice eZ nb.AO.length cL6,.slice eu nb.AG.length cN'6,.slice fG nb.AL.length cX6,.slice fC nb.sn.length cT6,.slice eY nb.fr.length cF6,.slice fB nb.rws.length cR6] _ _ hX10);have HK6:=Lib.hid (K10.grown HG.out (fun q hq=>by have:=Option.some.inj hq;have:=HX0.out;omega));have HR6:=Lib.hid ((V6.far HG.out (fun q hq=>by have:=Option.some.inj hq;rw[A7] at hbs6 ⊢;omega)).rd0);have hS11:∀j,j<(Ad AA b').length->(w10.setRow X #[.slice fE AA.length cW6,.slice fA nb.AM.length cP6,.slice eZ nb.AO.length cL6,.slice eu nb.AG.length cN'6,.slice fG nb.AL.length cX6,.slice fC nb.sn.length cT6,.slice eY nb.fr.length cF6,.slice fB nb.rws.length cR6]).cell? ⟨bp,op'+j,none⟩=some (.int .i64 (PF j)):=fun j hj=>(World.cell?_of_block (HG.out.block bp (by have:bp<w9.heap.size:=wJ;omega) (fun e=>rQ (Option.some.inj e)))).trans (hS10 j hj)
        refine wpAnyH_ready (rs:=[13]) (by kernel_rfl) (by simp) ?_;refine AllReadyH.cons rfl (fun K hK=>?_) AllReadyH.nil;rw[if_pos (by simp[Region.wanted])];refine wp_store_row 36 _ _ rfl X _ rfl rfl 36 _ hX10 AK rfl (by simp[Value.oneCell']) ?_;refine hK.out _ _ ?_ (fun hHeld=>?_)
        . exact hS11
        clear hK K hHeld hS10 hS11 V6 hX10 K10;refine wpAnyH_done (by kernel_rfl) ?_ _;simp only[Act.put];go_wp2;go_roundw;case rel=>exact⟨k+1,⟨.slice fE AA.length cW6,.slice fA nb.AM.length cP6,.slice eZ nb.AO.length cL6,.slice eu nb.AG.length cN'6,.slice fG nb.AL.length cX6,.slice fC nb.sn.length cT6,.slice eY nb.fr.length cF6,.slice fB nb.rws.length cR6⟩,nb,by push_cast;rfl,G6.out,R6.out,HR6.out,wW.out,HK6.out⟩
        case measure=>simp[intOf];omega
set_option maxRecDepth 100000 in
theorem lifted (os:Os)(started:os.Started)(H:Type)(enc:TypeId×Value->H):
  ReturnsInHanded {} Tryz.checked os 3 .any (Rows.fnEndsSpec.pre6 enc Tryz.prog Tryz.f3 Rows.fnEndsRow.domain false) (Rows.fnEndsSpec.post enc Tryz.prog Tryz.f3 false true false false):=by
 refine returnsInHanded_of_change (C:=Tryz.checked) own started (by kernel_rfl) Tryz.func3
  (ChangeSpec.witness6 (enc:=enc) (C:=Tryz.checked) false ⟨#[],#[.slice none 0 0],[]⟩ 8 (by kernel_rfl) (by kernel_rfl) (by kernel_rfl) (by kernel_rfl)) ?_
 intro W base args ds gs before hval0 hW hcnd _;have hval:∀(j:Nat) t v,Tryz.f3.params[j]? = some t->args[j]? = some v->Value.okWide Tryz.prog W .any base t v:=hval0;have hW':=hW;obtain⟨p,q,hA0,hV,rfl,hfz,hnd⟩:=hW;have hA:DataW.TrodAll enc Tryz.prog W 0 (fun _=>true) true Tryz.f3.params.toList args.toList ds p:=hA0;rw[Tryz.params3] at hA hval;obtain⟨v0,vs0,d0,ds0,p0,q0,hargs,rfl,rfl,h0,r0⟩:=trodAll_cons hA;obtain⟨rfl,rfl,rfl⟩:=trodAll_nil r0;obtain rfl:args=#[v0]:=by cases args;simp_all
 obtain⟨rfl,rfl⟩:=trodVars_none hV;have k0:=h0;have lt0:∀x∈p0,x.block<W.heap.size:=by obtain⟨m,hm⟩:=k0;exact DataW.trod_lt m _ _ _ hm
 obtain⟨a0,len0,cap0,rfl⟩:=okWide_slice Tryz.underlying22 (hval 0 22 v0 rfl rfl)
 obtain⟨z0,w0⟩:∃zs,IsRow .u8 W a0 len0 cap0 zs:=by
  obtain⟨fuel,hf⟩:=h0;rcases open_ints Tryz.underlying22 Tryz.underlying5 (by kernel_rfl) hf with ⟨hcs,_⟩|⟨x,l,c,zs,hcs,_,hl,hm,hz,_,hcell,hwz⟩
  ·
   simp[Value.cells] at hcs;obtain⟨rfl,rfl,rfl⟩:=hcs;exact⟨[],.inl ⟨rfl,rfl,rfl,rfl⟩⟩
  ·
   simp[Value.cells] at hcs;obtain⟨rfl,rfl,rfl⟩:=hcs;exact⟨zs,.inr ⟨_,rfl,hl,hm,by simpa using hz,hcell,hwz⟩⟩
 clear hA0 hval0;refine (walk a0 len0 cap0 z0 W w0).mono fun e W' ⟨he,bel⟩=>?_
 subst he;exact⟨_,rfl,_,_,_,[],_,[],hW',trodAll_mk1 (shut_bool Tryz.underlying4 _),(trodAll_cons_mk (Below.trod laidOut (by kernel_rfl) (of_decide_eq_true (by kernel_rfl)) k0 bel lt0) trodAll_mk0),rfl,bel.frame _,fun h=>by cases h⟩
theorem over:Rows.fnEndsRow.holds Tryz.pinned (OpenSpec.ofChange Rows.fnEndsSpec):=
 OpenClaim.holds_of_wide 3 Tryz.f3 rfl rfl rfl rfl rfl rfl rfl ⟨rfl,rfl,rfl,rfl,rfl⟩ rfl rfl rfl rfl rfl (by kernel_rfl) Tryz.func3 (by kernel_rfl)
  (of_decide_eq_true (by kernel_rfl)) (by unfold Func.isWrapper;first|(rw[if_pos (by decide +kernel)];kernel_rfl)|(rw[if_neg (by decide +kernel)];exact⟨rfl,rfl⟩))
  (fun os started H enc _=>lifted os started H enc)
#print axioms over
end Go.Proofs.YtnmelakgmgenjaaGreat.fnEnds
namespace Go.Proofs.YtnmelakgmgenjaaGreat
theorem fnEnds_holds:Rows.FnEndsSaid:=fnEnds.over
end Go.Proofs.YtnmelakgmgenjaaGreat
