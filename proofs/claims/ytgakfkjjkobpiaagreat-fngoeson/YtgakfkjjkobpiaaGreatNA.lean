/- Gathered texts. -/
import Derived.Test.YtgakfkjjkobpiaaGreatMW
import Derived.Test.YtgakfkjjkobpiaaGreatMZ
import Derived.Defers
import Derived.Recover
import Derived.Lib.Hide
import Derived.Laws.Rows
import Derived.Deep.Cut
set_option maxRecDepth 100000
set_option maxHeartbeats 8000000
namespace Go.Proofs.YtgakfkjjkobpiaaGreat
open Go.ChangeShapes Go.WideShapes Go.ChangeAt Go.RowKit
theorem QC (w:World)(v vs:Value)(AA:List (List Dd))(steps:List Int)(h:Ic w v AA)(hs:Rd w vs steps)(hx:AA.length<=1048576)(hm:∀i,i<AA.length->(AA.getD i []).length<=1048576)(hl:steps.length<=1048576):
  Calls Tryz.prog 30 #[v,vs] w fun e w'=>∃bv':BV,e = .returned (.tuple #[bv'.agg,.bool (Hu AA steps)])/\Ct w' w.heap.size w'.heap.size bv' (J1 AA steps) (J0 AA steps)/\AC w w':=by
 have CN:=fun (W:World) (kW:AC w W)=>Jv W v AA (h.keep kW) hx hm
 have XS:=Lib.hid hs;obtain⟨aV,cV,rfl,-⟩:=id h;obtain⟨aS,cS,rfl,-⟩:=id hs;clear h hs hm;obtain⟨w1,hw1⟩:∃W:World,W=w.alloc (.cells #[AE,AE,AE,AE,AE,AE,AE,AE] 30):=⟨_,rfl⟩;have K1:AC w w1:=by rw[hw1];exact (AC.refl w).alloc _
 have s1:w.heap.size<w1.heap.size:=by rw[hw1,AD];omega
 have hR1:w1.heap[w.heap.size]? = some (.cells #[AE,AE,AE,AE,AE,AE,AE,AE] 30 (0,0)):=by rw[hw1];exact heap_alloc_new _ _
 go_enter Tryz.func30,Tryz.ntmps30
 go_upto_region 1 with fail
 rw[<-hw1];clear hw1;go_wp2_with fail
 refine (CN _ K1).mono ?_;rintro e w2 ⟨bv,rfl,F2,k2⟩;obtain⟨uW,uP,uL,uN,uX,uS,uF,uR,vG,vC,uy,uz,vH,vE,uw,vD,rfl⟩:=F2.rd.shapes;have K2:=K1.trans k2;have s2:=k2.size;have hR2:=(Below.block k2 w.heap.size s1).trans hR1;obtain⟨w3,hw3⟩:∃W:World,W=w2.alloc (.cells #[.slice uW (MG AA).length vG,.slice uP (Dn AA).AM.length vC,.slice uL (Dn AA).AQ.length uy,.slice uN (Dn AA).AH.length uz,.slice uX (Dn AA).AL.length vH,.slice uS (Dn AA).sn.length vE,.slice uF (Dn AA).fr.length uw,.slice uR (Dn AA).rws.length vD] 30):=⟨_,rfl⟩;have k3:AC w2 w3:=by rw[hw3];exact (AC.refl w2).alloc _
 have hM3:w3.heap[w2.heap.size]? = some (.cells #[.slice uW (MG AA).length vG,.slice uP (Dn AA).AM.length vC,.slice uL (Dn AA).AQ.length uy,.slice uN (Dn AA).AH.length uz,.slice uX (Dn AA).AL.length vH,.slice uS (Dn AA).sn.length vE,.slice uF (Dn AA).fr.length uw,.slice uR (Dn AA).rws.length vD] 30 (0,0)):=by rw[hw3];exact heap_alloc_new _ _
 have s3:w2.heap.size<w3.heap.size:=by rw[hw3,AD];omega
 have K3:=K2.trans k3;have xE:=Lib.hid ((F2.keep k3).wide (Nat.le_refl _) (show w2.heap.size<=w3.heap.size by omega));have xJ:=Lib.hid ((Below.block k3 w.heap.size (by omega)).trans hR2);have XM3:=Lib.hid hM3;go_upto_region 2 with fail
 rw[<-hw3];clear hw3 F2 hM3 hR1 hR2 CN k2 k3 K2 K1;cases hT:Hu AA steps
 ·
  have HD:Hid (J1 AA steps=[]):=Lib.hid (by unfold J1;rw[hT];rfl);have HB:Hid (J0 AA steps=PR):=Lib.hid (by unfold J0;rw[hT];rfl);have hR:=xJ.out;have HG:=Lib.hid (AV w3 w.heap.size #[AE,AE,AE,AE,AE,AE,AE,AE]);have HZ:=Lib.hid (setRow_heap w3 w.heap.size _ #[AE,AE,AE,AE,AE,AE,AE,AE] _ _ hR);have HK:=Lib.hid (K3.grown HG.out (fun q hq=>Nat.le_of_eq (Option.some.inj hq)))
  have hT2:AW AA=false\/40<steps.length:=by
   unfold Hu at hT
   cases hw:AW AA with
   |false=>exact .inl rfl
   |true=>
    rw[hw] at hT;right;by_cases q:steps.length<=40
    . rw[decide_eq_true q] at hT;simp at hT
    . omega
  have Q9:=Lib.hid hT;clear K3 hT
  cases hw:AW AA with
  |false=>
   go_wp2_with (first|refine wpList_store_row rfl 30 _ _ rfl w.heap.size _ rfl rfl 30 _ hR AF rfl (by simp[Value.oneCell']) ?_|fail)
   refine bodyPost_ret (AZ (by rfl) _ _ w.heap.size _ _ (0,0) _ (.bool false) rfl HZ.out rfl Tryz.underlying30 rfl AF) rfl ?_;exact⟨Ts,by rw[Q9.out],by rw[HD.out,HB.out];exact (IK _ _).free,HK.out⟩
  |true=>
   have h40:40<steps.length:=by rcases hT2 with q|q;(rw[hw] at q;cases q);exact q
   have i40:(40:Int)<(steps.length:Int):=by omega
   have d40:decide (40<steps.length)=true:=decide_eq_true h40;go_wp2_with (first|refine wpList_store_row rfl 30 _ _ rfl w.heap.size _ rfl rfl 30 _ hR AF rfl (by simp[Value.oneCell']) ?_|fail)
   refine bodyPost_ret (AZ (by rfl) _ _ w.heap.size _ _ (0,0) _ (.bool false) rfl HZ.out rfl Tryz.underlying30 rfl AF) rfl ?_;exact⟨Ts,by rw[Q9.out],by rw[HD.out,HB.out];exact (IK _ _).free,HK.out⟩
 have hw:AW AA=true:=by unfold Hu at hT;simp at hT;exact hT.1
 have h40:steps.length<=40:=by unfold Hu at hT;simp at hT;exact hT.2
 have HD:Hid (J1 AA steps=AA):=Lib.hid (by unfold J1;rw[hT];rfl);have HB:Hid (J0 AA steps=Bw AA (AB AA) (Bq AA) steps):=Lib.hid (by unfold J0;rw[hT];rfl)
 have XF:Hid (Ct w3 w1.heap.size w3.heap.size ⟨.slice uW (MG AA).length vG,.slice uP (Dn AA).AM.length vC,.slice uL (Dn AA).AQ.length uy,.slice uN (Dn AA).AH.length uz,.slice uX (Dn AA).AL.length vH,.slice uS (Dn AA).sn.length vE,.slice uF (Dn AA).fr.length uw,.slice uR (Dn AA).rws.length vD⟩ AA (Bw AA (AB AA) (Bq AA) (steps.take 0))):=Lib.hid (by
  have:=xE.out;rw[show MG AA=AA by unfold MG;rw[if_pos hw],show Dn AA=Bq AA by unfold Dn;rw[if_pos hw]] at this;rw[show MG AA=AA by unfold MG;rw[if_pos hw],show Dn AA=Bq AA by unfold Dn;rw[if_pos hw]]
  exact this)
 have R0:Hid (JA AA (Bw AA (AB AA) (Bq AA) (steps.take 0))):=Lib.hid (JA.new hw);have HW:=Lib.hid hw;have i40:¬(40:Int)<(steps.length:Int):=by omega
 have d40:decide (40<steps.length)=false:=decide_eq_false (by omega);have xG:=Lib.hid K3;have Q9:=Lib.hid hT;clear hT xE K3;rw[hw];go_wp2;go_loopw [9,25] (fun _ i wr=>∃(j:Nat) (bj:BV) (mj Mj:Nat),j<=steps.length/\i = .int .i64 j/\AC w wr/\wr.heap[w.heap.size]? = some (.cells #[AE,AE,AE,AE,AE,AE,AE,AE] 30 (0,0))/\wr.heap[w2.heap.size]? = some (.cells (BV.arr bj) 30 (0,0))/\Ct wr mj Mj bj AA (Bw AA (AB AA) (Bq AA) (steps.take j))/\w.heap.size<mj/\Mj<=wr.heap.size/\w3.heap.size<=wr.heap.size/\JA AA (Bw AA (AB AA) (Bq AA) (steps.take j))/\w.heap.size<w2.heap.size) (fun _ i _=>steps.length-(intOf i).toNat)
 case atStart=>exact⟨0,_,_,_,Nat.zero_le _,rfl,xG.out,xJ.out,XM3.out,XF.out,s1,Nat.le_refl _,Nat.le_refl _,R0.out,by omega⟩
 case round=>
  obtain⟨j,bj,mj,Mj,hj,rfl,kr,hRr,ku,Fr,tT,hMj,hsr,Rr,hwz⟩:=hrel;clear XF xG;have XFr:=Lib.hid Fr;have rX:=Lib.hid Rr;have XKr:=Lib.hid kr;by_cases hlt:j<steps.length
  ·
   obtain⟨a',c',he',hc'⟩:=XS.out.keep kr;simp only[Value.slice.injEq,true_and] at he';obtain⟨rfl,rfl⟩:=he';rcases hc' with q|⟨bS,oS,rfl,hbS,dS⟩
   . exfalso;rw[q] at hlt;simp at hlt
   have d1:=dS j hlt;obtain⟨sj,hsj⟩:∃sj,sj=steps.getD j 0:=⟨_,rfl⟩;rw[<-hsj] at d1;obtain⟨bb,hbb⟩:∃bb,bb=Bw AA (AB AA) (Bq AA) (steps.take j):=⟨_,rfl⟩;have iU:=Lib.hid hbb;have Tn:=Lib.hid hsj;have i1:(0:Int)<=(j:Int):=Int.natCast_nonneg _;have i2:(j:Int)<(steps.length:Int):=by omega
   have hbr:Af AA bb=true:=by rw[hbb];exact Rr.board HW.out
   have CS:=DM wr bj AA bb sj (by rw[hbb];exact Fr.rd) ((EF.of hbr).sz (by omega));have hM2:wr.heap[w2.heap.size]? = some (.cells bj.arr 30 (0,0)):=ku;obtain⟨b0,b1,b2,b3,b4,b5,b6,b7⟩:=bj;clear dS Fr Rr kr hbb hsj;go_wp2_with (first|refine wpList_load_row rfl 30 _ rfl w2.heap.size rfl 30 _ (0,0) _ hM2 Tryz.underlying30 rfl AF ?_|fail)
   refine CS.mono ?_;rintro e w5 ⟨bv5,rfl,F5,k5⟩;have hD2:FT AA bb=AA:=by unfold FT;rw[if_pos hbr]
   have hB2:Bw AA (AB AA) (Bq AA) (steps.take (j+1))=Em AA bb sj:=by
    unfold Em EA;rw[if_pos hbr]
    cases hp:Dx (Ae AA bb) sj with
    |true=>rw[if_pos rfl,Tb hlt (by rw[<-iU.out,<-Tn.out];exact hp),<-iU.out,<-Tn.out]
    |false=>rw[if_neg (by simp),Ql hlt (by rw[<-iU.out,<-Tn.out];exact hp),<-iU.out]
   have R5:Hid (JA AA (Bw AA (AB AA) (Bq AA) (steps.take (j+1)))):=Lib.hid (by
    rw[hB2];unfold Em EA;rw[if_pos hbr]
    cases hp:Dx (Ae AA bb) sj with
    |true=>rw[if_pos rfl];exact JA.step HW.out (by rw[iU.out];exact rX.out) hp
    |false=>rw[if_neg (by simp),iU.out];exact rX.out)
   rw[hD2,<-hB2] at F5;obtain⟨B2,fC⟩:∃B2,B2=Bw AA (AB AA) (Bq AA) (steps.take (j+1)):=⟨_,rfl⟩;have rQ:=Lib.hid fC;rw[<-fC] at F5;obtain⟨D2,yI⟩:∃D2,D2=AA:=⟨_,rfl⟩;have XDD:=Lib.hid yI;obtain⟨yW,yP,yL,yN,yX,yS,yF,yR,aZ,aQ,aK,aO,af,aY,aJ,aU,rfl⟩:=F5.rd.shapes;have s5:=k5.size;have hR5:=(Below.block k5 w.heap.size (by omega)).trans hRr;have hM5:=(Below.block k5 w2.heap.size (by omega)).trans ku;have HG:=Lib.hid (AV w5 w2.heap.size #[.slice yW AA.length aZ,.slice yP B2.AM.length aQ,.slice yL B2.AQ.length aK,.slice yN B2.AH.length aO,.slice yX B2.AL.length af,.slice yS B2.sn.length aY,.slice yF B2.fr.length aJ,.slice yR B2.rws.length aU]);have HZ:=Lib.hid (setRow_heap w5 w2.heap.size _ #[.slice yW AA.length aZ,.slice yP B2.AM.length aQ,.slice yL B2.AQ.length aK,.slice yN B2.AH.length aO,.slice yX B2.AL.length af,.slice yS B2.sn.length aY,.slice yF B2.fr.length aJ,.slice yR B2.rws.length aU] _ _ hM5);have HF:=Lib.hid (F5.above (w':=w5.setRow w2.heap.size #[.slice yW AA.length aZ,.slice yP B2.AM.length aQ,.slice yL B2.AQ.length aK,.slice yN B2.AH.length aO,.slice yX B2.AL.length af,.slice yS B2.sn.length aY,.slice yF B2.fr.length aJ,.slice yR B2.rws.length aU]) (fun q h1 h2=>HG.out.block q h2 (fun e=>by have:=Option.some.inj e;omega)) HG.out.size);have HK:=Lib.hid ((XKr.out.trans k5).grown HG.out (fun q hq=>by have:=Option.some.inj hq;omega));have HR:=Lib.hid ((HG.out.block w.heap.size (by omega) (fun e=>by have:=Option.some.inj e;omega)).trans hR5);have sZ:=HG.out.size;clear F5 hD2 hB2 fC yI hR5 CS hM2;go_wp2_with (first|refine wpList_store_row rfl 30 _ _ rfl w2.heap.size _ rfl rfl 30 _ hM5 AF rfl (by simp[Value.oneCell']) ?_|fail)
   go_roundw;case rel=>exact⟨j+1,_,wr.heap.size,w5.heap.size,by omega,by go_num,HK.out,HR.out,HZ.out,by rw[<-rQ.out];exact HF.out,by omega,sZ,by omega,R5.out,hwz⟩
   case measure=>simp[intOf];omega
  ·
   obtain rfl:j=steps.length:=by omega
   rw[List.take_length] at Fr;have hM2:wr.heap[w2.heap.size]? = some (.cells bj.arr 30 (0,0)):=ku;obtain⟨BB,fC⟩:∃BB,BB=Bw AA (AB AA) (Bq AA) steps:=⟨_,rfl⟩;rw[<-fC] at Fr;have rQ:=Lib.hid fC;obtain⟨yW,yP,yL,yN,yX,yS,yF,yR,aZ,aQ,aK,aO,af,aY,aJ,aU,yg⟩:=Fr.rd.shapes;subst yg;have HG:=Lib.hid (AV wr w.heap.size #[.slice yW AA.length aZ,.slice yP BB.AM.length aQ,.slice yL BB.AQ.length aK,.slice yN BB.AH.length aO,.slice yX BB.AL.length af,.slice yS BB.sn.length aY,.slice yF BB.fr.length aJ,.slice yR BB.rws.length aU]);have HZ:=Lib.hid (setRow_heap wr w.heap.size _ #[.slice yW AA.length aZ,.slice yP BB.AM.length aQ,.slice yL BB.AQ.length aK,.slice yN BB.AH.length aO,.slice yX BB.AL.length af,.slice yS BB.sn.length aY,.slice yF BB.fr.length aJ,.slice yR BB.rws.length aU] _ _ hRr);have XFF:=Lib.hid ((Fr.above (w':=wr.setRow w.heap.size #[.slice yW AA.length aZ,.slice yP BB.AM.length aQ,.slice yL BB.AQ.length aK,.slice yN BB.AH.length aO,.slice yX BB.AL.length af,.slice yS BB.sn.length aY,.slice yF BB.fr.length aJ,.slice yR BB.rws.length aU]) (fun q h1 h2=>HG.out.block q h2 (fun e=>by have:=Option.some.inj e;omega)) HG.out.size).wide (Nat.le_of_lt tT) (Nat.le_trans hMj HG.out.size));have HKK:=Lib.hid (kr.grown HG.out (fun q hq=>Nat.le_of_eq (Option.some.inj hq)));clear Fr fC XFr rX;go_wp2_with (first|refine wpList_load_row rfl 30 _ rfl w2.heap.size rfl 30 _ (0,0) _ hM2 Tryz.underlying30 rfl AF ?_|refine wpList_store_row rfl 30 _ _ rfl w.heap.size _ rfl rfl 30 _ hRr AF rfl (by simp[Value.oneCell']) ?_|fail)
   refine bodyPost_ret (AZ (by rfl) _ _ w.heap.size _ _ (0,0) _ (.bool true) rfl HZ.out rfl Tryz.underlying30 rfl AF) rfl ?_;exact⟨⟨.slice yW AA.length aZ,.slice yP BB.AM.length aQ,.slice yL BB.AQ.length aK,.slice yN BB.AH.length aO,.slice yX BB.AL.length af,.slice yS BB.sn.length aY,.slice yF BB.fr.length aJ,.slice yR BB.rws.length aU⟩,by rw[Q9.out],by rw[HD.out,HB.out,<-rQ.out];exact XFF.out,HKK.out⟩
theorem QG (w:World)(v:BV)(AA:List (List Dd))(b:Bd)(h:CJ w v AA b)(hd:AA.length<=1048576)(hx:AA.length<=b.AL.length)(hn:AA.length<=b.AH.length):
  Calls Tryz.prog 51 #[v.agg] w fun e w'=>e = .returned (.bool (Pv AA b))/\AC w w':=by
 obtain⟨aW,aP,aL,aN,aX,aS,aF,aR,cW,cP,cL,cN,cX,cS,cF,cR,rfl⟩:=h.shapes;have KW:AC w (w.alloc (.cells #[.slice aW AA.length cW,.slice aP b.AM.length cP,.slice aL b.AQ.length cL,.slice aN b.AH.length cN,.slice aX b.AL.length cX,.slice aS b.sn.length cS,.slice aF b.fr.length cF,.slice aR b.rws.length cR] 30)):=(AC.refl w).alloc _;have c0:(w.alloc (.cells #[.slice aW AA.length cW,.slice aP b.AM.length cP,.slice aL b.AQ.length cL,.slice aN b.AH.length cN,.slice aX b.AL.length cX,.slice aS b.sn.length cS,.slice aF b.fr.length cF,.slice aR b.rws.length cR] 30)).cell? ⟨w.heap.size,0,none⟩=some (.slice aW AA.length cW):=AS (AC.refl _) 0;have c3:(w.alloc (.cells #[.slice aW AA.length cW,.slice aP b.AM.length cP,.slice aL b.AQ.length cL,.slice aN b.AH.length cN,.slice aX b.AL.length cX,.slice aS b.sn.length cS,.slice aF b.fr.length cF,.slice aR b.rws.length cR] 30)).cell? ⟨w.heap.size,3,none⟩=some (.slice aN b.AH.length cN):=AS (AC.refl _) 3;have c4:(w.alloc (.cells #[.slice aW AA.length cW,.slice aP b.AM.length cP,.slice aL b.AQ.length cL,.slice aN b.AH.length cN,.slice aX b.AL.length cX,.slice aS b.sn.length cS,.slice aF b.fr.length cF,.slice aR b.rws.length cR] 30)).cell? ⟨w.heap.size,4,none⟩=some (.slice aX b.AL.length cX):=AS (AC.refl _) 4;have h':=h.keep KW;go_enter Tryz.func51,Tryz.ntmps51
 go_wp2;generalize (w.alloc (.cells #[.slice aW AA.length cW,.slice aP b.AM.length cP,.slice aL b.AQ.length cL,.slice aN b.AH.length cN,.slice aX b.AL.length cX,.slice aS b.sn.length cS,.slice aF b.fr.length cF,.slice aR b.rws.length cR] 30))=w1 at *;have HH:=Lib.hid h';clear h h';go_loopw [3,4,8] (fun _ _ i wr=>∃k:Nat,k<=AA.length/\i = .int .i64 k/\Hid (∀j,j<k->(decide (((AA.getD j []).length:Int)<=b.AL.getD j 0)&&(b.AH.getD j []).isEmpty)=true)/\wr=w1) (fun _ _ i _=>AA.length-(intOf i).toNat)
 case atStart=>exact⟨0,Nat.zero_le _,rfl,Lib.hid (fun j hj=>absurd hj (Nat.not_lt_zero _)),rfl⟩
 case round=>
  obtain⟨k,hk,rfl,hno,rfl⟩:=hrel;by_cases hlt:k<AA.length
  ·
   have lX:k<b.AL.length:=by omega
   have lN:k<b.AH.length:=by omega
   obtain⟨a',c',he',hX⟩:=HH.out.X;simp only[Value.slice.injEq,true_and] at he';obtain⟨rfl,rfl⟩:=he';rcases hX with h0|⟨bx,ox,rfl,hbx,hcx⟩
   . exfalso;rw[h0] at lX;simp at lX
   obtain⟨a',c',he',hW⟩:=HH.out.W;simp only[Value.slice.injEq,true_and] at he';obtain⟨rfl,rfl⟩:=he';rcases hW with h0|⟨bw,ow,rfl,hbw,hcw⟩
   . exfalso;rw[h0] at hlt;simp at hlt
   obtain⟨a',c',he',hN⟩:=HH.out.N;simp only[Value.slice.injEq,true_and] at he';obtain⟨rfl,rfl⟩:=he';rcases hN with h0|⟨bn,on,rfl,hbn,hcn⟩
   . exfalso;rw[h0] at lN;simp at lN
   have d1:=hcx k lX;obtain⟨vw,d2,r2⟩:=hcw k hlt;obtain⟨vn,d3,r3⟩:=hcn k lN;have HF:(decide (((AA.getD k []).length:Int)<=b.AL.getD k 0)&&(b.AH.getD k []).isEmpty)=false->Hid (Pv AA b=false):=fun e=>Lib.hid (DI hlt e)
   have HT:(decide (((AA.getD k []).length:Int)<=b.AL.getD k 0)&&(b.AH.getD k []).isEmpty)=true->Hid (∀j,j<k+1->(decide (((AA.getD j []).length:Int)<=b.AL.getD j 0)&&(b.AH.getD j []).isEmpty)=true):=fun e=>Lib.hid (fun j hj=>by
    by_cases e':j=k
    . rw[e'];exact e
    . exact hno.out j (by omega))
   obtain⟨aw,cw,rfl,-⟩:=r2;obtain⟨an,cn,rfl,-⟩:=r3;generalize b.AL.getD k 0=x at d1 HF HT;generalize (AA.getD k []).length=wl at d2 HF HT;generalize b.AH.getD k []=ns at d3 HF HT;have j1:(0:Int)<=(k:Int):=Int.natCast_nonneg _;have j2:(k:Int)<(AA.length:Int):=by omega
   have j3:(k:Int)<(b.AL.length:Int):=by omega
   have j4:(k:Int)<(b.AH.length:Int):=by omega
   clear hcx hcw hcn hno HH;by_cases t1:x<(wl:Int)
   ·
    have HE:=HF (by rw[decide_eq_false (by omega)];rfl);clear HF HT;go_wp2;go_ret;exact⟨by rw[HE.out];rfl,KW⟩
   have t1':decide (x<(wl:Int))=false:=decide_eq_false t1;by_cases t2:0<ns.length
   ·
    have HE:=HF (by
     have:ns.isEmpty=false:=by cases ns with|nil=>simp at t2|cons _ _=>rfl
     rw[this];simp)
    have t2':decide (0<ns.length)=true:=decide_eq_true t2;clear HF HT t1;go_wp2;go_ret;exact⟨by rw[HE.out];rfl,KW⟩
   ·
    have HE:=HT (by
     have:ns.isEmpty=true:=by cases ns with|nil=>rfl|cons _ _=>simp at t2
     rw[this,decide_eq_true (by omega)];rfl)
    have t2':decide (0<ns.length)=false:=decide_eq_false t2;clear HF HT t1 t2;go_wp2;go_roundw;case rel=>exact⟨k+1,by omega,by go_num,HE,trivial⟩
    case measure=>simp[intOf];omega
  ·
   obtain rfl:k=AA.length:=by omega
   have HE:Hid (Pv AA b=true):=Lib.hid (Dc hno.out);go_wp2;go_ret;exact⟨by rw[HE.out];rfl,KW⟩
theorem Rk (p0:Addr)(w:World):CallsD Tryz.prog 50 #[.pointer (some p0)] .returning w fun e u' w'=>e = .returned (.tuple #[])/\u' = .returning/\w'=w:=by
 refine callsD_of_wpS Tryz.func50 rfl fun c₀ cs hu=>?_
 apply wpS_seq;apply wpS_region;have hn:∀w:World,(binOp BinOp.neq 20 .nilIface .nilIface).run Tryz.prog w = .ok (.bool false) w:=fun _=>by kernel_rfl
 simp[wpOpsS,go_sem,recoverD,hu,Tryz.ntmps50,Exit.thenS,hn];refine wpS_cond (t:=false) (by simp[Act.eval,Array.replicate]) ?_;simp only[Bool.false_eq_true,if_false];refine wpS_of_wp (wp_skip ?_);cases c₀;simp_all [bodyPostS,results,Tryz.results50]
theorem UC (g:Nat)(w:World)(x:Value)(hg:w.heap[g]? = some (.cells #[x] 4 (0,0))):CallsD Tryz.prog 50 #[.pointer (some ⟨g,0,none⟩)] (.panicking [{ v:=Xw,recovered:=false }]) w fun e u' w'=>e = .returned (.tuple #[])/\u' = .panicking [{ v:=Xw,recovered:=true }]/\w'=w.setCell ⟨g,0,none⟩ (.bool false):=by
 have hc:w.cell? ⟨g,0,none⟩=some x:=by rw[cell_of_row w g 0 _ _ _ hg];rfl
 have hf:w.frozen? ⟨g,0,none⟩=false:=frozen_of_row w g 0 _ _ hg;have hv:∀w:World,(binOp BinOp.neq 20 Xw .nilIface).run Tryz.prog w = .ok (.bool true) w:=fun _=>by kernel_rfl
 refine callsD_of_wpS Tryz.func50 rfl fun c₀ cs hu=>?_
 apply wpS_seq;apply wpS_region;simp[wpOpsS,go_sem,recoverD,hu,Tryz.ntmps50,Exit.thenS,hv];refine wpS_cond (t:=true) (by simp[Act.eval,Array.replicate]) ?_;simp only[if_true];refine wpS_of_wp ?_;go_wp2;cases c₀;simp_all [bodyPostS,results,Tryz.results50]
theorem Mu (w:World)(v:BV)(AA:List (List Dd))(b:Bd)(h:CJ w v AA b)(hz:Cg AA b):
  Calls Tryz.prog 15 #[v.agg] w fun e w'=>e = .returned (.bool (Jp AA b))/\AC w w':=by
 obtain⟨aW,aP,aL,aN,aX,aS,aF,aR,cW,cP,cL,cN,cX,cS,cF,cR,rfl⟩:=h.shapes;have C:=fun (W:World) (kW:AC w W)=>Ih W _ AA b (h.keep kW) hz
 have HH:=Lib.hid h;have HZ:=Lib.hid hz;clear h hz;have yU:∀(fn:Fn) (first cap:Array Value) (w:World),(Instr.makeFunc fn first cap).run Tryz.prog w = .ok (.func fn first cap) w:=fun _ _ _ _=>rfl
 obtain⟨w1,hw1⟩:∃W:World,W=((w.alloc (.cells #[.slice aW AA.length cW,.slice aP b.AM.length cP,.slice aL b.AQ.length cL,.slice aN b.AH.length cN,.slice aX b.AL.length cX,.slice aS b.sn.length cS,.slice aF b.fr.length cF,.slice aR b.rws.length cR] 30)).alloc (.cells #[.bool false] 4)):=⟨_,rfl⟩;have K1:AC w w1:=by rw[hw1];exact ((AC.refl w).alloc _).alloc _
 have s1:w1.heap.size=w.heap.size+2:=by rw[hw1,AD,AD]
 have hR1:w1.heap[w.heap.size+1]? = some (.cells #[.bool false] 4 (0,0)):=by
  rw[hw1,<-AD w (.cells #[.slice aW AA.length cW,.slice aP b.AM.length cP,.slice aL b.AQ.length cL,.slice aN b.AH.length cN,.slice aX b.AL.length cX,.slice aS b.sn.length cS,.slice aF b.fr.length cF,.slice aR b.rws.length cR] 30)];exact heap_alloc_new _ _
 have hB1:w1.heap[w.heap.size]? = some (.cells #[.slice aW AA.length cW,.slice aP b.AM.length cP,.slice aL b.AQ.length cL,.slice aN b.AH.length cN,.slice aX b.AL.length cX,.slice aS b.sn.length cS,.slice aF b.fr.length cF,.slice aR b.rws.length cR] 30 (0,0)):=by rw[hw1];exact (Below.block ((AC.refl _).alloc _) _ (by rw[AD];omega)).trans (heap_alloc_new _ _)
 go_enter_defers Tryz.func15,Tryz.ntmps15
 go_upto_region 2 with fail
 rw[<-hw1];clear hw1;go_wp2_with (first|refine wpList_load_row rfl 30 _ rfl w.heap.size rfl 30 _ (0,0) _ hB1 Tryz.underlying30 rfl AF ?_|fail)
 refine (C _ K1).mono ?_;rintro e w2 ⟨rfl,k2⟩;have K2:=K1.trans k2;have hR2:=(Below.block k2 (w.heap.size+1) (by omega)).trans hR1;cases hb:Af AA b
 ·
  rw[Ai rfl];have hS:=heap_setCell_same w2 (w.heap.size+1) 0 _ _ (.bool false) hR2;have hc:(w2.setCell ⟨w.heap.size+1,0,none⟩ (.bool false)).cell? ⟨w.heap.size+1,0,none⟩=some (.bool false):=by rw[cell_of_row _ _ 0 _ _ _ hS];rfl
  have KZ:=K2.grown (Ad w2 (w.heap.size+1) 0 (.bool false)) (fun k hk=>by have:=Option.some.inj hk;omega);go_wp2;refine leaves_cons (f:=50) (args:=#[.pointer (some ⟨w.heap.size+1,0,none⟩)]) (by simp) (by simp[go_sem]) ?_;refine (UC _ _ _ hR2).mono ?_;rintro e u' w9 ⟨rfl,rfl,rfl⟩;simp[Leaves,settle,results,Tryz.results15,go_sem,hc];exact⟨by unfold Jp;rw[hb];rfl,KZ⟩
 ·
  rw[Ay rfl];have hB2:=(Below.block k2 w.heap.size (by omega)).trans hB1;obtain⟨l1,l2⟩:=Rg hb;have CI:=QG w2 _ AA b (HH.out.keep K2) HZ.out.w1 (by omega) (by omega);clear l1 l2;go_wp2_with (first|refine wpList_load_row rfl 30 _ rfl w.heap.size rfl 30 _ (0,0) _ hB2 Tryz.underlying30 rfl AF ?_|fail)
  refine CI.mono ?_;rintro e w3 ⟨rfl,k3⟩;have K3:=K2.trans k3;have hR3:=(Below.block k3 (w.heap.size+1) (by have:=k2.size;omega)).trans hR2;have HE:Hid (Jp AA b=Pv AA b):=Lib.hid (by unfold Jp;rw[hb];rfl);clear hR2 hR1;generalize Pv AA b=Z at *;have hc0:w3.cell? ⟨w.heap.size+1,0,none⟩=some (.bool false):=by rw[cell_of_row w3 _ 0 _ _ _ hR3];rfl
  have hf:w3.frozen? ⟨w.heap.size+1,0,none⟩=false:=frozen_of_row w3 _ 0 _ _ hR3;have hS:=heap_setCell_same w3 (w.heap.size+1) 0 _ _ (.bool Z) hR3;have hc:(w3.setCell ⟨w.heap.size+1,0,none⟩ (.bool Z)).cell? ⟨w.heap.size+1,0,none⟩=some (.bool Z):=by rw[cell_of_row _ _ 0 _ _ _ hS];rfl
  have KZ:=K3.grown (Ad w3 (w.heap.size+1) 0 (.bool Z)) (fun k hk=>by have:=Option.some.inj hk;omega);go_wp2;refine leaves_cons (f:=50) (args:=#[.pointer (some ⟨w.heap.size+1,0,none⟩)]) (by simp) (by simp[go_sem]) ?_;refine (Rk _ _).mono ?_;rintro e u' w9 ⟨rfl,rfl,rfl⟩;simp[Leaves,settle,results,Tryz.results15,go_sem,hc];exact⟨HE.out.symm,KZ⟩
end Go.Proofs.YtgakfkjjkobpiaaGreat
