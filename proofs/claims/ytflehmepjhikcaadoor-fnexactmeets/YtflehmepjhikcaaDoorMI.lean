/- Gathered texts. -/
import Derived.BigQuiet
import Derived.Deep.Cut
import Derived.Lib.Hide
import Derived.Test.YtflehmepjhikcaaDoorMD
set_option maxRecDepth 100000
set_option maxHeartbeats 8000000
namespace Go.Proofs.YtflehmepjhikcaaDoor
open Go.ChangeShapes Go.WideShapes Go.ChangeAt Go.RowKit
theorem l18Meets_any (w:World)(vR vV vo:Value)(rs vs one:List Int)(hr:Rd w vR rs)(hv:Rd w vV vs)(ho:Rd w vo one)(l6:rs.length≤6)(hl:rs.length=vs.length)(lo:one.length≤1048576)(ha:∀i,i<rs.length→(0≤rs.getD i 0∧rs.getD i 0≤102)∧0≤atAk one.length (rs.getD i 0)∧atAk one.length (rs.getD i 0)<(one.length:Int)):
  Calls Tryd.prog 47 #[.agg #[vR,vV],vo] w fun e w'=>e = .returned (.bool (meetA rs vs one))∧Keep w w':=by
 obtain⟨aR,cR,rfl,hr⟩:=hr;obtain⟨aV,cV,rfl,hv⟩:=hv;obtain⟨ao,co,rfl,ho⟩:=ho;have HE:Hid (meetA rs vs one=meetP rs vs one rs.length):=Lib.hid rfl;have K1:Keep w (w.alloc (.cells #[.slice aR rs.length cR,.slice aV vs.length cV] 27)):=(Keep.refl w).alloc _;have HR:=Lib.hid hr;have HV:=Lib.hid hv;have HO:=Lib.hid ho;have HA:=Lib.hid ha;have XL:=Lib.hid hl;clear hr hv ho ha hl;obtain⟨wA,hwA⟩:∃W:World,W=w.alloc (.cells #[.slice aR rs.length cR,.slice aV vs.length cV] 27):=⟨_,rfl⟩;rw[←hwA] at K1;have b0:wA.cell? ⟨w.heap.size,0,none⟩=some (.slice aR rs.length cR):=by rw[hwA];exact box_cell (Keep.refl _) 0
 have b1:wA.cell? ⟨w.heap.size,1,none⟩=some (.slice aV vs.length cV):=by rw[hwA];exact box_cell (Keep.refl _) 1
 have s1:w.heap.size<wA.heap.size:=by rw[hwA,heap_size];omega
 go_enter Tryd.func47,Tryd.ntmps47
 go_upto_region 1 with fail
 rw[←hwA];clear hwA;have w3:IntKind.i64.wrap ((one.length:Int)-3)=(one.length:Int)-3:=by rw[IntKind.wrap_i64];omega
 obtain⟨n,hn⟩:∃n,n=one.length:=⟨_,rfl⟩;have XN:=Lib.hid hn;rw[←hn] at w3 lo ⊢;clear hn;go_wp2;go_loopw [6,7] (fun i s7 wr=>∃k:Nat,k≤rs.length∧i = .int .i64 k∧(∃u,s7=u)∧Hid (meetP rs vs one k=true)∧Hid (Keep wA wr)) (fun i _ _=>rs.length-(intOf i).toNat)
 case atStart=>exact⟨0,Nat.zero_le _,rfl,⟨_,rfl⟩,Lib.hid rfl,Lib.hid (Keep.refl _)⟩
 case round=>
  obtain⟨k,hk,rfl,⟨u7,rfl⟩,hq,hK⟩:=hrel;have f0:=(hK.out.cell s1).trans b0;have f1:=(hK.out.cell s1).trans b1;by_cases hlt:k<rs.length
  ·
   have hlt2:k<vs.length:=by have:=XL.out;omega
   rcases HR.out with q|⟨bR,oR,rfl,hbR,dR⟩
   · exfalso;rw[q] at hlt;simp at hlt
   rcases HV.out with q|⟨bV,oV,rfl,hbV,dV⟩
   · exfalso;rw[q] at hlt2;simp at hlt2
   obtain⟨⟨g0,g1⟩,g2,g3⟩:=HA.out k hlt;rcases HO.out with q|⟨bo,oo,rfl,hbo,dO⟩
   ·
    exfalso;have:one.length=0:=by rw[q];rfl
    omega
   have e1:=((K1.trans hK.out).cell hbR).trans (dR k hlt);have e2:=((K1.trans hK.out).cell hbV).trans (dV k hlt2);have e3:=((K1.trans hK.out).cell hbo).trans (dO (atAk one.length (rs.getD k 0)).toNat (by omega));have i1:(0:Int)≤(k:Int):=Int.natCast_nonneg _;have i2:(k:Int)<(rs.length:Int):=by omega
   have i3:(k:Int)<(vs.length:Int):=by omega
   have XS:Hid (meetP rs vs one (k+1)=decide (one.getD (atAk one.length (rs.getD k 0)).toNat 0=vs.getD k 0)):=Lib.hid (by
    show (meetP rs vs one k&&_)=_
    rw[hq.out,Bool.true_and])
   have hat:atAk one.length (rs.getD k 0)=if 100≤rs.getD k 0 then (one.length:Int)-3+rs.getD k 0-100 else rs.getD k 0:=rfl
   generalize one.getD (atAk one.length (rs.getD k 0)).toNat 0=z at e3 XS;generalize vs.getD k 0=y at e2 XS;generalize rs.getD k 0=x at e1 g0 g1 g2 g3 e3 hat;rw[←XN.out] at g2 g3 e3 hat;clear dR dV dO hlt2;by_cases hg:100≤x
   ·
    rw[if_pos hg] at hat;have w1:IntKind.i64.wrap ((n:Int)-3+x)=(n:Int)-3+x:=by rw[IntKind.wrap_i64];omega
    have w2:IntKind.i64.wrap ((n:Int)-3+x-100)=(n:Int)-3+x-100:=by rw[IntKind.wrap_i64];omega
    go_upto_region 8 with fail
    rw[←hat];generalize atAk n x=at_ at g2 g3 e3 hat ⊢;have XT:=Lib.hid g2;clear hat w1 w2;obtain⟨q,hqe⟩:∃q:Nat,at_=(q:Int):=⟨at_.toNat,by omega⟩;rw[hqe] at g2 g3 e3 XT ⊢;rw[Int.toNat_natCast] at e3;clear hqe;by_cases hzy:z=y
    ·
     subst hzy;go_wp2;go_quiet (fail)
     go_wp2;go_roundw;case rel=>exact⟨k+1,by omega,by go_num,⟨_,rfl⟩,Lib.hid (by rw[XS.out];simp),Lib.hid (hK.out.drewN _)⟩
     case measure=>simp[intOf];omega
    ·
     go_wp2;go_quiet (fail)
     go_wp2;go_ret;exact⟨by rw[HE.out,meetP_off (k:=k+1) (by rw[XS.out,decide_eq_false hzy]) (by omega)];rfl,(K1.trans hK.out).drewN _⟩
   ·
    rw[if_neg hg] at hat;have hd:decide ((100:Int)≤x)=false:=decide_eq_false hg;go_upto_region 8 with fail
    rw[hat] at g2 g3 e3;clear hat hg hd;obtain⟨at_,hx⟩:∃a,a=x:=⟨_,rfl⟩;rw[←hx] at g2 g3 e3 e1 ⊢;have XT:=Lib.hid g2;clear hx;obtain⟨q,hqe⟩:∃q:Nat,at_=(q:Int):=⟨at_.toNat,by omega⟩;rw[hqe] at g2 g3 e3 XT ⊢;rw[Int.toNat_natCast] at e3;clear hqe;by_cases hzy:z=y
    ·
     subst hzy;go_wp2;go_quiet (fail)
     go_wp2;go_roundw;case rel=>exact⟨k+1,by omega,by go_num,⟨_,rfl⟩,Lib.hid (by rw[XS.out];simp),Lib.hid (hK.out.drewN _)⟩
     case measure=>simp[intOf];omega
    ·
     go_wp2;go_quiet (fail)
     go_wp2;go_ret;exact⟨by rw[HE.out,meetP_off (k:=k+1) (by rw[XS.out,decide_eq_false hzy]) (by omega)];rfl,(K1.trans hK.out).drewN _⟩
  ·
   obtain rfl:k=rs.length:=by omega
   go_wp2;go_ret;exact⟨by rw[HE.out,hq.out];rfl,K1.trans hK.out⟩
theorem specMeets_any (w:World)(v vR vV vo:Value)(dss:List (List Dd))(rs vs one:List Int)(h:RdW w v dss)(hr:Rd w vR rs)(hv:Rd w vV vs)(ho:Rd w vo one)(hx:dss.length≤1048576)(hm:∀i,i<dss.length→(dss.getD i []).length≤1048576)(lr:rs.length≤1048576)(lo:one.length≤1048576):
  Calls Tryd.prog 21 #[v,.agg #[vR,vV],vo] w fun e w'=>e = .returned (.bool (meetsB dss rs vs one))∧Keep w w':=by
 have CA:=fun (W:World) (kW:Keep w W)=>specAskOk_any W v vR vV dss rs vs (h.keep kW) (hr.keep kW) (hv.keep kW) hx hm lr
 have HH:=Lib.hid h;have H1:=Lib.hid hr;have H2:=Lib.hid hv;have H3:=Lib.hid ho;obtain⟨aR,cR,rfl,-⟩:=hr;obtain⟨aV,cV,rfl,-⟩:=hv;obtain⟨ao,co,rfl,-⟩:=ho;obtain⟨av,cv,rfl,-⟩:=h;clear hx hm;obtain⟨A,hA⟩:∃A,A=askB dss rs vs:=⟨_,rfl⟩;rw[←hA] at CA;have XA:=Lib.hid hA;clear hA;go_enter Tryd.func21,Tryd.ntmps21
 go_wp2_with fail
 refine (CA _ ((Keep.refl w).alloc _)).mono ?_;rintro e w1 ⟨rfl,k1⟩;have c0:=box_cell k1 0;have c1:=box_cell k1 1;simp at c0 c1;have K1:=((Keep.refl w).alloc _).trans k1;have s1:w.heap.size<w1.heap.size:=by have:=k1.size;rw[heap_size] at this;omega
 clear CA;cases A
 ·
  go_wp2;go_ret;exact⟨by rw[meetsB,←XA.out];rfl,K1⟩
 ·
  have hb:=XA.out.symm;have hwb:workB dss=true:=by unfold askB at hb;rw[Bool.and_eq_true] at hb;exact hb.1
  have hok:okA (nRd dss) rs vs=true:=by unfold askB at hb;rw[Bool.and_eq_true] at hb;exact hb.2
  obtain⟨u1,u2⟩:=workB_useR hwb;obtain⟨l6,hlv,hks⟩:=okA_use hok;have hq9:(evsW dss dss.length).length≤1048576:=by have:=evsW_9 hwb;omega
  have hnr:=nRd_in dss;obtain⟨m,hme⟩:∃m,m=(idxB rdE (evsW dss dss.length)).length:=⟨_,rfl⟩;have hnm:nRd dss=(m:Int):=by rw[hme];rfl
  have HE:Hid (meetsB dss rs vs one=(decide ((one.length:Int)=(m:Int)+3)&&meetA rs vs one)):=Lib.hid (by rw[meetsB,hb,Bool.true_and,hnm]);rw[hnm] at hnr hks;have hw3:IntKind.i64.wrap ((m:Int)+3)=(m:Int)+3:=by rw[IntKind.wrap_i64];omega
  have CE:=l6Events_any w1 _ dss (HH.out.keep K1) u1 u2;have CR:=Lib.hid (fun (W:World) (u:Value) (a:RdE W u (evsW dss dss.length))=>specReadsOf_any W u _ a hq9);have XK:=Lib.hid hks;have XM:=Lib.hid hme;have XV:=Lib.hid hlv;clear hb hwb hok u1 u2 hq9 hnm hks hme hlv;go_wp2_with fail
  refine CE.mono ?_;rintro e w2 ⟨v2,rfl,a2,k2⟩;have CR2:=CR.out _ _ a2.rd;obtain⟨a4,c4,rfl,-⟩:=a2.rd;clear CE a2;replace c0:=(k2.cell s1).trans c0;replace c1:=(k2.cell s1).trans c1;have s2:=Nat.lt_of_lt_of_le s1 k2.size;have K2:=K1.trans k2;clear s1 k2 K1 k1;go_wp2_with fail
  refine CR2.mono ?_;rintro e w3 ⟨v3,rfl,o3,k3⟩;obtain⟨a3,c3,rfl,-⟩:=o3.rd;rw[←XM.out];replace c0:=(k3.cell s2).trans c0;replace c1:=(k3.cell s2).trans c1;have K3:=K2.trans k3;clear CR2 o3 k3 K2 s2;by_cases hlen:(one.length:Int)=(m:Int)+3
  ·
   have CM:=l18Meets_any w3 _ _ _ rs vs one (H1.out.keep K3) (H2.out.keep K3) (H3.out.keep K3) l6 XV.out lo (fun i hi=>⟨key_in (XK.out i hi).1 hnr.1 hnr.2,atAk_in (XK.out i hi).1 hlen hnr.1 hnr.2⟩);have HF:Hid (meetsB dss rs vs one=meetA rs vs one):=Lib.hid (by rw[HE.out,decide_eq_true hlen,Bool.true_and]);have hdl:((one.length:Int)==(m:Int)+3)=true:=by rw[hlen];simp
   clear hlen;go_wp2_with fail
   refine CM.mono ?_;rintro e w4 ⟨rfl,k4⟩;clear CM;go_wp2;go_ret;exact⟨by rw[HF.out];rfl,K3.trans k4⟩
  ·
   have hdl:((one.length:Int)==(m:Int)+3)=false:=by simpa using hlen
   go_wp2;go_ret;exact⟨by rw[HE.out,decide_eq_false hlen];rfl,K3⟩
end Go.Proofs.YtflehmepjhikcaaDoor
