/- Gathered texts. -/
import Derived.Test.YtflehmepjhikcaaGreatDoorMP
import Derived.BigQuiet
import Derived.Deep.Cut
import Derived.Lib.Hide
import Derived.Laws.CopyOwn
import Derived.Deep.RegionLaw
import Derived.Test.YtflehmepjhikcaaGreatDoorMI
import Derived.Laws.Rows
import Derived.RegionTactic
import Derived.Defers
import Derived.Recover
set_option maxRecDepth 100000
set_option maxHeartbeats 8000000
namespace Go.Proofs.YtflehmepjhikcaaGreatDoor
open Go.ChangeShapes Go.WideShapes Go.ChangeAt Go.RowKit
abbrev KAq:=@wpList_load_row
abbrev KBY:=@wpList_store_row
abbrev KB1:=@Nat.not_lt_zero
abbrev KCb:=@callsD_of_wpS
abbrev KCr:=@leaves_cons
abbrev KC1:=@wpS_region
abbrev KDG:=@wpS_of_wp
abbrev KDP:=@wpS_cond
theorem Jx (w:World)(v vR vV vo:Value)(AA:List (List Dd))(rs vs one:List Int)(a b c:Addr)(hE:Rk w a b c)(h:Fw w v AA)(hr:Rd w vR rs)(hv:Rd w vV vs)(ho:Rd w vo one)(hx:AA.length<=1048576)(hm:∀i,i<AA.length->(AA.getD i []).length<=1048576)(lr:rs.length<=2097152)(lv:vs.length<=2097152)(_lo:one.length<=1048576):
  Calls Tryz.prog 31 #[v,.agg #[vR,vV],vo] w fun e w'=>∃u,e = .returned u/\Tp (Cz AA rs vs one) u/\AC w w':=by
 have K1:AC w (w.alloc (.cells #[vR,vV] 27)):=(AC.refl w).alloc _;have CA:=Ij _ v vR vV AA rs vs a (hE.no.keep K1) (h.keep K1) (hr.keep K1) (hv.keep K1) hx hm lr lv;have CC:=fun (W:World) (k:AC w W) (hb:AL AA=true)=>Ii W v AA (h.keep k) hx hm hb
 have XE:=AI hE;have HM:Hid (Cz AA rs vs one=((Db AA rs vs&&decide ((one.length:Int)=Oc AA+3))&&DF rs vs one)):=AI rfl;have HE:Hid (DF rs vs one=Gi rs vs one rs.length):=AI rfl;obtain⟨aR,cR,rfl,hr⟩:=hr;obtain⟨aV,cV,rfl,hv⟩:=hv;obtain⟨ao,co,rfl,ho⟩:=ho;obtain⟨av,cv,rfl,-⟩:=h;have HR:=AI hr;have HV:=AI hv;have HO:=AI ho;clear hr hv ho hE hm;cases hT:Db AA rs vs
 ·
  rw[hT] at CA;have HN:Hid (Cz AA rs vs one=false):=AI (by rw[HM.out,hT];rfl);clear hT HM CC;go_enter Tryz.func31,Tryz.ntmps31
  go_wp2_with fail
  refine CA.mono ?_;rintro e w1 ⟨u,rfl,hu,k1⟩;obtain⟨s,rfl⟩:=Oj.no hu;clear hu;go_wp2;go_ret;exact⟨_,rfl,.inr ⟨HN.out,_,_,rfl⟩,K1.trans k1⟩
 ·
  rw[hT] at CA;have hwb:AL AA=true:=by unfold Db at hT;rw[KAO] at hT;exact hT.1
  have hok:Q0 (Oc AA) rs vs=true:=by unfold Db at hT;rw[KAO] at hT;exact hT.2
  obtain⟨l6,hl,hkey⟩:=Q4 hok;have XL:=AI hl;have HK:=AI (fun i hi=>(hkey i hi).1);obtain⟨r0,r12⟩:=GM AA;replace HM:Hid (Cz AA rs vs one=(decide ((one.length:Int)=Oc AA+3)&&DF rs vs one)):=AI (by rw[HM.out,hT,KBi]);replace CC:=fun W k=>CC W k hwb
  clear hT hwb hok hl hkey;obtain⟨R,hR⟩:∃R,R=Oc AA:=⟨_,rfl⟩;rw[<-hR] at HK r0 r12 HM CC;clear hR;have w1':IntKind.i64.wrap (R+2)=R+2:=by rw[KAk];omega
  have w2':IntKind.i64.wrap (R+2+1)=R+2+1:=by rw[KAk];omega
  have w3':IntKind.i64.wrap (R-100)=R-100:=by rw[KAk];omega
  go_enter Tryz.func31,Tryz.ntmps31
  go_wp2_with fail
  refine CA.mono ?_;rintro e wB ⟨u,rfl,hu,k1⟩;obtain rfl:=Oj.yes hu;clear hu CA;have d0:=AO k1 0;have d1:=AO k1 1;simp at d0 d1;have y1:w.heap.size<wB.heap.size:=by have:=k1.size;rw[AD] at this;omega
  have KB:=K1.trans k1;go_wp2_with fail
  refine (CC _ KB).mono ?_;rintro e wA ⟨rfl,k2⟩;have b0:=(k2.cell y1).trans d0;have b1:=(k2.cell y1).trans d1;have s1:=KAC y1 k2.size;replace K1:=KB.trans k2;have g1:=(XE.out.keep K1).nx;have g3:=(XE.out.keep K1).un;clear d0 d1 y1 KB k1 k2 CC;by_cases hlen:(one.length:Int)=R+3
  ·
   have hle:((one.length:Int) != R+2+1)=false:=by rw[hlen];simp;omega
   have HN:Hid (Cz AA rs vs one=DF rs vs one):=AI (by rw[HM.out,KAl hlen,KBi]);have HA:Hid (∀i,i<rs.length->(0<=rs.getD i 0/\rs.getD i 0<=102)/\0<=Gv one.length (rs.getD i 0)/\Gv one.length (rs.getD i 0)<(one.length:Int)):=AI (fun i hi=>⟨UR (HK.out i hi) r0 r12,QS (HK.out i hi) hlen r0 r12⟩);clear HM HK;have HU:=AI g3;clear g1 g3;obtain⟨n,hn⟩:∃n,n=one.length:=⟨_,rfl⟩;have XN:=AI hn;rw[<-hn] at hle hlen ⊢;clear hn;have XR:=AI hlen;clear hlen;go_wp2;go_loopw [9,10,31] (fun _ s10 i wr=>∃k:Nat,k<=rs.length/\i = .int .i64 k/\(∃u,s10=u)/\Hid (Gi rs vs one k=true)/\Hid (AC wA wr)) (fun _ _ i _=>rs.length-(intOf i).toNat)
   case atStart=>exact⟨0,KAb _,rfl,⟨_,rfl⟩,AI rfl,AI (AC.refl _)⟩
   case round=>
    obtain⟨k,hk,rfl,⟨u7,rfl⟩,hq,hK⟩:=hrel;have f0:=(hK.out.cell s1).trans b0;have f1:=(hK.out.cell s1).trans b1;have gU:wr.cell? ⟨3,0,none⟩=some (Ti c):=(XE.out.keep (K1.trans hK.out)).un;by_cases hlt:k<rs.length
    ·
     have hlt2:k<vs.length:=by have:=XL.out;omega
     rcases HR.out with q|⟨bR,oR,rfl,hbR,dR⟩
     . exfalso;rw[q] at hlt;simp at hlt
     rcases HV.out with q|⟨bV,oV,rfl,pM,dV⟩
     . exfalso;rw[q] at hlt2;simp at hlt2
     obtain⟨⟨g0,g1⟩,g2,g3⟩:=HA.out k hlt;rcases HO.out with q|⟨bo,oo,rfl,hbo,dO⟩
     ·
      exfalso;have:one.length=0:=by rw[q];rfl
      omega
     have e1:=((K1.trans hK.out).cell hbR).trans (dR k hlt);have e2:=((K1.trans hK.out).cell pM).trans (dV k hlt2);have e3:=((K1.trans hK.out).cell hbo).trans (dO (Gv one.length (rs.getD k 0)).toNat (by omega));have i1:(0:Int)<=(k:Int):=KAK _;have i2:(k:Int)<(rs.length:Int):=by omega
     have i3:(k:Int)<(vs.length:Int):=by omega
     have XS:Hid (Gi rs vs one (k+1)=decide (one.getD (Gv one.length (rs.getD k 0)).toNat 0=vs.getD k 0)):=AI (by
      show (Gi rs vs one k&&_)=_
      rw[hq.out,KBi])
     have hat:Gv one.length (rs.getD k 0)=if 100<=rs.getD k 0 then rs.getD k 0+(R-100) else rs.getD k 0:=by
      have hn3:(one.length:Int)=R+3:=by rw[<-XN.out];exact XR.out
      unfold Gv;split
      . omega
      . rfl
     generalize one.getD (Gv one.length (rs.getD k 0)).toNat 0=z at e3 XS;generalize vs.getD k 0=y at e2 XS;generalize rs.getD k 0=x at e1 g0 g1 g2 g3 e3 hat;rw[<-XN.out] at g2 g3 e3 hat;clear dR dV dO hlt2;by_cases hg:100<=x
     ·
      rw[KAP hg] at hat;have w1:IntKind.i64.wrap (x+(R-100))=x+(R-100):=by rw[KAk];omega
      go_upto_region 12 with fail
      rw[<-hat];generalize Gv n x=at_ at g2 g3 e3 hat ⊢;have XT:=AI g2;clear hat w1;obtain⟨q,hqe⟩:∃q:Nat,at_=(q:Int):=⟨at_.toNat,by omega⟩;rw[hqe] at g2 g3 e3 XT ⊢;rw[KAV] at e3;clear hqe;by_cases hzy:z=y
      ·
       subst hzy;go_wp2;go_quiet (fail)
       go_wp2;go_roundw;case rel=>exact⟨k+1,by omega,by go_num,⟨_,rfl⟩,AI (by rw[XS.out];simp),AI (hK.out.drewN _)⟩
       case measure=>simp[intOf];omega
      ·
       go_wp2;go_quiet (fail)
       go_wp2;go_ret;exact⟨_,rfl,.inr ⟨by rw[HN.out,HE.out];exact JE (k:=k+1) (by rw[XS.out,KAi hzy]) (by omega),_,_,rfl⟩,(K1.trans hK.out).drewN _⟩
     ·
      rw[KAQ hg] at hat;have hd:decide ((100:Int)<=x)=false:=KAi hg;go_upto_region 12 with fail
      rw[hat] at g2 g3 e3;clear hat hg hd;obtain⟨at_,hx⟩:∃a,a=x:=⟨_,rfl⟩;rw[<-hx] at g2 g3 e3 e1 ⊢;have XT:=AI g2;clear hx;obtain⟨q,hqe⟩:∃q:Nat,at_=(q:Int):=⟨at_.toNat,by omega⟩;rw[hqe] at g2 g3 e3 XT ⊢;rw[KAV] at e3;clear hqe;by_cases hzy:z=y
      ·
       subst hzy;go_wp2;go_quiet (fail)
       go_wp2;go_roundw;case rel=>exact⟨k+1,by omega,by go_num,⟨_,rfl⟩,AI (by rw[XS.out];simp),AI (hK.out.drewN _)⟩
       case measure=>simp[intOf];omega
      ·
       go_wp2;go_quiet (fail)
       go_wp2;go_ret;exact⟨_,rfl,.inr ⟨by rw[HN.out,HE.out];exact JE (k:=k+1) (by rw[XS.out,KAi hzy]) (by omega),_,_,rfl⟩,(K1.trans hK.out).drewN _⟩
    ·
     obtain rfl:k=rs.length:=by omega
     go_wp2;go_ret;exact⟨_,rfl,.inl ⟨by rw[HN.out,HE.out];exact hq.out,rfl⟩,K1.trans hK.out⟩
  ·
   have hle:((one.length:Int) != R+2+1)=true:=by simp;omega
   have HN:Hid (Cz AA rs vs one=false):=AI (by rw[HM.out,KAi hlen,KCe]);clear HM HK hlen;go_wp2;go_ret;exact⟨_,rfl,.inr ⟨HN.out,_,_,rfl⟩,K1⟩
theorem G8 (w:World)(v vR vV vo:Value)(AA:List (List Dd))(rs vs one:List Int)(a b c:Addr)(hE:Rk w a b c)(hg:w.cell? ⟨1,0,none⟩=some (.iface 138 (.agg #[hdV 57])))(h:Fw w v AA)(hr:Rd w vR rs)(hv:Rd w vV vs)(ho:Rd w vo one)(hx:AA.length<=1048576)(hm:∀i,i<AA.length->(AA.getD i []).length<=1048576)(lr:rs.length<=2097152)(lv:vs.length<=2097152)(lo:one.length<=1048576):
  Calls Tryz.prog 9 #[v,.agg #[vR,vV],vo] w fun e w'=>e = .returned (.bool (Cz AA rs vs one))/\AC w w':=by
 have K2:AC w ((w.alloc (.cells #[vR,vV] 27)).alloc (.cells #[.string ⟨#[]⟩,.nilIface] 59)):=((AC.refl w).alloc _).alloc _;have C:=Jx _ v vR vV vo AA rs vs one a b c (hE.keep K2) (h.keep K2) (hr.keep K2) (hv.keep K2) (ho.keep K2) hx hm lr lv lo;have HG:=AI hg;obtain⟨aR,cR,rfl,-⟩:=hr;obtain⟨aV,cV,rfl,-⟩:=hv;obtain⟨ao,co,rfl,-⟩:=ho;obtain⟨av,cv,rfl,-⟩:=h
 have HT:Hid (((w.alloc (.cells #[.slice aR rs.length cR,.slice aV vs.length cV] 27)).alloc (.cells #[.string ⟨#[]⟩,.nilIface] 59)).heap[w.heap.size+1]? = some (.cells #[.string ⟨#[]⟩,.nilIface] 59 (0,0))):=AI (by
  have:=KAX (w.alloc (.cells #[.slice aR rs.length cR,.slice aV vs.length cV] 27)) (.cells #[.string ⟨#[]⟩,.nilIface] 59);rw[AD] at this
  exact this)
 have Z:w.heap.size+1<((w.alloc (.cells #[.slice aR rs.length cR,.slice aV vs.length cV] 27)).alloc (.cells #[.string ⟨#[]⟩,.nilIface] 59)).heap.size:=by rw[AD,AD];omega
 obtain⟨T,hT⟩:∃T,T=Cz AA rs vs one:=⟨_,rfl⟩;rw[<-hT] at C ⊢;clear hT hm hE hg;go_enter Tryz.func9,Tryz.ntmps9
 go_wp2_with fail
 refine C.mono ?_;rintro e w1 ⟨u,rfl,hu,k1⟩;have KK:=K2.trans k1;have hT1:Hid (w1.heap[w.heap.size+1]? = some (.cells #[.string ⟨#[]⟩,.nilIface] 59 (0,0))):=AI ((KAW k1 _ Z).trans HT.out);cases T
 ·
  obtain⟨s,d,rfl⟩:=Tp.no hu;clear hu;go_wp2_with fail
  refine (Wc s _ _ (w.heap.size+1) _ _ _ (Dc HG.out KK) hT1.out (by rfl)).mono ?_;rintro e w2 ⟨rfl,k2⟩;go_wp2;go_ret;exact⟨rfl,KCS KK (Below.mono k2 (KCi _))⟩
 ·
  obtain rfl:=Tp.yes hu;clear hu;go_wp2_with fail
  refine (Wd _ _).mono ?_;rintro e w2 ⟨rfl,k2⟩;go_wp2;go_ret;exact⟨rfl,KK.trans k2⟩
theorem Tryz.Qj:(Tryz.prog.info? 2).map (·.size)=some 1:=by kernel_rfl
theorem MN (w:World)(v:BV)(AA:List (List Dd))(b:Bd)(h:Cw w v AA b)(hs:QN b):
  Calls Tryz.prog 77 #[v.agg] w fun e w'=>e = .returned (Hs b)/\AC w w':=by
 obtain⟨aW,aP,aL,aN,aX,aS,aF,aR,cW,cP,cL,cN,cX,cS,cF,cR,rfl⟩:=h.shapes;obtain⟨W3,hW3⟩:∃W3,W3=(((w.alloc (.cells #[.slice aW AA.length cW,.slice aP b.AM.length cP,.slice aL b.AQ.length cL,.slice aN b.AJ.length cN,.slice aX b.AK.length cX,.slice aS b.sn.length cS,.slice aF b.fr.length cF,.slice aR b.rws.length cR] 103)).alloc (.cells #[.int .i64 0,.int .i64 0,.int .i64 0,.int .i64 0,.int .i64 0,.int .i64 0,.int .i64 0,.int .i64 0,.int .i64 0,.int .i64 0,.int .i64 0,.int .i64 0,.int .i64 0,.int .i64 0,.int .i64 0] 127)).alloc (.cells #[.int .i64 0,.int .i64 0,.int .i64 0,.int .i64 0,.int .i64 0,.int .i64 0,.int .i64 0,.int .i64 0,.int .i64 0,.int .i64 0,.int .i64 0,.int .i64 0,.int .i64 0,.int .i64 0,.int .i64 0] 127)):=⟨_,rfl⟩;have K3:AC w W3:=by rw[hW3];exact (((AC.refl w).alloc _).alloc _).alloc _
 have z3:W3.heap.size=w.heap.size+3:=by rw[hW3];simp
 have HB3:W3.heap[w.heap.size]? = some (.cells #[.slice aW AA.length cW,.slice aP b.AM.length cP,.slice aL b.AQ.length cL,.slice aN b.AJ.length cN,.slice aX b.AK.length cX,.slice aS b.sn.length cS,.slice aF b.fr.length cF,.slice aR b.rws.length cR] 103 (0,0)):=by rw[hW3];exact DM (((AC.refl _).alloc _).alloc _)
 have HR3:W3.heap[w.heap.size+1]? = some (.cells (ku.toArray) 127 (0,0)):=by
  have q:=KAX (w.alloc (.cells #[.slice aW AA.length cW,.slice aP b.AM.length cP,.slice aL b.AQ.length cL,.slice aN b.AJ.length cN,.slice aX b.AK.length cX,.slice aS b.sn.length cS,.slice aF b.fr.length cF,.slice aR b.rws.length cR] 103)) (.cells ku.toArray 127);rw[AD] at q;rw[hW3];exact (KAW ((AC.refl _).alloc _) _ (by rw[AD,AD];omega)).trans q
 have HS3:W3.heap[w.heap.size+1+1]? = some (.cells (ku.toArray) 127 (0,0)):=by
  have q:=KAX ((w.alloc (.cells #[.slice aW AA.length cW,.slice aP b.AM.length cP,.slice aL b.AQ.length cL,.slice aN b.AJ.length cN,.slice aX b.AK.length cX,.slice aS b.sn.length cS,.slice aF b.fr.length cF,.slice aR b.rws.length cR] 103)).alloc (.cells ku.toArray 127)) (.cells ku.toArray 127);rw[AD,AD] at q;rw[hW3];exact q
 have XH:=AI h;have XK:=AI K3;have XR:=AI HR3;obtain⟨V0,hV0⟩:∃V0,V0=ku:=⟨_,rfl⟩;rw[<-hV0] at HS3;have XV0:=AI hV0;have e3:(3:Int).toNat=3:=rfl;clear h K3 HR3 hV0;go_enter Tryz.func77,Tryz.ntmps77
 go_upto_region 2 with fail
 rw[<-hW3];clear hW3;have l1:=hs.p;have cB1:(W3.drew).cell? ⟨w.heap.size,1,none⟩=some (.slice aP b.AM.length cP):=by rw[show (W3.drew).cell? ⟨w.heap.size,1,none⟩=(W3).cell? ⟨w.heap.size,1,none⟩ from rfl,KAL _ _ 1 _ _ _ HB3];rfl
 have hc1:0<(b.AM.map (Value.int .i64)).length->∃ad,aP=some ad/\∀j u,(b.AM.map (Value.int .i64))[j]? = some u->(W3.drew).cell? (ad.add j)=some u:=Ui ((XH.out.P).keep ((XK.out).trans (AC.refl _).drew));have vl1:V0.length=15:=by rw[XV0.out];rfl
 have hm1:(b.AM.map (Value.int .i64)).length=Nat.min b.AM.length 3:=by rw[KAj];exact (KBh l1).symm
 have hf1:0+(b.AM.map (Value.int .i64)).length<=V0.length:=by rw[vl1,KAj];omega
 obtain⟨xs1,hxs1⟩:∃xs,xs=b.AM.map (Value.int .i64):=⟨_,rfl⟩;rw[<-hxs1] at hc1 hm1 hf1;have ho1:∀u∈xs1,u.oneCell'=true:=by rw[hxs1];exact LB _
 have XX1:=AI hxs1;clear hxs1;go_cut [] from 6 (fun wx=>∃V:List Value,Hid (V=splice V0 0 xs1)/\wx.heap[w.heap.size+1+1]? = some (.cells V.toArray 127 (0,0))/\Below (w.heap.size+1+1) W3 wx)
 case first=>
  go_wp2_with fail
  go_region_law ((refine step_copy_splice (by rfl) (.tmp 7) (.tmp 9) 25 25 (by rfl) 2 Tryz.underlying25 Tryz.Qj (some ⟨w.heap.size+1+1,0,none⟩) aP 3 3 b.AM.length cP (by rfl) (by rfl) (w.heap.size+1+1) 0 V0 127 HS3 xs1 hm1 (fun hp=>⟨rfl,hc1 hp⟩) hf1 ho1 (w.heap.size+1+1) W3 ((Below.refl _ W3).drew) (KAM _) ?_;intro U1 hg1 q1;have HS1:=hg1.out;clear hg1))
  all_goals
   go_wp2;go_meet;exact⟨_,AI rfl,HS1,q1⟩
 obtain⟨V1,za,HS1,q1⟩:=hcut;have kk1:AC w wc:=KCS XK.out (q1.mono (by omega));obtain⟨U1,hU1⟩:∃U1,U1=wc:=⟨_,rfl⟩;rw[<-hU1] at HS1 q1 kk1 ⊢;clear hU1 cB1 hc1 hm1 hf1 ho1 HS3;go_upto_region 3 with fail
 have l2:=hs.x;have cB2:(U1.drew).cell? ⟨w.heap.size,4,none⟩=some (.slice aX b.AK.length cX):=by rw[show (U1.drew).cell? ⟨w.heap.size,4,none⟩=(U1).cell? ⟨w.heap.size,4,none⟩ from rfl,KAL _ _ 4 _ _ _ (KAW q1 w.heap.size (by omega) |>.trans HB3)];rfl
 have hc2:0<(b.AK.map (Value.int .i64)).length->∃ad,aX=some ad/\∀j u,(b.AK.map (Value.int .i64))[j]? = some u->(U1.drew).cell? (ad.add j)=some u:=Ui ((XH.out.X).keep ((kk1).trans (AC.refl _).drew));have vl2:V1.length=15:=by rw[za.out,length_splice _ _ _ (by rw[vl1,XX1.out,KAj];omega)];exact vl1
 have hm2:(b.AK.map (Value.int .i64)).length=Nat.min b.AK.length 3:=by rw[KAj];exact (KBh l2).symm
 have hf2:3+(b.AK.map (Value.int .i64)).length<=V1.length:=by rw[vl2,KAj];omega
 obtain⟨xs2,hxs2⟩:∃xs,xs=b.AK.map (Value.int .i64):=⟨_,rfl⟩;rw[<-hxs2] at hc2 hm2 hf2;have ho2:∀u∈xs2,u.oneCell'=true:=by rw[hxs2];exact LB _
 have XX2:=AI hxs2;clear hxs2;go_cut [] from 6 (fun wx=>∃V:List Value,Hid (V=splice V1 3 xs2)/\wx.heap[w.heap.size+1+1]? = some (.cells V.toArray 127 (0,0))/\Below (w.heap.size+1+1) W3 wx)
 case first=>
  go_wp2_with fail
  go_region_law ((refine step_copy_splice (by rfl) (.tmp 12) (.tmp 14) 25 25 (by rfl) 2 Tryz.underlying25 Tryz.Qj (some ⟨w.heap.size+1+1,3,none⟩) aX 3 3 b.AK.length cX (by rfl) (by rfl) (w.heap.size+1+1) 3 V1 127 HS1 xs2 hm2 (fun hp=>⟨rfl,hc2 hp⟩) hf2 ho2 (w.heap.size+1+1) W3 (q1.drew) (KAM _) ?_;intro U2 hg2 q2;have HS2:=hg2.out;clear hg2))
  all_goals
   go_wp2;go_meet;exact⟨_,AI rfl,HS2,q2⟩
 obtain⟨V2,qo,HS2,q2⟩:=hcut;have kk2:AC w wc:=KCS XK.out (q2.mono (by omega));obtain⟨U2,hU2⟩:∃U2,U2=wc:=⟨_,rfl⟩;rw[<-hU2] at HS2 q2 kk2 ⊢;clear hU2 cB2 hc2 hm2 hf2 ho2 HS1;go_upto_region 4 with fail
 have l3:=hs.s;have cB3:(U2.drew).cell? ⟨w.heap.size,5,none⟩=some (.slice aS b.sn.length cS):=by rw[show (U2.drew).cell? ⟨w.heap.size,5,none⟩=(U2).cell? ⟨w.heap.size,5,none⟩ from rfl,KAL _ _ 5 _ _ _ (KAW q2 w.heap.size (by omega) |>.trans HB3)];rfl
 have hc3:0<(b.sn.map (Value.int .i64)).length->∃ad,aS=some ad/\∀j u,(b.sn.map (Value.int .i64))[j]? = some u->(U2.drew).cell? (ad.add j)=some u:=Ui ((XH.out.S).keep ((kk2).trans (AC.refl _).drew));have vl3:V2.length=15:=by rw[qo.out,length_splice _ _ _ (by rw[vl2,XX2.out,KAj];omega)];exact vl2
 have hm3:(b.sn.map (Value.int .i64)).length=Nat.min b.sn.length 6:=by rw[KAj];exact (KBh l3).symm
 have hf3:9+(b.sn.map (Value.int .i64)).length<=V2.length:=by rw[vl3,KAj];omega
 obtain⟨xs3,hxs3⟩:∃xs,xs=b.sn.map (Value.int .i64):=⟨_,rfl⟩;rw[<-hxs3] at hc3 hm3 hf3;have ho3:∀u∈xs3,u.oneCell'=true:=by rw[hxs3];exact LB _
 have XX3:=AI hxs3;clear hxs3;go_cut [] from 6 (fun wx=>∃V:List Value,Hid (V=splice V2 9 xs3)/\wx.heap[w.heap.size+1+1]? = some (.cells V.toArray 127 (0,0))/\Below (w.heap.size+1+1) W3 wx)
 case first=>
  go_wp2_with fail
  go_region_law ((refine step_copy_splice (by rfl) (.tmp 17) (.tmp 19) 25 25 (by rfl) 2 Tryz.underlying25 Tryz.Qj (some ⟨w.heap.size+1+1,9,none⟩) aS 6 6 b.sn.length cS (by rfl) (by rfl) (w.heap.size+1+1) 9 V2 127 HS2 xs3 hm3 (fun hp=>⟨rfl,hc3 hp⟩) hf3 ho3 (w.heap.size+1+1) W3 (q2.drew) (KAM _) ?_;intro U3 hg3 q3;have HS3:=hg3.out;clear hg3))
  all_goals
   go_wp2;go_meet;exact⟨_,AI rfl,HS3,q3⟩
 obtain⟨V3,XV3,HS3,q3⟩:=hcut;have kk3:AC w wc:=KCS XK.out (q3.mono (by omega));obtain⟨U3,hU3⟩:∃U3,U3=wc:=⟨_,rfl⟩;rw[<-hU3] at HS3 q3 kk3 ⊢;clear hU3 cB3 hc3 hm3 hf3 ho3 HS2;have HS:Hid (V3=(eH b 0).map (Value.int .i64)):=AI (by rw[XV3.out,qo.out,za.out,XV0.out,XX1.out,XX2.out,XX3.out];exact YJ hs);rw[HS.out] at HS3;have cN3:U3.cell? ⟨w.heap.size,3,none⟩=some (.slice aN b.AJ.length cN):=by rw[KAL _ _ 3 _ _ _ ((KAW q3 w.heap.size (by omega)).trans HB3)];rfl
 have XB3:=AI HB3;have ln:=hs.n;clear za qo XV3 XX1 XX2 XX3 HS l1 l2 l3 kk1 kk2 vl1 vl2 vl3 HB3 q1 q2;go_wp2;clear cN3;go_loopw [4,5,24] (fun _ _ i wr=>∃k:Nat,k<=b.AJ.length/\i = .int .i64 k/\wr.heap[w.heap.size+1+1]? = some (.cells ((eH b k).map (Value.int .i64)).toArray 127 (0,0))/\Below (w.heap.size+1+1) W3 wr) (fun _ _ i _=>b.AJ.length-(intOf i).toNat)
 case atStart=>exact⟨0,KAb _,rfl,HS3,q3⟩
 case round=>
  obtain⟨k,hk,rfl,hX,qr⟩:=hrel;clear HS3 q3 kk3;have kr:AC w wr:=KCS XK.out (qr.mono (by omega));by_cases hlt:k<b.AJ.length
  ·
   obtain⟨a',c',e',hN⟩:=XH.out.N.keep kr;simp only[KAT,KA8] at e';obtain⟨rfl,rfl⟩:=e';rcases hN with h0|⟨bN,oN,rfl,hbN,mJ⟩
   . exfalso;rw[h0] at hlt;simp at hlt
   obtain⟨vi,d1,dN⟩:=mJ k hlt;obtain⟨ai,ci,rfl,-⟩:=id dN;obtain⟨m,hm⟩:∃m,m=(b.AJ.getD k []).length:=⟨_,rfl⟩;rw[<-hm] at d1;have XM:=AI hm;have i1:(0:Int)<=(k:Int):=KAK _;have i2:(k:Int)<(b.AJ.length:Int):=by omega
   have i3:(k:Int)<3:=by omega
   have d2:wr.cell? ⟨w.heap.size+1+1,6+k,none⟩=some (.int .i64 ((eH b k).getD (6+k) 0)):=by
    rw[KAL _ _ (6+k) _ _ _ hX,List.getElem?_toArray,KBN,IT,KAH (by rw[kK hs];omega)];rfl
   have d3:=KA1 wr (w.heap.size+1+1) (6+k) _ _ hX;have XX:=AI hX;clear mJ dN hm hX;go_wp2;go_roundw
   case rel=>
    refine⟨k+1,by omega,by go_num,?_,Below.setCell qr (by simp) _⟩;rw[KAt _ _ _ _ _ _ XX.out,<-kL hs hlt,List.map_set,XM.out];simp
   case measure=>simp[intOf];omega
  ·
   obtain rfl:k=b.AJ.length:=by omega
   rw[kJ] at hX;replace hX:wr.heap[w.heap.size+1+1]? = some (.cells (Up b) 127 (0,0)):=hX;have hR:=(KAW qr (w.heap.size+1) (by omega)).trans XR.out;have hsz:(Tryz.prog.info? 127).map (·.size)=some (Up b).size:=by unfold Up;rw[List.size_toArray,KAj,RO hs];exact Uv
   have hold:ku.toArray.size=(Up b).size:=by unfold Up;rw[List.size_toArray,List.size_toArray,KAj,RO hs];rfl
   have iE:=AI (KBs wr (w.heap.size+1) _ (Up b) _ _ hR);have XG:=AI (As wr (w.heap.size+1) (Up b));go_wp2_with (first|refine KAq rfl 127 _ rfl (w.heap.size+1+1) rfl 127 _ (0,0) _ hX Tryz.underlying127 rfl hsz ?_|refine KBY rfl 127 _ _ rfl (w.heap.size+1) _ rfl rfl 127 _ hR hsz hold (kH b) ?_|fail)
   refine KA7 (Aw (by rfl) _ _ (w.heap.size+1) 127 _ (0,0) _ rfl iE.out Tryz.underlying127 rfl hsz) rfl ?_;exact⟨rfl,kr.grown XG.out (fun q hq=>by have:=KAI hq;omega)⟩
def Vx (vs:List BV)(bs:List Bd)(n:Nat):List (BV×Bd):=(List.range n).map (fun i=>(vs.getD i Rz,bs.getD i OW))
theorem dD (vs:List BV)(bs:List Bd)(n:Nat):Vx vs bs (n+1)=Vx vs bs n++[(vs.getD n Rz,bs.getD n OW)]:=by
 unfold Vx;rw[KBx,KBB];rfl
theorem Vy {vs:List BV}{bs:List Bd}{n:Nat}{p:BV×Bd}(h:p∈Vx vs bs n)(hn:n<=bs.length):∃i,i<bs.length/\p=(vs.getD i Rz,bs.getD i OW)/\bs.getD i OW∈bs:=by
 unfold Vx at h;obtain⟨i,hi,rfl⟩:=KAv.1 h;have hi:=KAd.1 hi;exact⟨i,by omega,rfl,by rw[IT,KAH (by omega)];exact KBI _⟩
theorem fI (w:World)(g base:Nat)(es:Array MapEntry)(l:List (BV×Bd))(v:Value)(vs:List BV)(ds:List (List Dd))(bs:List Bd)(P:Nat->Prop){S:Sy}(Z:Rp ds S)
  (h:Wv w g es l) (hl:∀p∈l,S.R p.2) (hb:∀b∈bs,S.R b) (hs:Fd w P base v vs ds bs) (hg:¬P g) (hgv:v.ownBlock≠some g) (hn:bs.length<=1048576):
  Calls Tryz.prog 80 #[.map (some g),v] w fun e w'=>e = .returned (.tuple #[])/\(∃es',Wv w' g es' (l++Vx vs bs bs.length))/\w.grownBy w' (some g):=by
 have HL:=hs.len
 obtain⟨av,cv,rfl⟩:∃a c,v = .slice a bs.length c:=by
  rcases hs.row.2 with ⟨rfl,hz⟩|⟨q,cap,cur,rfl,_⟩
  . exact⟨none,0,by rw[hz]⟩
  . exact⟨_,_,rfl⟩
 have XS:=AI hs;have XZ:=AI Z;have hng:some g≠none:=by simp
 have glt:=h.lt;clear hs;go_enter Tryz.func80,Tryz.ntmps80
 go_wp2;go_loopw [5,8] (fun _ s8 wr=>∃(i:Nat) (es':Array MapEntry),i<=bs.length/\s8 = .int .i64 i/\Wv wr g es' (l++Vx vs bs i)/\w.grownBy wr (some g)) (fun _ s8 _=>bs.length-(intOf s8).toNat)
 case atStart=>exact⟨0,es,KAb _,rfl,by rw[show Vx vs bs 0=[] from rfl,KBn];exact h,KBW _ _⟩
 case round=>
  obtain⟨i,es',hi,rfl,hW,G⟩:=hrel;have XW:=AI hW;have XG:=AI G;have zr:=G.size;clear h hW;by_cases hlt:i<bs.length
  ·
   have hsr:=XS.out.kept G (fun q hq=>by have:=KAI hq;subst this;exact⟨hg,hgv⟩);rcases hsr.row.2 with ⟨_,hz⟩|⟨gv,cap,cur,e,hbse,hgl,hc,hm,hsz,ht⟩
   . omega
   simp only[KAT,KA8] at e;obtain⟨rfl,rfl⟩:=e;have hcl:=fun j (hj:j<8)=>(KAp hsr.row (i*8+j) (by omega)).trans (ZL vs i j (by omega) hj)
   have hel:=hsr.each i hlt;have hmem:bs.getD i OW∈bs:=by rw[IT,KAH hlt];exact KBI hlt
   have HB:=AI (show l++Vx vs bs (i+1)=(l++Vx vs bs i)++[(vs.getD i Rz,bs.getD i OW)] by rw[dD,KA2]);have hRb:=hb _ hmem
   have hall:∀p∈l++Vx vs bs i,S.R p.2:=fun p hp=>by
    rcases KA0.1 hp with q|q
    . exact hl p q
    ·
     obtain⟨j,_,rfl,hj⟩:=Vy q (by omega);exact hb _ hj
   generalize vs.getD i Rz=bv at hcl hel HB;generalize bs.getD i OW=b at hel hRb HB;obtain⟨bW,bP,bL,bN,bX,bS,bF,bR,dW,dP,dL,dN,dX,dS,dF,dR,rfl⟩:=hel.rd.shapes;have x0:=hcl 0 (by omega);have x1:=hcl 1 (by omega);have x2:=hcl 2 (by omega);have x3:=hcl 3 (by omega);have x4:=hcl 4 (by omega);have x5:=hcl 5 (by omega);have x6:=hcl 6 (by omega);have x7:=hcl 7 (by omega);simp only[cB,List.getElem?_cons_zero,KC2,Nat.add_zero] at x0 x1 x2 x3 x4 x5 x6 x7;have i1:(0:Int)<=(i:Int):=KAK _;have i2:(i:Int)<(bs.length:Int):=by omega
   have XH:=AI (And.intro hel (And.intro hRb hall));clear hcl hsr hel hRb hall hmem ht hbse hm hsz;go_upto_region 3 with fail
   obtain⟨w2,hw2⟩:∃W:World,W=wr.alloc (.cells #[.slice bW ds.length dW,.slice bP b.AM.length dP,.slice bL b.AQ.length dL,.slice bN b.AJ.length dN,.slice bX b.AK.length dX,.slice bS b.sn.length dS,.slice bF b.fr.length dF,.slice bR b.rws.length dR] 103):=⟨_,rfl⟩;have k2:AC wr w2:=by rw[hw2];exact (AC.refl wr).alloc _
   have hD:w2.heap[wr.heap.size]? = some (.cells #[.slice bW ds.length dW,.slice bP b.AM.length dP,.slice bL b.AQ.length dL,.slice bN b.AJ.length dN,.slice bX b.AK.length dX,.slice bS b.sn.length dS,.slice bF b.fr.length dF,.slice bR b.rws.length dR] 103 (0,0)):=by rw[hw2];exact KAX _ _
   have s2:wr.heap.size<w2.heap.size:=by rw[hw2,AD];omega
   rw[<-hw2];clear hw2 x0 x1 x2 x3 x4 x5 x6 x7;have kd:AC wr w2.drew:=k2.drew;have c0:(w2.drew).cell? ⟨wr.heap.size,0,none⟩=some (.slice bW ds.length dW):=by rw[show (w2.drew).cell? ⟨wr.heap.size,0,none⟩=w2.cell? ⟨wr.heap.size,0,none⟩ from rfl,KAL _ _ 0 _ _ _ hD];rfl
   have c1:(w2.drew).cell? ⟨wr.heap.size,1,none⟩=some (.slice bP b.AM.length dP):=by rw[show (w2.drew).cell? ⟨wr.heap.size,1,none⟩=w2.cell? ⟨wr.heap.size,1,none⟩ from rfl,KAL _ _ 1 _ _ _ hD];rfl
   have c2:(w2.drew).cell? ⟨wr.heap.size,2,none⟩=some (.slice bL b.AQ.length dL):=by rw[show (w2.drew).cell? ⟨wr.heap.size,2,none⟩=w2.cell? ⟨wr.heap.size,2,none⟩ from rfl,KAL _ _ 2 _ _ _ hD];rfl
   have c3:(w2.drew).cell? ⟨wr.heap.size,3,none⟩=some (.slice bN b.AJ.length dN):=by rw[show (w2.drew).cell? ⟨wr.heap.size,3,none⟩=w2.cell? ⟨wr.heap.size,3,none⟩ from rfl,KAL _ _ 3 _ _ _ hD];rfl
   have c4:(w2.drew).cell? ⟨wr.heap.size,4,none⟩=some (.slice bX b.AK.length dX):=by rw[show (w2.drew).cell? ⟨wr.heap.size,4,none⟩=w2.cell? ⟨wr.heap.size,4,none⟩ from rfl,KAL _ _ 4 _ _ _ hD];rfl
   have c5:(w2.drew).cell? ⟨wr.heap.size,5,none⟩=some (.slice bS b.sn.length dS):=by rw[show (w2.drew).cell? ⟨wr.heap.size,5,none⟩=w2.cell? ⟨wr.heap.size,5,none⟩ from rfl,KAL _ _ 5 _ _ _ hD];rfl
   have c6:(w2.drew).cell? ⟨wr.heap.size,6,none⟩=some (.slice bF b.fr.length dF):=by rw[show (w2.drew).cell? ⟨wr.heap.size,6,none⟩=w2.cell? ⟨wr.heap.size,6,none⟩ from rfl,KAL _ _ 6 _ _ _ hD];rfl
   have c7:(w2.drew).cell? ⟨wr.heap.size,7,none⟩=some (.slice bR b.rws.length dR):=by rw[show (w2.drew).cell? ⟨wr.heap.size,7,none⟩=w2.cell? ⟨wr.heap.size,7,none⟩ from rfl,KAL _ _ 7 _ _ _ hD];rfl
   go_wp2_with fail
   go_region_law ((go_simp;refine (MN _ _ ds b ((XH.out.1.on (BA.B7 kd)).rd) (XZ.out.one XH.out.2.1).st).mono ?_;rintro e wz ⟨rfl,kk⟩;obtain⟨w4,es4,hrun,hW4,hg4⟩:=((XW.out.keep kd).keep kk).put (((XW.out.keep kd).keep kk).room XZ.out XH.out.2.2) (aK (XZ.out.one XH.out.2.1)) ⟨.slice bW ds.length dW,.slice bP b.AM.length dP,.slice bL b.AQ.length dL,.slice bN b.AJ.length dN,.slice bX b.AK.length dX,.slice bS b.sn.length dS,.slice bF b.fr.length dF,.slice bR b.rws.length dR⟩;have d0:=(kk.cell (show wr.heap.size<(w2.drew).heap.size from s2)).trans c0;have d1:=(kk.cell (show wr.heap.size<(w2.drew).heap.size from s2)).trans c1;have d2:=(kk.cell (show wr.heap.size<(w2.drew).heap.size from s2)).trans c2;have d3:=(kk.cell (show wr.heap.size<(w2.drew).heap.size from s2)).trans c3;have d4:=(kk.cell (show wr.heap.size<(w2.drew).heap.size from s2)).trans c4;have d5:=(kk.cell (show wr.heap.size<(w2.drew).heap.size from s2)).trans c5;have d6:=(kk.cell (show wr.heap.size<(w2.drew).heap.size from s2)).trans c6;have d7:=(kk.cell (show wr.heap.size<(w2.drew).heap.size from s2)).trans c7;have XQ:=AI (And.intro hW4 (And.intro hg4 kk));clear hW4 hg4 kk))
   all_goals
    have XF:Hid ((∃es4,Wv w4 g es4 (l++Vx vs bs (i+1)))/\w.grownBy w4 (some g)):=AI ⟨⟨es4,by rw[HB.out];exact XQ.out.1⟩,⟨XQ.out.2.1.os.trans (((kd.trans XQ.out.2.2).grownBy).os.trans XG.out.os),XQ.out.2.1.tape.trans (((kd.trans XQ.out.2.2).grownBy).tape.trans XG.out.tape),XQ.out.2.1.output.trans (((kd.trans XQ.out.2.2).grownBy).output.trans XG.out.output),KAU XG.out.size (KAU (kd.trans XQ.out.2.2).size XQ.out.2.1.size),fun q hq hne=>(XQ.out.2.1.block q (KAC hq (KAU XG.out.size (kd.trans XQ.out.2.2).size)) hne).trans ((KAW (kd.trans XQ.out.2.2) q (KAC hq XG.out.size)).trans (XG.out.block q hq hne))⟩⟩;clear c0 c1 c2 c3 c4 c5 c6 c7 d0 d1 d2 d3 d4 d5 d6 d7 hD;go_wp2;go_roundw
    case rel=>
     obtain⟨⟨es5,W5⟩,G5⟩:=XF.out;exact⟨i+1,es5,by omega,by go_num,W5,G5⟩
    case measure=>simp[intOf];omega
  ·
   obtain rfl:i=bs.length:=by omega
   go_wp2;go_end0;exact⟨rfl,⟨es',XW.out⟩,XG.out⟩
abbrev X0:Value:= .iface 9 (.string { data:=#[116,104,105,115,32,99,97,110,39,116,32,98,101] })
abbrev PN:Ending:= .panicked [{ v:=X0,recovered:=false }]
def Kv (t:Bool):Ending:=if t=true then .returned (.tuple #[]) else PN
theorem Av {t:Bool}(h:t=true):Kv t = .returned (.tuple #[]):=KAP h
theorem Ae {t:Bool}(h:t=false):Kv t=PN:=KAQ (by rw[h];simp)
theorem DU (w:World):Calls Tryz.prog 132 #[.bool true] w fun e w'=>e = .returned (.tuple #[])/\w'=w:=by
 go_enter Tryz.func132,Tryz.ntmps132
 go_wp2;go_end0;exact⟨rfl,rfl⟩
theorem Hd (w:World):Calls Tryz.prog 132 #[.bool false] w fun e w'=>e=PN/\w'=w:=by
 go_enter Tryz.func132,Tryz.ntmps132
 go_wp2;exact⟨rfl,rfl,rfl⟩
theorem ET (t:Bool)(w:World):Calls Tryz.prog 132 #[.bool t] w fun e w'=>e=Kv t/\w'=w:=by
 cases t
 . exact Hd w
 . exact DU w
theorem ES (w:World)(v:Value)(zs:List Int)(n lo hi:Int)(h:Rd w v zs)(hl:zs.length<=1048576):
  Calls Tryz.prog 136 #[v,.int .i64 n,.int .i64 lo,.int .i64 hi] w fun e w'=>e=Kv (Fq zs n lo hi)/\w'=w:=by
 obtain⟨a,c,rfl,h⟩:=h;have HD:Hid (Fq zs n lo hi=(decide ((zs.length:Int)=n)&&NY zs lo hi)):=AI rfl;by_cases hn:(zs.length:Int)=n
 ·
  subst hn;have HT:Hid (Fq zs zs.length lo hi=NY zs lo hi):=AI (by rw[HD.out,KAl rfl];rfl);clear HD;go_enter Tryz.func136,Tryz.ntmps136
  go_wp2_with fail
  refine (DU _).mono ?_;rintro e w2 ⟨rfl,rfl⟩;go_wp2;go_loopw [9,17] (fun _ i wr=>∃k:Nat,k<=zs.length/\i = .int .i64 k/\Hid (∀j,j<k->Co (zs.getD j 0) lo hi=true)/\wr=w2) (fun _ i _=>zs.length-(intOf i).toNat)
  case atStart=>exact⟨0,KAb _,rfl,AI (fun j hj=>absurd hj (KB1 _)),rfl⟩
  case round=>
   obtain⟨k,hk,rfl,hno,rfl⟩:=hrel;by_cases hlt:k<zs.length
   ·
    rcases h with h|⟨b,off,rfl,hb,hc⟩
    . exfalso;rw[h] at hlt;simp at hlt
    have d:=hc k hlt;clear hc;cases hq:Co (zs.getD k 0) lo hi
    ·
     have HE:Hid (Fq zs zs.length lo hi=false):=AI (by rw[HT.out];exact Sf hlt hq);clear hno HT;generalize zs.getD k 0=x at *;go_wp2_with fail
     refine (A6 _ _ _ _).mono ?_;rintro e w3 ⟨rfl,rfl⟩;rw[hq];go_wp2_with fail
     refine (Hd _).mono ?_;rintro e w3 ⟨rfl,rfl⟩;go_wp2;exact⟨rfl,by rw[Ae HE.out],rfl⟩
    ·
     have HN:Hid (∀j,j<k+1->Co (zs.getD j 0) lo hi=true):=AI (fun j hj=>by
      by_cases e:j=k
      . rw[e];exact hq
      . exact hno.out j (by omega))
     clear hno;generalize zs.getD k 0=x at *;go_wp2_with fail
     refine (A6 _ _ _ _).mono ?_;rintro e w3 ⟨rfl,rfl⟩;rw[hq];go_wp2_with fail
     refine (DU _).mono ?_;rintro e w3 ⟨rfl,rfl⟩;go_wp2;go_roundw;case rel=>exact⟨k+1,by omega,rfl,HN,trivial⟩
     case measure=>simp[intOf];omega
   have HE:Hid (Fq zs zs.length lo hi=true):=AI (by rw[HT.out];exact GI 0 (fun j hj=>hno.out j (by omega)));obtain rfl:k=zs.length:=by omega
   clear hno HT;go_wp2;go_end0;exact⟨by rw[Av HE.out],rfl⟩
 ·
  have HT:Hid (Fq zs n lo hi=false):=AI (by rw[HD.out,KAi hn];rfl);clear HD;go_enter Tryz.func136,Tryz.ntmps136
  go_wp2_with fail
  refine (ET _ _).mono ?_;rintro e w2 ⟨rfl,rfl⟩;rw[Ae (by simp[hn])];go_wp2;exact⟨rfl,by rw[Ae HT.out],rfl⟩
theorem Ss (w:World)(v:Value)(zs:List Int)(last:Int)(h:Rd w v zs)(hl:zs.length<=1048576):
  Calls Tryz.prog 160 #[v,.int .i64 last] w fun e w'=>e=Kv (JW last zs)/\w'=w:=by
 have C:=ES w v zs zs.length 0 last h hl;obtain⟨a,c,rfl,-⟩:=h;have HD:Hid (JW last zs=(decide (zs.length<=20)&&Fq zs zs.length 0 last)):=AI rfl;by_cases hn:zs.length<=20
 ·
  have HT:Hid (JW last zs=Fq zs zs.length 0 last):=AI (by rw[HD.out,KAl hn];rfl);clear HD;go_enter Tryz.func160,Tryz.ntmps160
  go_wp2_with fail
  refine (ET _ _).mono ?_;rintro e w2 ⟨rfl,rfl⟩;rw[Av (by simp;omega)];go_wp2_with fail
  refine C.mono ?_;rintro e w3 ⟨rfl,rfl⟩;rw[<-HT.out];cases hb:JW last zs
  ·
   rw[Ae rfl];go_wp2;exact⟨rfl,by rw[Ae hb],rfl⟩
  ·
   rw[Av rfl];go_wp2;go_end0;exact⟨by rw[Av hb],rfl⟩
 ·
  have HT:Hid (JW last zs=false):=AI (by rw[HD.out,KAi hn];rfl);clear HD;go_enter Tryz.func160,Tryz.ntmps160
  go_wp2_with fail
  refine (ET _ _).mono ?_;rintro e w2 ⟨rfl,rfl⟩;rw[Ae (by simp;omega)];go_wp2;exact⟨rfl,by rw[Ae HT.out],rfl⟩
theorem Xt (last:Int)(x:Nt):(Co x.1 0 2=false/\Vp last x=false)\/(Co x.1 0 2=true/\Co x.2.1 0 9=false/\Vp last x=false)\/(Co x.1 0 2=true/\Co x.2.1 0 9=true/\Co x.2.2 0 last=false/\Vp last x=false)\/(Co x.1 0 2=true/\Co x.2.1 0 9=true/\Co x.2.2 0 last=true/\Vp last x=true):=by
 unfold Vp;cases Co x.1 0 2<;>cases Co x.2.1 0 9<;>cases Co x.2.2 0 last<;>simp
theorem Ov (w:World)(v:Value)(ns:List Nt)(last:Int)(h:lV w v ns)(hl:ns.length<=1048576):
  Calls Tryz.prog 161 #[v,.int .i64 last] w fun e w'=>e=Kv (PA last ns)/\AC w w':=by
 obtain⟨a,c,rfl,h⟩:=h;have HD:Hid (PA last ns=(decide (ns.length<=8)&&ns.all (Vp last))):=AI rfl;by_cases hn:ns.length<=8
 ·
  have HT:Hid (PA last ns=ns.all (Vp last)):=AI (by rw[HD.out,KAl hn];rfl);clear HD;go_enter Tryz.func161,Tryz.ntmps161
  go_wp2_with fail
  refine (ET _ _).mono ?_;rintro e w2 ⟨rfl,rfl⟩;rw[Av (by simp;omega)];go_wp2;go_loopw [12] (fun i wr=>∃k:Nat,k<=ns.length/\i = .int .i64 k/\Hid (∀j,j<k->Vp last (ns.getD j zN)=true)/\AC w2 wr) (fun i _=>ns.length-(intOf i).toNat)
  case atStart=>exact⟨0,KAb _,rfl,AI (fun j hj=>absurd hj (KB1 _)),AC.refl _⟩
  case round=>
   obtain⟨k,hk,rfl,hno,hK⟩:=hrel;by_cases hlt:k<ns.length
   ·
    rcases h with h|⟨b,off,rfl,hb,hc⟩
    . exfalso;rw[h] at hlt;simp at hlt
    obtain⟨g0,g1,g2⟩:=yD (hc k _ (Ky hlt));have q0:=(hK.cell hb).trans g0;have q1:=(hK.cell hb).trans g1;have q2:=(hK.cell hb).trans g2;have CS:=Xt last (ns.getD k zN);have HF:Vp last (ns.getD k zN)=false->Hid (PA last ns=false):=fun e=>AI (by rw[HT.out];exact IC zN hlt e)
    have HN:Vp last (ns.getD k zN)=true->Hid (∀j,j<k+1->Vp last (ns.getD j zN)=true):=fun hq=>AI (fun j hj=>by
     by_cases e:j=k
     . rw[e];exact hq
     . exact hno.out j (by omega))
    have i1:(0:Int)<=(k:Int):=KAK _;have i2:(k:Int)<(ns.length:Int):=by omega
    have hbw:b<wr.heap.size:=KAC hb hK.size;clear hno hc g0 g1 g2 HT;generalize ns.getD k zN=y at *;obtain⟨y0,y1,y2⟩:=y;simp only at q0 q1 q2 CS;rcases CS with ⟨t0,e⟩|⟨t0,t1,e⟩|⟨t0,t1,t2,e⟩|⟨t0,t1,t2,e⟩
    ·
     have HE:=HF e;clear HF HN e;go_wp2_with fail
     refine (A6 _ _ _ _).mono ?_;rintro e w3 ⟨rfl,rfl⟩;rw[t0];go_wp2_with fail
     refine (Hd _).mono ?_;rintro e w3 ⟨rfl,rfl⟩;go_wp2;exact⟨rfl,by rw[Ae HE.out],hK.alloc _⟩
    ·
     have HE:=HF e;clear HF HN e;go_wp2_with fail
     refine (A6 _ _ _ _).mono ?_;rintro e w3 ⟨rfl,rfl⟩;rw[t0];go_wp2_with fail
     refine (DU _).mono ?_;rintro e w3 ⟨rfl,rfl⟩;go_wp2_with fail
     refine (A6 _ _ _ _).mono ?_;rintro e w3 ⟨rfl,rfl⟩;rw[t1];go_wp2_with fail
     refine (Hd _).mono ?_;rintro e w3 ⟨rfl,rfl⟩;go_wp2;exact⟨rfl,by rw[Ae HE.out],hK.alloc _⟩
    ·
     have HE:=HF e;clear HF HN e;go_wp2_with fail
     refine (A6 _ _ _ _).mono ?_;rintro e w3 ⟨rfl,rfl⟩;rw[t0];go_wp2_with fail
     refine (DU _).mono ?_;rintro e w3 ⟨rfl,rfl⟩;go_wp2_with fail
     refine (A6 _ _ _ _).mono ?_;rintro e w3 ⟨rfl,rfl⟩;rw[t1];go_wp2_with fail
     refine (DU _).mono ?_;rintro e w3 ⟨rfl,rfl⟩;go_wp2_with fail
     refine (A6 _ _ _ _).mono ?_;rintro e w3 ⟨rfl,rfl⟩;rw[t2];go_wp2_with fail
     refine (Hd _).mono ?_;rintro e w3 ⟨rfl,rfl⟩;go_wp2;exact⟨rfl,by rw[Ae HE.out],hK.alloc _⟩
    ·
     have HE:=HN e;clear HF HN e;go_wp2_with fail
     refine (A6 _ _ _ _).mono ?_;rintro e w3 ⟨rfl,rfl⟩;rw[t0];go_wp2_with fail
     refine (DU _).mono ?_;rintro e w3 ⟨rfl,rfl⟩;go_wp2_with fail
     refine (A6 _ _ _ _).mono ?_;rintro e w3 ⟨rfl,rfl⟩;rw[t1];go_wp2_with fail
     refine (DU _).mono ?_;rintro e w3 ⟨rfl,rfl⟩;go_wp2_with fail
     refine (A6 _ _ _ _).mono ?_;rintro e w3 ⟨rfl,rfl⟩;rw[t2];go_wp2_with fail
     refine (DU _).mono ?_;rintro e w3 ⟨rfl,rfl⟩;go_wp2;go_roundw;case rel=>exact⟨k+1,by omega,rfl,HE,hK.alloc _⟩
     case measure=>simp[intOf];omega
   have HE:Hid (PA last ns=true):=AI (by rw[HT.out];exact GI zN (fun j hj=>hno.out j (by omega)));obtain rfl:k=ns.length:=by omega
   clear hno HT;go_wp2;go_end0;exact⟨by rw[Av HE.out],hK⟩
 ·
  have HT:Hid (PA last ns=false):=AI (by rw[HD.out,KAi hn];rfl);clear HD;go_enter Tryz.func161,Tryz.ntmps161
  go_wp2_with fail
  refine (ET _ _).mono ?_;rintro e w2 ⟨rfl,rfl⟩;rw[Ae (by simp;omega)];go_wp2;exact⟨rfl,by rw[Ae HT.out],AC.refl _⟩
theorem Ow (w:World)(v:BV)(AA:List (List Dd))(b:Bd)(last:Int)(h:Cw w v AA b)(hz:MS AA b):
  Calls Tryz.prog 134 #[v.agg,.int .i64 last] w fun e w'=>e=Kv (FJ last b)/\AC w w':=by
 obtain⟨aW,aP,aL,aN,aX,aS,aF,aR,cW,cP,cL,cN,cX,cS,cF,cR,rfl⟩:=h.shapes;have CP:=fun (W:World) (kW:AC w W)=>ES W _ b.AM 3 0 9 (h.P.keep kW) hz.AM
 have CL:=fun (W:World) (kW:AC w W)=>ES W _ b.AQ 3 0 last (h.L.keep kW) hz.AQ
 have HD:Hid (FJ last b=(Fq b.AM 3 0 9&&(Fq b.AQ 3 0 last&&(decide (b.rws.length=3)&&b.rws.all (JW last))))):=AI rfl;have HR:=AI h.R;have HZ:=AI hz.r2;have hz1:=hz.r1;have c1:(w.alloc (.cells #[.slice aW AA.length cW,.slice aP b.AM.length cP,.slice aL b.AQ.length cL,.slice aN b.AJ.length cN,.slice aX b.AK.length cX,.slice aS b.sn.length cS,.slice aF b.fr.length cF,.slice aR b.rws.length cR] 103)).cell? ⟨w.heap.size,1,none⟩=some (.slice aP b.AM.length cP):=AO (AC.refl _) 1;have c2:(w.alloc (.cells #[.slice aW AA.length cW,.slice aP b.AM.length cP,.slice aL b.AQ.length cL,.slice aN b.AJ.length cN,.slice aX b.AK.length cX,.slice aS b.sn.length cS,.slice aF b.fr.length cF,.slice aR b.rws.length cR] 103)).cell? ⟨w.heap.size,2,none⟩=some (.slice aL b.AQ.length cL):=AO (AC.refl _) 2;have c7:(w.alloc (.cells #[.slice aW AA.length cW,.slice aP b.AM.length cP,.slice aL b.AQ.length cL,.slice aN b.AJ.length cN,.slice aX b.AK.length cX,.slice aS b.sn.length cS,.slice aF b.fr.length cF,.slice aR b.rws.length cR] 103)).cell? ⟨w.heap.size,7,none⟩=some (.slice aR b.rws.length cR):=AO (AC.refl _) 7;have KW:AC w (w.alloc (.cells #[.slice aW AA.length cW,.slice aP b.AM.length cP,.slice aL b.AQ.length cL,.slice aN b.AJ.length cN,.slice aX b.AK.length cX,.slice aS b.sn.length cS,.slice aF b.fr.length cF,.slice aR b.rws.length cR] 103)):=(AC.refl w).alloc _;clear h hz;go_enter Tryz.func134,Tryz.ntmps134
 go_upto_region 1 with fail
 generalize (w.alloc (.cells #[.slice aW AA.length cW,.slice aP b.AM.length cP,.slice aL b.AQ.length cL,.slice aN b.AJ.length cN,.slice aX b.AK.length cX,.slice aS b.sn.length cS,.slice aF b.fr.length cF,.slice aR b.rws.length cR] 103))=w1 at *;go_wp2_with fail
 refine (CP _ KW).mono ?_;rintro e w2 ⟨rfl,rfl⟩;cases hp:Fq b.AM 3 0 9
 ·
  have HE:Hid (FJ last b=false):=AI (by rw[HD.out,hp];rfl);rw[Ae rfl];go_wp2;exact⟨rfl,by rw[Ae HE.out],KW⟩
 rw[Av rfl];go_wp2_with fail
 refine (CL _ KW).mono ?_;rintro e w2 ⟨rfl,rfl⟩;cases hl:Fq b.AQ 3 0 last
 ·
  have HE:Hid (FJ last b=false):=AI (by rw[HD.out,hl];simp);rw[Ae rfl];go_wp2;exact⟨rfl,by rw[Ae HE.out],KW⟩
 rw[Av rfl];go_wp2_with fail
 refine (ET _ _).mono ?_;rintro e w2 ⟨rfl,rfl⟩;by_cases hr:b.rws.length=3;rotate_left
 ·
  have HE:Hid (FJ last b=false):=AI (by rw[HD.out,KAi hr];simp);rw[Ae (by simp;omega)];go_wp2;exact⟨rfl,by rw[Ae HE.out],KW⟩
 have HT:Hid (FJ last b=b.rws.all (JW last)):=AI (by rw[HD.out,hp,hl,KAl hr];rfl);rw[Av (by simp;omega)];clear HD hp hl hr CP CL;go_wp2;go_loopw [5,21] (fun _ i wr=>∃k:Nat,k<=b.rws.length/\i = .int .i64 k/\Hid (∀j,j<k->JW last (b.rws.getD j [])=true)/\wr=w2) (fun _ i _=>b.rws.length-(intOf i).toNat)
 case atStart=>exact⟨0,KAb _,rfl,AI (fun j hj=>absurd hj (KB1 _)),rfl⟩
 case round=>
  obtain⟨k,hk,rfl,hno,rfl⟩:=hrel;by_cases hlt:k<b.rws.length
  ·
   obtain⟨a',c',he',hR⟩:=HR.out.keep KW;simp only[KAT,KA8] at he';obtain⟨rfl,rfl⟩:=he';rcases hR with h0|⟨br,or,rfl,hbr,hcr⟩
   . exfalso;rw[h0] at hlt;simp at hlt
   obtain⟨vr,d,r⟩:=hcr k hlt;have C:=Ss wr vr _ last r (HZ.out k hlt);have HF:JW last (b.rws.getD k [])=false->Hid (FJ last b=false):=fun e=>AI (by rw[HT.out];exact IC [] hlt e)
   have HN:JW last (b.rws.getD k [])=true->Hid (∀j,j<k+1->JW last (b.rws.getD j [])=true):=fun hq=>AI (fun j hj=>by
    by_cases e:j=k
    . rw[e];exact hq
    . exact hno.out j (by omega))
   clear hcr hno HT r;have i1:(0:Int)<=(k:Int):=KAK _;have i2:(k:Int)<(b.rws.length:Int):=by omega
   generalize b.rws.getD k []=row at *;go_wp2_with fail
   refine C.mono ?_;rintro e w3 ⟨rfl,rfl⟩;cases hq:JW last row
   ·
    have HE:=HF hq;rw[Ae rfl];go_wp2;exact⟨rfl,by rw[Ae HE.out],KW⟩
   ·
    have HE:=HN hq;rw[Av rfl];go_wp2;go_roundw;case rel=>exact⟨k+1,by omega,rfl,HE,trivial⟩
    case measure=>simp[intOf];omega
  have HE:Hid (FJ last b=true):=AI (by rw[HT.out];exact GI [] (fun j hj=>hno.out j (by omega)));obtain rfl:k=b.rws.length:=by omega
  clear hno HT;go_wp2;go_end0;exact⟨by rw[Av HE.out],KW⟩
theorem Nr (w:World)(v:BV)(AA:List (List Dd))(b:Bd)(last:Int)(h:Cw w v AA b)(hz:MS AA b):
  Calls Tryz.prog 135 #[v.agg,.int .i64 last] w fun e w'=>e=Kv (IP last AA b)/\AC w w':=by
 obtain⟨aW,aP,aL,aN,aX,aS,aF,aR,cW,cP,cL,cN,cX,cS,cF,cR,rfl⟩:=h.shapes;have HD:Hid (IP last AA b=(decide (b.AJ.length=AA.length)&&(decide (b.AK.length=AA.length)&&(List.range AA.length).all (Wr last AA b)))):=AI rfl;have HH:=AI h;have HZ:=AI hz;have hz1:=hz.w1;have c0:(w.alloc (.cells #[.slice aW AA.length cW,.slice aP b.AM.length cP,.slice aL b.AQ.length cL,.slice aN b.AJ.length cN,.slice aX b.AK.length cX,.slice aS b.sn.length cS,.slice aF b.fr.length cF,.slice aR b.rws.length cR] 103)).cell? ⟨w.heap.size,0,none⟩=some (.slice aW AA.length cW):=AO (AC.refl _) 0;have c3:(w.alloc (.cells #[.slice aW AA.length cW,.slice aP b.AM.length cP,.slice aL b.AQ.length cL,.slice aN b.AJ.length cN,.slice aX b.AK.length cX,.slice aS b.sn.length cS,.slice aF b.fr.length cF,.slice aR b.rws.length cR] 103)).cell? ⟨w.heap.size,3,none⟩=some (.slice aN b.AJ.length cN):=AO (AC.refl _) 3;have c4:(w.alloc (.cells #[.slice aW AA.length cW,.slice aP b.AM.length cP,.slice aL b.AQ.length cL,.slice aN b.AJ.length cN,.slice aX b.AK.length cX,.slice aS b.sn.length cS,.slice aF b.fr.length cF,.slice aR b.rws.length cR] 103)).cell? ⟨w.heap.size,4,none⟩=some (.slice aX b.AK.length cX):=AO (AC.refl _) 4;have KW:AC w (w.alloc (.cells #[.slice aW AA.length cW,.slice aP b.AM.length cP,.slice aL b.AQ.length cL,.slice aN b.AJ.length cN,.slice aX b.AK.length cX,.slice aS b.sn.length cS,.slice aF b.fr.length cF,.slice aR b.rws.length cR] 103)):=(AC.refl w).alloc _;have z1:w.heap.size<(w.alloc (.cells #[.slice aW AA.length cW,.slice aP b.AM.length cP,.slice aL b.AQ.length cL,.slice aN b.AJ.length cN,.slice aX b.AK.length cX,.slice aS b.sn.length cS,.slice aF b.fr.length cF,.slice aR b.rws.length cR] 103)).heap.size:=by rw[AD];omega
 clear h hz;go_enter Tryz.func135,Tryz.ntmps135
 go_upto_region 1 with fail
 generalize (w.alloc (.cells #[.slice aW AA.length cW,.slice aP b.AM.length cP,.slice aL b.AQ.length cL,.slice aN b.AJ.length cN,.slice aX b.AK.length cX,.slice aS b.sn.length cS,.slice aF b.fr.length cF,.slice aR b.rws.length cR] 103))=w1 at *;go_wp2_with fail
 refine (ET _ _).mono ?_;rintro e w2 ⟨rfl,rfl⟩;by_cases hr:b.AJ.length=AA.length;rotate_left
 ·
  have HE:Hid (IP last AA b=false):=AI (by rw[HD.out,KAi hr];rfl);rw[Ae (by simp;omega)];go_wp2;exact⟨rfl,by rw[Ae HE.out],KW⟩
 have HN:=AI hr;rw[Av (by simp;omega)];clear hr;go_wp2_with fail
 refine (ET _ _).mono ?_;rintro e w2 ⟨rfl,rfl⟩;by_cases hr:b.AK.length=AA.length;rotate_left
 ·
  have HE:Hid (IP last AA b=false):=AI (by rw[HD.out,KAi hr];simp);rw[Ae (by simp;omega)];go_wp2;exact⟨rfl,by rw[Ae HE.out],KW⟩
 have HX:=AI hr;have HT:Hid (IP last AA b=(List.range AA.length).all (Wr last AA b)):=AI (by rw[HD.out,KAl HX.out,KAl HN.out];rfl);rw[Av (by simp;omega)];clear hr HD;go_wp2;go_loopw [4,5,25] (fun _ _ i wr=>∃k:Nat,k<=AA.length/\i = .int .i64 k/\Hid (∀j,j<k->Wr last AA b j=true)/\AC w2 wr) (fun _ _ i _=>AA.length-(intOf i).toNat)
 case atStart=>exact⟨0,KAb _,rfl,AI (fun j hj=>absurd hj (KB1 _)),AC.refl _⟩
 case round=>
  obtain⟨k,hk,rfl,hno,hK⟩:=hrel;by_cases hlt:k<AA.length
  ·
   have lN:k<b.AJ.length:=by rw[HN.out];exact hlt
   have lX:k<b.AK.length:=by rw[HX.out];exact hlt
   have K2:=KW.trans hK;have e3:=(hK.cell z1).trans c3;have e4:=(hK.cell z1).trans c4;obtain⟨a',c',he',hX⟩:=HH.out.X.keep K2;simp only[KAT,KA8] at he';obtain⟨rfl,rfl⟩:=he';rcases hX with h0|⟨bx,ox,rfl,hbx,hcx⟩
   . exfalso;rw[h0] at lX;simp at lX
   obtain⟨a',c',he',hW⟩:=HH.out.W.keep K2;simp only[KAT,KA8] at he';obtain⟨rfl,rfl⟩:=he';rcases hW with h0|⟨bw,ow,rfl,hbw,hcw⟩
   . exfalso;rw[h0] at hlt;simp at hlt
   obtain⟨a',c',he',hN⟩:=HH.out.N.keep K2;simp only[KAT,KA8] at he';obtain⟨rfl,rfl⟩:=he';rcases hN with h0|⟨bn,on,rfl,hbn,hcn⟩
   . exfalso;rw[h0] at lN;simp at lN
   have d1:=hcx k lX;obtain⟨vw,d2,r2⟩:=hcw k hlt;obtain⟨vn,d3,r3⟩:=hcn k lN;have hz2:=HZ.out.w2 k hlt;have C:=Ov wr vn _ last r3 (HZ.out.n2 k lN);have HF:Wr last AA b k=false->Hid (IP last AA b=false):=fun e=>AI (by rw[HT.out];exact FC hlt e)
   have HM:Wr last AA b k=true->Hid (∀j,j<k+1->Wr last AA b j=true):=fun hq=>AI (fun j hj=>by
    by_cases e:j=k
    . rw[e];exact hq
    . exact hno.out j (by omega))
   have HC:Hid (Wr last AA b k=(Co (b.AK.getD k 0) 0 ((AA.getD k []).length:Int)&&PA last (b.AJ.getD k []))):=AI rfl;have i1:(0:Int)<=(k:Int):=KAK _;have i2:(k:Int)<(AA.length:Int):=by omega
   have i3:(k:Int)<(b.AK.length:Int):=by omega
   have i4:(k:Int)<(b.AJ.length:Int):=by omega
   clear hcx hcw hcn hno HT r3 HH HZ;obtain⟨aw,cw,rfl,-⟩:=r2;generalize AA.getD k []=ds at *;generalize b.AK.getD k 0=x at *;generalize b.AJ.getD k []=ns at *;go_wp2_with fail
   refine (A6 _ _ _ _).mono ?_;rintro e w3 ⟨rfl,rfl⟩;cases hi:Co x 0 (ds.length:Int)
   ·
    have HE:=HF (by rw[HC.out,hi];rfl);go_wp2_with fail
    refine (Hd _).mono ?_;rintro e w3 ⟨rfl,rfl⟩;go_wp2;exact⟨rfl,by rw[Ae HE.out],K2⟩
   have HC2:Hid (Wr last AA b k=PA last ns):=AI (by rw[HC.out,hi];rfl);go_wp2_with fail
   refine (DU _).mono ?_;rintro e w3 ⟨rfl,rfl⟩;clear hi HC;go_wp2_with fail
   refine C.mono ?_;rintro e w4 ⟨rfl,k4⟩;rw[<-HC2.out];cases hq:Wr last AA b k
   ·
    have HE:=HF hq;rw[Ae rfl];go_wp2;exact⟨rfl,by rw[Ae HE.out],K2.trans k4⟩
   ·
    have HE:=HM hq;rw[Av rfl];clear HF HM HC2;go_wp2;go_roundw;case rel=>exact⟨k+1,by omega,rfl,HE,hK.trans k4⟩
    case measure=>simp[intOf];omega
  have HE:Hid (IP last AA b=true):=AI (by rw[HT.out];exact Fe (fun j hj=>hno.out j (by omega)));obtain rfl:k=AA.length:=by omega
  clear hno HT;go_wp2;go_end0;exact⟨by rw[Av HE.out],KW.trans hK⟩
theorem GL (w:World)(v:BV)(AA:List (List Dd))(b:Bd)(h:Cw w v AA b)(hz:MS AA b):
  Calls Tryz.prog 106 #[v.agg] w fun e w'=>e=Kv (Ap AA b)/\AC w w':=by
 obtain⟨aW,aP,aL,aN,aX,aS,aF,aR,cW,cP,cL,cN,cX,cS,cF,cR,rfl⟩:=h.shapes;have HS:Hid (Ap AA b=GJ AA b):=AI (SA AA b (Ew Af (AB AA))).symm;have HD:Hid (GJ AA b=(AL AA&&(FJ (((AB AA).length:Int)-1) b&&(IP (((AB AA).length:Int)-1) AA b&&(Fq b.sn (AW Af (AB AA)).length (-1) 9&&Fq b.fr (AW Af (AB AA)).length (-1) (((AB AA).length:Int)-1)))))):=AI rfl;have CW:=fun (W:World) (kW:AC w W)=>Cs W _ AA (h.W.keep kW) hz.w1 hz.w2
 have CE:=fun (W:World) (kW:AC w W)=>Dg W _ AA (h.W.keep kW) hz.w1 hz.w2
 have CT:=fun (W:World) (kW:AC w W)=>Ow W _ AA b (((AB AA).length:Int)-1) (h.keep kW) hz
 have CC:=fun (W:World) (kW:AC w W)=>Nr W _ AA b (((AB AA).length:Int)-1) (h.keep kW) hz
 have CS:=fun (W:World) (kW:AC w W)=>ES W _ b.sn (AW Af (AB AA)).length (-1) 9 (h.S.keep kW) hz.sn
 have CF:=fun (W:World) (kW:AC w W)=>ES W _ b.fr (AW Af (AB AA)).length (-1) (((AB AA).length:Int)-1) (h.F.keep kW) hz.fr
 have le:=BO AA;have lr:=Ew Af (AB AA);have c0:(w.alloc (.cells #[.slice aW AA.length cW,.slice aP b.AM.length cP,.slice aL b.AQ.length cL,.slice aN b.AJ.length cN,.slice aX b.AK.length cX,.slice aS b.sn.length cS,.slice aF b.fr.length cF,.slice aR b.rws.length cR] 103)).cell? ⟨w.heap.size,0,none⟩=some (.slice aW AA.length cW):=AO (AC.refl _) 0;have hB1:(w.alloc (.cells #[.slice aW AA.length cW,.slice aP b.AM.length cP,.slice aL b.AQ.length cL,.slice aN b.AJ.length cN,.slice aX b.AK.length cX,.slice aS b.sn.length cS,.slice aF b.fr.length cF,.slice aR b.rws.length cR] 103)).heap[w.heap.size]? = some (.cells #[.slice aW AA.length cW,.slice aP b.AM.length cP,.slice aL b.AQ.length cL,.slice aN b.AJ.length cN,.slice aX b.AK.length cX,.slice aS b.sn.length cS,.slice aF b.fr.length cF,.slice aR b.rws.length cR] 103 (0,0)):=KAX _ _;have KW:AC w (w.alloc (.cells #[.slice aW AA.length cW,.slice aP b.AM.length cP,.slice aL b.AQ.length cL,.slice aN b.AJ.length cN,.slice aX b.AK.length cX,.slice aS b.sn.length cS,.slice aF b.fr.length cF,.slice aR b.rws.length cR] 103)):=(AC.refl w).alloc _;have z1:w.heap.size<(w.alloc (.cells #[.slice aW AA.length cW,.slice aP b.AM.length cP,.slice aL b.AQ.length cL,.slice aN b.AJ.length cN,.slice aX b.AK.length cX,.slice aS b.sn.length cS,.slice aF b.fr.length cF,.slice aR b.rws.length cR] 103)).heap.size:=by rw[AD];omega
 clear h hz;go_enter Tryz.func106,Tryz.ntmps106
 go_upto_region 1 with fail
 generalize (w.alloc (.cells #[.slice aW AA.length cW,.slice aP b.AM.length cP,.slice aL b.AQ.length cL,.slice aN b.AJ.length cN,.slice aX b.AK.length cX,.slice aS b.sn.length cS,.slice aF b.fr.length cF,.slice aR b.rws.length cR] 103))=w1 at *;go_wp2_with fail
 refine (CW _ KW).mono ?_;rintro e w2 ⟨rfl,k2⟩;have K2:=KW.trans k2;have e0:=(k2.cell z1).trans c0;go_wp2_with fail
 refine (ET _ _).mono ?_;rintro e w3 ⟨rfl,rfl⟩;cases hw:AL AA
 ·
  have HE:Hid (GJ AA b=false):=AI (by rw[HD.out,hw];simp);rw[Ae rfl];go_wp2;exact⟨rfl,by rw[HS.out,Ae HE.out],K2⟩
 rw[Av rfl];go_wp2_with fail
 refine (CE _ K2).mono ?_;rintro e w4 ⟨v4,rfl,A4,k4⟩;have K4:=K2.trans k4;have R4:=A4.rd;obtain⟨a4,x4,rfl,-⟩:=id R4;have CR:=Dq w4 _ _ R4 (by omega);have el:IntKind.i64.wrap (((AB AA).length:Int)-1)=((AB AA).length:Int)-1:=by rw[KAk];omega
 clear CW CE A4 R4 c0 e0;go_wp2_with fail
 refine CR.mono ?_;rintro e w5 ⟨v5,rfl,O5,k5⟩;have K5:=K4.trans k5;obtain⟨a5,x5,rfl,-⟩:=id O5.rd;have hB5:=(KAW (k2.trans (k4.trans k5)) w.heap.size z1).trans hB1;have z5:w.heap.size<w5.heap.size:=KAC z1 (k2.trans (k4.trans k5)).size;clear O5 CR hB1;go_wp2_with (first|refine KAq rfl 103 _ rfl w.heap.size rfl 103 _ (0,0) _ hB5 Tryz.underlying103 rfl AR ?_|fail)
 refine (CT _ K5).mono ?_;rintro e w6 ⟨rfl,k6⟩;have K6:=K5.trans k6;cases hs:FJ (((AB AA).length:Int)-1) b
 ·
  have HE:Hid (GJ AA b=false):=AI (by rw[HD.out,hs];simp);rw[Ae rfl];go_wp2;exact⟨rfl,by rw[HS.out,Ae HE.out],K6⟩
 rw[Av rfl];have hB6:=(KAW k6 w.heap.size z5).trans hB5;have z6:w.heap.size<w6.heap.size:=KAC z5 k6.size;go_wp2_with (first|refine KAq rfl 103 _ rfl w.heap.size rfl 103 _ (0,0) _ hB6 Tryz.underlying103 rfl AR ?_|fail)
 refine (CC _ K6).mono ?_;rintro e w7 ⟨rfl,k7⟩;have K7:=K6.trans k7;cases hc:IP (((AB AA).length:Int)-1) AA b
 ·
  have HE:Hid (GJ AA b=false):=AI (by rw[HD.out,hc];simp);rw[Ae rfl];go_wp2;exact⟨rfl,by rw[HS.out,Ae HE.out],K7⟩
 rw[Av rfl];have hB7:=(KAW k7 w.heap.size z6).trans hB6;have f5:w7.cell? ⟨w.heap.size,5,none⟩=some (.slice aS b.sn.length cS):=by rw[KAL w7 _ 5 _ _ _ hB7];rfl
 have f6:w7.cell? ⟨w.heap.size,6,none⟩=some (.slice aF b.fr.length cF):=by rw[KAL w7 _ 6 _ _ _ hB7];rfl
 clear hB5 hB6 hB7 CT CC;go_wp2_with fail
 refine (CS _ K7).mono ?_;rintro e w8 ⟨rfl,rfl⟩;cases hn:Fq b.sn (AW Af (AB AA)).length (-1) 9
 ·
  have HE:Hid (GJ AA b=false):=AI (by rw[HD.out,hn];simp);rw[Ae rfl];go_wp2;exact⟨rfl,by rw[HS.out,Ae HE.out],K7⟩
 rw[Av rfl];go_wp2_with fail
 refine (CF _ K7).mono ?_;rintro e w9 ⟨rfl,rfl⟩;cases hf:Fq b.fr (AW Af (AB AA)).length (-1) (((AB AA).length:Int)-1)
 ·
  have HE:Hid (GJ AA b=false):=AI (by rw[HD.out,hf];simp);rw[Ae rfl];go_wp2;exact⟨rfl,by rw[HS.out,Ae HE.out],K7⟩
 rw[Av rfl];have HE:Hid (GJ AA b=true):=AI (by rw[HD.out,hw,hs,hc,hn,hf];rfl);clear HD hw hs hc hn hf;go_wp2;go_end0;exact⟨by rw[HS.out,Av HE.out],K7⟩
theorem MC (w:World)(k p x g:Int):
  Calls Tryz.prog 167 #[.agg #[.int .i64 k,.int .i64 p,.int .i64 x,.int .i64 g]] w fun e w'=>e = .returned (.bool (EW (k,p,x,g)))/\AC w w':=by
 have HP:Hid (EW (k,p,x,g)=(decide (g=0)&&(decide (k=1)||decide (k=2)))):=AI rfl;by_cases h0:g=0
 ·
  by_cases h1:k=1
  ·
   have HT:Hid (EW (k,p,x,g)=true):=AI (by rw[HP.out];simp[h0,h1]);have q0:(g==0)=true:=by simp[h0]
   have q1:(k==1)=true:=by simp[h1]
   clear HP h0 h1;go_enter Tryz.func167,Tryz.ntmps167
   go_wp2;go_ret;exact⟨by rw[HT.out];rfl,(AC.refl w).alloc _⟩
  ·
   have HT:Hid (EW (k,p,x,g)=(k==2)):=AI (by rw[HP.out];simp[h0,h1];rfl);have q0:(g==0)=true:=by simp[h0]
   have q1:(k==1)=false:=by simp[h1]
   clear HP h0 h1;go_enter Tryz.func167,Tryz.ntmps167
   go_wp2;go_ret;exact⟨by rw[HT.out];rfl,(AC.refl w).alloc _⟩
 ·
  have HT:Hid (EW (k,p,x,g)=false):=AI (by rw[HP.out];simp[h0]);have q0:(g==0)=false:=by simp[h0]
  clear HP h0;go_enter Tryz.func167,Tryz.ntmps167
  go_wp2;go_ret;exact⟨by rw[HT.out];rfl,(AC.refl w).alloc _⟩
theorem G7 (w:World)(v:BV)(AA:List (List Dd))(b:Bd)(c:Nat)(h:Cw w v AA b)(hc:c<b.AJ.length):
  Calls Tryz.prog 151 #[v.agg,.int .i64 c] w fun e w'=>e = .returned (.bool (decide (0<(b.AJ.getD c []).length)))/\AC w w':=by
 obtain⟨aW,aP,aL,aN,aX,aS,aF,aR,cW,cP,cL,cN,cX,cS,cF,cR,rfl⟩:=h.shapes;have KW:AC w (w.alloc (.cells #[.slice aW AA.length cW,.slice aP b.AM.length cP,.slice aL b.AQ.length cL,.slice aN b.AJ.length cN,.slice aX b.AK.length cX,.slice aS b.sn.length cS,.slice aF b.fr.length cF,.slice aR b.rws.length cR] 103)):=(AC.refl w).alloc _;have c3:(w.alloc (.cells #[.slice aW AA.length cW,.slice aP b.AM.length cP,.slice aL b.AQ.length cL,.slice aN b.AJ.length cN,.slice aX b.AK.length cX,.slice aS b.sn.length cS,.slice aF b.fr.length cF,.slice aR b.rws.length cR] 103)).cell? ⟨w.heap.size,3,none⟩=some (.slice aN b.AJ.length cN):=AO (AC.refl _) 3;have h':=h.keep KW;obtain⟨a',c',he',hN⟩:=h'.N;simp only[KAT,KA8] at he';obtain⟨rfl,rfl⟩:=he';rcases hN with h0|⟨bn,on,rfl,hbn,hcn⟩
 . exfalso;rw[h0] at hc;simp at hc
 obtain⟨vn,d3,r3⟩:=hcn c hc;obtain⟨an,cn,rfl,-⟩:=r3;generalize (b.AJ.getD c []).length=L at *;have j1:(0:Int)<=(c:Int):=KAK _;have j4:(c:Int)<(b.AJ.length:Int):=by omega
 have HQ:Hid (decide ((0:Int)<(L:Int))=decide (0<L)):=AI (by simp);clear hcn h h';go_enter Tryz.func151,Tryz.ntmps151
 go_wp2;go_ret;exact⟨by rw[<-HQ.out];rfl,KW⟩
theorem Lw (w:World)(v:BV)(AA:List (List Dd))(b:Bd)(c:Nat)(h:Cw w v AA b)(hb:Ap AA b=true)(hc:c<AA.length):
  Calls Tryz.prog 149 #[v.agg,.int .i64 c] w fun e w'=>e = .returned (.bool (Ce AA b c))/\AC w w':=by
 have S:=Ee.of hb;have hok:=CV S.work hc;have hnx:=GD hb hc;have hw5:=Dy S.work hc;have lX:c<b.AK.length:=by rw[S.AK];exact hc
 have lN:c<b.AJ.length:=by rw[S.AJ];exact hc
 have HC:Hid (Ce AA b c=(decide (Am b c<(AA.getD c []).length)&&((decide ((Aj AA c (Am b c)).1<=2)&&decide (BP AA c (Am b c)=0))||(b.AJ.getD c []).isEmpty))):=AI rfl;obtain⟨aW,aP,aL,aN,aX,aS,aF,aR,cW,cP,cL,cN,cX,cS,cF,cR,rfl⟩:=h.shapes;obtain⟨w1,hw1⟩:∃W:World,W=w.alloc (.cells #[.slice aW AA.length cW,.slice aP b.AM.length cP,.slice aL b.AQ.length cL,.slice aN b.AJ.length cN,.slice aX b.AK.length cX,.slice aS b.sn.length cS,.slice aF b.fr.length cF,.slice aR b.rws.length cR] 103):=⟨_,rfl⟩;have K1:AC w w1:=by rw[hw1];exact (AC.refl w).alloc _
 have hB:w1.heap[w.heap.size]? = some (.cells #[.slice aW AA.length cW,.slice aP b.AM.length cP,.slice aL b.AQ.length cL,.slice aN b.AJ.length cN,.slice aX b.AK.length cX,.slice aS b.sn.length cS,.slice aF b.fr.length cF,.slice aR b.rws.length cR] 103 (0,0)):=by rw[hw1];exact KAX _ _
 have c0:w1.cell? ⟨w.heap.size,0,none⟩=some (.slice aW AA.length cW):=by rw[KAL w1 _ 0 _ _ _ hB];rfl
 have c4:w1.cell? ⟨w.heap.size,4,none⟩=some (.slice aX b.AK.length cX):=by rw[KAL w1 _ 4 _ _ _ hB];rfl
 have y1:w.heap.size<w1.heap.size:=by rw[hw1,AD];omega
 have h':=h.keep K1;have CH:=fun (W:World) (kW:AC w W)=>G7 W _ AA b c (h.keep kW) lN
 obtain⟨a',c',he',hX⟩:=h'.X;simp only[KAT,KA8] at he';obtain⟨rfl,rfl⟩:=he';rcases hX with h0|⟨bx,ox,rfl,hbx,hcx⟩
 . exfalso;rw[h0] at lX;simp at lX
 obtain⟨a',c',he',hW⟩:=h'.W;simp only[KAT,KA8] at he';obtain⟨rfl,rfl⟩:=he';rcases hW with h0|⟨bw,ow,rfl,hbw,hcw⟩
 . exfalso;rw[h0] at hc;simp at hc
 have d1:=hcx c lX;obtain⟨vw,d2,r2⟩:=hcw c hc;obtain⟨k,hk⟩:=KAn hnx.1;have hkn:Am b c=k:=by unfold Am;rw[hk];rfl
 rw[hkn] at HC;rw[hk] at d1 hnx;obtain⟨aD,cD,rfl,hD⟩:=r2;have hkl:k<=(AA.getD c []).length:=by omega
 have j1:(0:Int)<=(c:Int):=KAK _;have j2:(c:Int)<(AA.length:Int):=by omega
 have j3:(c:Int)<(b.AK.length:Int):=by omega
 have j4:(0:Int)<=(k:Int):=KAK _;have HN:Hid ((b.AJ.getD c []).isEmpty=!(decide (0<(b.AJ.getD c []).length))):=AI (by cases b.AJ.getD c []<;>rfl);generalize decide (0<(b.AJ.getD c []).length)=T at *;clear hcx hcw hnx hk h' h;by_cases hlt:k<(AA.getD c []).length
 ·
  rcases hD with h0|⟨bd,od,rfl,hbd,hcd⟩
  . exfalso;rw[h0] at hlt;simp at hlt
  obtain⟨e0,e1,e2,e3⟩:=hcd k hlt;have hkd:=Cf (hok k hlt)
  have HP:Hid (Ce AA b c=(EW (Aj AA c k) || !T)):=AI (by
   rw[HC.out,HN.out,KAl hlt,KBi]
   congr 1
   unfold EW
   have:decide ((Aj AA c k).1<=2)=(decide ((Aj AA c k).1=1)||decide ((Aj AA c k).1=2)):=by
    rcases hkd with q|q|q|q<;>rw[q]<;>rfl
   rw[this,Bool.and_comm])
  replace e0:w1.cell? ⟨bd,od+k*4,none⟩=some (.int .i64 (Aj AA c k).1):=e0;replace e1:w1.cell? ⟨bd,od+k*4+1,none⟩=some (.int .i64 (Aj AA c k).2.1):=e1;replace e2:w1.cell? ⟨bd,od+k*4+2,none⟩=some (.int .i64 (Aj AA c k).2.2.1):=e2;replace e3:w1.cell? ⟨bd,od+k*4+3,none⟩=some (.int .i64 (Aj AA c k).2.2.2):=e3;generalize (AA.getD c []).length=n at *;generalize Aj AA c k=d at *;obtain⟨x0,x1,x2,x3⟩:=d;simp only at e0 e1 e2 e3;have CP:=fun W=>MC W x0 x1 x2 x3
  generalize EW (x0,x1,x2,x3)=P at *;have j5:(k:Int)<=(n:Int):=by omega
  have j6:(k:Int)<=((n+cD:Nat):Int):=by omega
  obtain⟨l,hl⟩:∃l:Nat,n=k+1+l:=⟨n-k-1,by omega⟩;subst hl;clear hcd hkd HC HN hok hlt hkl hw5;go_enter Tryz.func149,Tryz.ntmps149
  go_upto_region 1 with fail
  rw[<-hw1];clear hw1;go_quiet (fail)
  go_wp2_with fail
  refine (CP _).mono ?_;rintro e w2 ⟨rfl,k2⟩;have K2:=(K1.drewN _).trans k2;have hB2:=(KAW k2 w.heap.size y1).trans hB
  cases P with
  |true=>
   go_wp2;go_ret;exact⟨by rw[HP.out];rfl,K2⟩
  |false=>
   have z0:w2.cell? ⟨w.heap.size,0,none⟩=some (.slice (some ⟨bw,ow,none⟩) AA.length cW):=by rw[KAL w2 _ 0 _ _ _ hB2];rfl
   have z1:w2.cell? ⟨w.heap.size,1,none⟩=some (.slice aP b.AM.length cP):=by rw[KAL w2 _ 1 _ _ _ hB2];rfl
   have z2:w2.cell? ⟨w.heap.size,2,none⟩=some (.slice aL b.AQ.length cL):=by rw[KAL w2 _ 2 _ _ _ hB2];rfl
   have z3:w2.cell? ⟨w.heap.size,3,none⟩=some (.slice aN b.AJ.length cN):=by rw[KAL w2 _ 3 _ _ _ hB2];rfl
   have z4:w2.cell? ⟨w.heap.size,4,none⟩=some (.slice (some ⟨bx,ox,none⟩) b.AK.length cX):=by rw[KAL w2 _ 4 _ _ _ hB2];rfl
   have z5:w2.cell? ⟨w.heap.size,5,none⟩=some (.slice aS b.sn.length cS):=by rw[KAL w2 _ 5 _ _ _ hB2];rfl
   have z6:w2.cell? ⟨w.heap.size,6,none⟩=some (.slice aF b.fr.length cF):=by rw[KAL w2 _ 6 _ _ _ hB2];rfl
   have z7:w2.cell? ⟨w.heap.size,7,none⟩=some (.slice aR b.rws.length cR):=by rw[KAL w2 _ 7 _ _ _ hB2];rfl
   go_wp2_with fail
   refine (CH _ K2).mono ?_;rintro e w3 ⟨rfl,k3⟩;go_wp2;go_ret;exact⟨by rw[HP.out];rfl,K2.trans k3⟩
 ·
  obtain rfl:k=(AA.getD c []).length:=by omega
  have HP:Hid (Ce AA b c=false):=AI (by rw[HC.out,KAi (by omega),KCe]);generalize (AA.getD c []).length=n at *;have j5:(n:Int)<=((n+cD:Nat):Int):=by omega
  clear hD HC HN hok hlt hkl hw5 CH
  cases aD with
  |none=>
   go_enter Tryz.func149,Tryz.ntmps149
   go_upto_region 1 with fail
   rw[<-hw1];clear hw1;go_quiet (fail)
   go_wp2;all_goals go_ret
   all_goals exact⟨by rw[HP.out];rfl,K1.drewN _⟩
  |some x=>
   go_enter Tryz.func149,Tryz.ntmps149
   go_upto_region 1 with fail
   rw[<-hw1];clear hw1;go_quiet (fail)
   go_wp2;all_goals go_ret
   all_goals exact⟨by rw[HP.out];rfl,K1.drewN _⟩
theorem ZE (p0:Addr)(w:World):CallsD Tryz.prog 148 #[.pointer (some p0)] .returning w fun e u' w'=>e = .returned (.tuple #[])/\u' = .returning/\w'=w:=by
 refine KCb Tryz.func148 rfl fun c₀ cs hu=>?_
 apply wpS_seq;apply KC1;have hn:∀w:World,(binOp BinOp.neq 20 .nilIface .nilIface).run Tryz.prog w = .ok (.bool false) w:=fun _=>by kernel_rfl
 simp[wpOpsS,go_sem,recoverD,hu,Tryz.ntmps148,Exit.thenS,hn];refine KDP (t:=false) (by simp[Act.eval,Array.replicate]) ?_;simp only[KBO,KCU];refine KDG (wp_skip ?_);cases c₀;simp_all [bodyPostS,results,Tryz.results148]
theorem iL (g:Nat)(w:World)(x:Value)(hg:w.heap[g]? = some (.cells #[x] 4 (0,0))):CallsD Tryz.prog 148 #[.pointer (some ⟨g,0,none⟩)] (.panicking [{ v:=X0,recovered:=false }]) w fun e u' w'=>e = .returned (.tuple #[])/\u' = .panicking [{ v:=X0,recovered:=true }]/\w'=w.setCell ⟨g,0,none⟩ (.bool false):=by
 have hc:w.cell? ⟨g,0,none⟩=some x:=by rw[KAL w g 0 _ _ _ hg];rfl
 have hf:w.frozen? ⟨g,0,none⟩=false:=KA1 w g 0 _ _ hg;have hv:∀w:World,(binOp BinOp.neq 20 X0 .nilIface).run Tryz.prog w = .ok (.bool true) w:=fun _=>by kernel_rfl
 refine KCb Tryz.func148 rfl fun c₀ cs hu=>?_
 apply wpS_seq;apply KC1;simp[wpOpsS,go_sem,recoverD,hu,Tryz.ntmps148,Exit.thenS,hv];refine KDP (t:=true) (by simp[Act.eval,Array.replicate]) ?_;simp only[KCT];refine KDG ?_;go_wp2;cases c₀;simp_all [bodyPostS,results,Tryz.results148]
theorem Hj (w:World)(v:BV)(AA:List (List Dd))(b:Bd)(h:Cw w v AA b)(hz:MS AA b):
  Calls Tryz.prog 112 #[v.agg] w fun e w'=>e = .returned (.bool (Ap AA b))/\AC w w':=by
 obtain⟨aW,aP,aL,aN,aX,aS,aF,aR,cW,cP,cL,cN,cX,cS,cF,cR,rfl⟩:=h.shapes;have C:=fun (W:World) (kW:AC w W)=>GL W _ AA b (h.keep kW) hz
 have HH:=AI h;have HZ:=AI hz;clear h hz;have hmf:∀(fn:Fn) (first cap:Array Value) (w:World),(Instr.makeFunc fn first cap).run Tryz.prog w = .ok (.func fn first cap) w:=fun _ _ _ _=>rfl
 obtain⟨w1,hw1⟩:∃W:World,W=((w.alloc (.cells #[.slice aW AA.length cW,.slice aP b.AM.length cP,.slice aL b.AQ.length cL,.slice aN b.AJ.length cN,.slice aX b.AK.length cX,.slice aS b.sn.length cS,.slice aF b.fr.length cF,.slice aR b.rws.length cR] 103)).alloc (.cells #[.bool false] 4)):=⟨_,rfl⟩;have K1:AC w w1:=by rw[hw1];exact ((AC.refl w).alloc _).alloc _
 have s1:w1.heap.size=w.heap.size+2:=by rw[hw1,AD,AD]
 have hR1:w1.heap[w.heap.size+1]? = some (.cells #[.bool false] 4 (0,0)):=by
  rw[hw1,<-AD w (.cells #[.slice aW AA.length cW,.slice aP b.AM.length cP,.slice aL b.AQ.length cL,.slice aN b.AJ.length cN,.slice aX b.AK.length cX,.slice aS b.sn.length cS,.slice aF b.fr.length cF,.slice aR b.rws.length cR] 103)];exact KAX _ _
 have hB1:w1.heap[w.heap.size]? = some (.cells #[.slice aW AA.length cW,.slice aP b.AM.length cP,.slice aL b.AQ.length cL,.slice aN b.AJ.length cN,.slice aX b.AK.length cX,.slice aS b.sn.length cS,.slice aF b.fr.length cF,.slice aR b.rws.length cR] 103 (0,0)):=by rw[hw1];exact (KAW ((AC.refl _).alloc _) _ (by rw[AD];omega)).trans (KAX _ _)
 go_enter_defers Tryz.func112,Tryz.ntmps112
 go_upto_region 2 with fail
 rw[<-hw1];clear hw1;go_wp2_with (first|refine KAq rfl 103 _ rfl w.heap.size rfl 103 _ (0,0) _ hB1 Tryz.underlying103 rfl AR ?_|fail)
 refine (C _ K1).mono ?_;rintro e w2 ⟨rfl,k2⟩;have K2:=K1.trans k2;have hR2:=(KAW k2 (w.heap.size+1) (by omega)).trans hR1;cases hb:Ap AA b
 ·
  rw[Ae rfl];have hS:=KAt w2 (w.heap.size+1) 0 _ _ (.bool false) hR2;have hc:(w2.setCell ⟨w.heap.size+1,0,none⟩ (.bool false)).cell? ⟨w.heap.size+1,0,none⟩=some (.bool false):=by rw[KAL _ _ 0 _ _ _ hS];rfl
  have KZ:=K2.grown (Ad w2 (w.heap.size+1) 0 (.bool false)) (fun k hk=>by have:=KAI hk;omega);go_wp2;refine KCr (f:=148) (args:=#[.pointer (some ⟨w.heap.size+1,0,none⟩)]) (by simp) (by simp[go_sem]) ?_;refine (iL _ _ _ hR2).mono ?_;rintro e u' w9 ⟨rfl,rfl,rfl⟩;simp[Leaves,settle,results,Tryz.results112,go_sem,hc];exact⟨hb,KZ⟩
 ·
  rw[Av rfl];have hc0:w2.cell? ⟨w.heap.size+1,0,none⟩=some (.bool false):=by rw[KAL w2 _ 0 _ _ _ hR2];rfl
  have hf:w2.frozen? ⟨w.heap.size+1,0,none⟩=false:=KA1 w2 _ 0 _ _ hR2;have hS:=KAt w2 (w.heap.size+1) 0 _ _ (.bool true) hR2;have hc:(w2.setCell ⟨w.heap.size+1,0,none⟩ (.bool true)).cell? ⟨w.heap.size+1,0,none⟩=some (.bool true):=by rw[KAL _ _ 0 _ _ _ hS];rfl
  have KZ:=K2.grown (Ad w2 (w.heap.size+1) 0 (.bool true)) (fun k hk=>by have:=KAI hk;omega);go_wp2;refine KCr (f:=148) (args:=#[.pointer (some ⟨w.heap.size+1,0,none⟩)]) (by simp) (by simp[go_sem]) ?_;refine (ZE _ _).mono ?_;rintro e u' w9 ⟨rfl,rfl,rfl⟩;simp[Leaves,settle,results,Tryz.results112,go_sem,hc];exact⟨hb,KZ⟩
abbrev OG:Array Value:=#[.int .i64 0,.func (.func 149) #[] #[],.func (.func 150) #[] #[],.int .i64 10,.func (.func 151) #[] #[],.func (.func 152) #[] #[]]
def stF (k:Nat):Int:=if k=0 then 0 else 10
def stC (k:Nat):Nat:=if k=0 then 149 else 151
def Yh (AA:List (List Dd))(b:Bd)(k c:Nat):Bool:=if k=0 then Ce AA b c else decide (0<(b.AJ.getD c []).length)
def J4 (AA:List (List Dd))(b:Bd)(k j:Nat):List Int:=((List.range j).filter (Yh AA b k)).map (fun c:Nat=>stF k+(c:Int))
def J3 (AA:List (List Dd))(b:Bd)(n:Nat):Nat->List Int
 | 0=>[]
 |k+1=>J3 AA b n k++J4 AA b k n
theorem KM (w:World):Calls Tryz.prog 113 #[] w fun e w'=>e = .returned (.slice (some ⟨w.heap.size,0,none⟩) 2 2)/\w'=w.alloc (.cells OG 178):=by
 go_enter Tryz.func113,Tryz.ntmps113
 go_wp2;go_ret;exact⟨rfl,rfl⟩
theorem TV (k:Nat)(w:World)(v:BV)(AA:List (List Dd))(b:Bd)(c:Nat)(h:Cw w v AA b)(hb:Ap AA b=true)(hc:c<AA.length):
  Calls Tryz.prog (stC k) #[v.agg,.int .i64 c] w fun e w'=>e = .returned (.bool (Yh AA b k c))/\AC w w':=by
 unfold stC Yh;by_cases h0:k=0
 . rw[KAP h0,KAP h0];exact Lw w v AA b c h hb hc
 . rw[KAQ h0,KAQ h0];exact G7 w v AA b c h (by rw[(Ee.of hb).AJ];exact hc)
theorem JQ {w:World}{T:Nat}(h:w.heap[T]? = some (.cells OG 178 (0,0))):
  (w.cell? ⟨T,0,none⟩=some (.int .i64 0)/\w.cell? ⟨T,1,none⟩=some (.func (.func 149) #[] #[])/\w.cell? ⟨T,2,none⟩=some (.func (.func 150) #[] #[])) /\
  w.cell? ⟨T,3,none⟩=some (.int .i64 10)/\w.cell? ⟨T,4,none⟩=some (.func (.func 151) #[] #[])/\w.cell? ⟨T,5,none⟩=some (.func (.func 152) #[] #[]):=
 ⟨⟨by rw[KAL w _ _ _ _ _ h];rfl,by rw[KAL w _ _ _ _ _ h];rfl,by rw[KAL w _ _ _ _ _ h];rfl⟩,by rw[KAL w _ _ _ _ _ h];rfl,by rw[KAL w _ _ _ _ _ h];rfl,by rw[KAL w _ _ _ _ _ h];rfl⟩
theorem JO:(Tryz.prog.info? 178).map (·.size)=some 3:=by kernel_rfl
end Go.Proofs.YtflehmepjhikcaaGreatDoor
