/- Gathered texts. -/
import Derived.Test.YtflehmepjhikcaaDoorME
import Derived.Test.YtflehmepjhikcaaDoorMG
import Derived.BigQuiet
import Derived.Deep.Cut
import Derived.Lib.Hide
import Derived.Test.YtflehmepjhikcaaDoorMH
set_option maxRecDepth 100000
set_option maxHeartbeats 8000000
namespace Go.Proofs.YtflehmepjhikcaaDoor
open Go.ChangeShapes Go.WideShapes Go.ChangeAt Go.RowKit
theorem refusedOutcome_any (w:World)(v vR vV vo:Value)(dss:List (List Dd))(rs vs one:List Int)(a b c:Addr)(hE:ErrW w a b c)(h:RdW w v dss)(hr:Rd w vR rs)(hv:Rd w vV vs)(ho:Rd w vo one)(hx:dss.length≤1048576)(hm:∀i,i<dss.length→(dss.getD i []).length≤1048576)(lr:rs.length≤2097152)(lv:vs.length≤2097152)(_lo:one.length≤1048576):
  Calls Tryd.prog 49 #[v,.agg #[vR,vV],vo] w fun e w'=>∃u,e = .returned u∧RefO (meetsB dss rs vs one) u∧Keep w w':=by
 have K1:Keep w (w.alloc (.cells #[vR,vV] 27)):=(Keep.refl w).alloc _;have CA:=refusedAsk_any _ v vR vV dss rs vs a (hE.no.keep K1) (h.keep K1) (hr.keep K1) (hv.keep K1) hx hm lr lv;have CC:=fun (W:World) (k:Keep w W) (hb:workB dss=true)=>readsCount_any W v dss (h.keep k) hx hm hb
 have XE:=Lib.hid hE;have HM:Hid (meetsB dss rs vs one=((askB dss rs vs&&decide ((one.length:Int)=nRd dss+3))&&meetA rs vs one)):=Lib.hid rfl;have HE:Hid (meetA rs vs one=meetP rs vs one rs.length):=Lib.hid rfl;obtain⟨aR,cR,rfl,hr⟩:=hr;obtain⟨aV,cV,rfl,hv⟩:=hv;obtain⟨ao,co,rfl,ho⟩:=ho;obtain⟨av,cv,rfl,-⟩:=h;have HR:=Lib.hid hr;have HV:=Lib.hid hv;have HO:=Lib.hid ho;clear hr hv ho hE hm;cases hT:askB dss rs vs
 ·
  rw[hT] at CA;have HN:Hid (meetsB dss rs vs one=false):=Lib.hid (by rw[HM.out,hT];rfl);clear hT HM CC;go_enter Tryd.func49,Tryd.ntmps49
  go_wp2_with fail
  refine CA.mono ?_;rintro e w1 ⟨u,rfl,hu,k1⟩;obtain⟨s,rfl⟩:=RefV.no hu;clear hu;go_wp2;go_ret;exact⟨_,rfl,.inr ⟨HN.out,_,_,rfl⟩,K1.trans k1⟩
 ·
  rw[hT] at CA;have hwb:workB dss=true:=by unfold askB at hT;rw[Bool.and_eq_true] at hT;exact hT.1
  have hok:okA (nRd dss) rs vs=true:=by unfold askB at hT;rw[Bool.and_eq_true] at hT;exact hT.2
  obtain⟨l6,hl,hkey⟩:=okA_use hok;have XL:=Lib.hid hl;have HK:=Lib.hid (fun i hi=>(hkey i hi).1);obtain⟨r0,r12⟩:=nRd_in dss;replace HM:Hid (meetsB dss rs vs one=(decide ((one.length:Int)=nRd dss+3)&&meetA rs vs one)):=Lib.hid (by rw[HM.out,hT,Bool.true_and]);replace CC:=fun W k=>CC W k hwb
  clear hT hwb hok hl hkey;obtain⟨R,hR⟩:∃R,R=nRd dss:=⟨_,rfl⟩;rw[←hR] at HK r0 r12 HM CC;clear hR;have w1':IntKind.i64.wrap (R+2)=R+2:=by rw[IntKind.wrap_i64];omega
  have w2':IntKind.i64.wrap (R+2+1)=R+2+1:=by rw[IntKind.wrap_i64];omega
  have w3':IntKind.i64.wrap (R-100)=R-100:=by rw[IntKind.wrap_i64];omega
  go_enter Tryd.func49,Tryd.ntmps49
  go_wp2_with fail
  refine CA.mono ?_;rintro e wB ⟨u,rfl,hu,k1⟩;obtain rfl:=RefV.yes hu;clear hu CA;have d0:=box_cell k1 0;have d1:=box_cell k1 1;simp at d0 d1;have y1:w.heap.size<wB.heap.size:=by have:=k1.size;rw[heap_size] at this;omega
  have KB:=K1.trans k1;go_wp2_with fail
  refine (CC _ KB).mono ?_;rintro e wA ⟨rfl,k2⟩;have b0:=(k2.cell y1).trans d0;have b1:=(k2.cell y1).trans d1;have s1:=Nat.lt_of_lt_of_le y1 k2.size;replace K1:=KB.trans k2;have g1:=(XE.out.keep K1).nx;have g3:=(XE.out.keep K1).un;clear d0 d1 y1 KB k1 k2 CC;by_cases hlen:(one.length:Int)=R+3
  ·
   have hle:((one.length:Int) != R+2+1)=false:=by rw[hlen];simp;omega
   have HN:Hid (meetsB dss rs vs one=meetA rs vs one):=Lib.hid (by rw[HM.out,decide_eq_true hlen,Bool.true_and]);have HA:Hid (∀i,i<rs.length→(0≤rs.getD i 0∧rs.getD i 0≤102)∧0≤atAk one.length (rs.getD i 0)∧atAk one.length (rs.getD i 0)<(one.length:Int)):=Lib.hid (fun i hi=>⟨key_in (HK.out i hi) r0 r12,atAk_in (HK.out i hi) hlen r0 r12⟩);clear HM HK;have HU:=Lib.hid g3;clear g1 g3;obtain⟨n,hn⟩:∃n,n=one.length:=⟨_,rfl⟩;have XN:=Lib.hid hn;rw[←hn] at hle hlen ⊢;clear hn;have XR:=Lib.hid hlen;clear hlen;go_wp2;go_loopw [9,10,31] (fun _ s10 i wr=>∃k:Nat,k≤rs.length∧i = .int .i64 k∧(∃u,s10=u)∧Hid (meetP rs vs one k=true)∧Hid (Keep wA wr)) (fun _ _ i _=>rs.length-(intOf i).toNat)
   case atStart=>exact⟨0,Nat.zero_le _,rfl,⟨_,rfl⟩,Lib.hid rfl,Lib.hid (Keep.refl _)⟩
   case round=>
    obtain⟨k,hk,rfl,⟨u7,rfl⟩,hq,hK⟩:=hrel;have f0:=(hK.out.cell s1).trans b0;have f1:=(hK.out.cell s1).trans b1;have gU:wr.cell? ⟨3,0,none⟩=some (erV c):=(XE.out.keep (K1.trans hK.out)).un;by_cases hlt:k<rs.length
    ·
     have hlt2:k<vs.length:=by have:=XL.out;omega
     rcases HR.out with q|⟨bR,oR,rfl,hbR,dR⟩
     · exfalso;rw[q] at hlt;simp at hlt
     rcases HV.out with q|⟨bV,oV,rfl,hbV,dV⟩
     · exfalso;rw[q] at hlt2;simp at hlt2
     obtain⟨⟨g0,g1⟩,g2,g3⟩:=HA.out k hlt;rcases HO.out with q|⟨bo,oo,rfl,hbo,dO⟩
     ·
      exfalso;have:one.length=0:=by rw[q];rfl
      omega
     have e1:=((K1.trans hK.out).cell hbR).trans (dR k hlt);have e2:=((K1.trans hK.out).cell hbV).trans (dV k hlt2);have e3:=((K1.trans hK.out).cell hbo).trans (dO (atAk one.length (rs.getD k 0)).toNat (by omega));have i1:(0:Int)≤(k:Int):=Int.natCast_nonneg _;have i2:(k:Int)<(rs.length:Int):=by omega
     have i3:(k:Int)<(vs.length:Int):=by omega
     have XS:Hid (meetP rs vs one (k+1)=decide (one.getD (atAk one.length (rs.getD k 0)).toNat 0=vs.getD k 0)):=Lib.hid (by
      show (meetP rs vs one k&&_)=_
      rw[hq.out,Bool.true_and])
     have hat:atAk one.length (rs.getD k 0)=if 100≤rs.getD k 0 then rs.getD k 0+(R-100) else rs.getD k 0:=by
      have hn3:(one.length:Int)=R+3:=by rw[←XN.out];exact XR.out
      unfold atAk;split
      · omega
      · rfl
     generalize one.getD (atAk one.length (rs.getD k 0)).toNat 0=z at e3 XS;generalize vs.getD k 0=y at e2 XS;generalize rs.getD k 0=x at e1 g0 g1 g2 g3 e3 hat;rw[←XN.out] at g2 g3 e3 hat;clear dR dV dO hlt2;by_cases hg:100≤x
     ·
      rw[if_pos hg] at hat;have w1:IntKind.i64.wrap (x+(R-100))=x+(R-100):=by rw[IntKind.wrap_i64];omega
      go_upto_region 12 with fail
      rw[←hat];generalize atAk n x=at_ at g2 g3 e3 hat ⊢;have XT:=Lib.hid g2;clear hat w1;obtain⟨q,hqe⟩:∃q:Nat,at_=(q:Int):=⟨at_.toNat,by omega⟩;rw[hqe] at g2 g3 e3 XT ⊢;rw[Int.toNat_natCast] at e3;clear hqe;by_cases hzy:z=y
      ·
       subst hzy;go_wp2;go_quiet (fail)
       go_wp2;go_roundw;case rel=>exact⟨k+1,by omega,by go_num,⟨_,rfl⟩,Lib.hid (by rw[XS.out];simp),Lib.hid (hK.out.drewN _)⟩
       case measure=>simp[intOf];omega
      ·
       go_wp2;go_quiet (fail)
       go_wp2;go_ret;exact⟨_,rfl,.inr ⟨by rw[HN.out,HE.out];exact meetP_off (k:=k+1) (by rw[XS.out,decide_eq_false hzy]) (by omega),_,_,rfl⟩,(K1.trans hK.out).drewN _⟩
     ·
      rw[if_neg hg] at hat;have hd:decide ((100:Int)≤x)=false:=decide_eq_false hg;go_upto_region 12 with fail
      rw[hat] at g2 g3 e3;clear hat hg hd;obtain⟨at_,hx⟩:∃a,a=x:=⟨_,rfl⟩;rw[←hx] at g2 g3 e3 e1 ⊢;have XT:=Lib.hid g2;clear hx;obtain⟨q,hqe⟩:∃q:Nat,at_=(q:Int):=⟨at_.toNat,by omega⟩;rw[hqe] at g2 g3 e3 XT ⊢;rw[Int.toNat_natCast] at e3;clear hqe;by_cases hzy:z=y
      ·
       subst hzy;go_wp2;go_quiet (fail)
       go_wp2;go_roundw;case rel=>exact⟨k+1,by omega,by go_num,⟨_,rfl⟩,Lib.hid (by rw[XS.out];simp),Lib.hid (hK.out.drewN _)⟩
       case measure=>simp[intOf];omega
      ·
       go_wp2;go_quiet (fail)
       go_wp2;go_ret;exact⟨_,rfl,.inr ⟨by rw[HN.out,HE.out];exact meetP_off (k:=k+1) (by rw[XS.out,decide_eq_false hzy]) (by omega),_,_,rfl⟩,(K1.trans hK.out).drewN _⟩
    ·
     obtain rfl:k=rs.length:=by omega
     go_wp2;go_ret;exact⟨_,rfl,.inl ⟨by rw[HN.out,HE.out];exact hq.out,rfl⟩,K1.trans hK.out⟩
  ·
   have hle:((one.length:Int) != R+2+1)=true:=by simp;omega
   have HN:Hid (meetsB dss rs vs one=false):=Lib.hid (by rw[HM.out,decide_eq_false hlen,Bool.false_and]);clear HM HK hlen;go_wp2;go_ret;exact⟨_,rfl,.inr ⟨HN.out,_,_,rfl⟩,K1⟩
theorem implMeets_at (w:World)(v vR vV vo:Value)(dss:List (List Dd))(rs vs one:List Int)(a b c:Addr)(hE:ErrW w a b c)(hg:w.cell? ⟨1,0,none⟩=some (.iface 117 (.agg #[hdV 55])))(h:RdW w v dss)(hr:Rd w vR rs)(hv:Rd w vV vs)(ho:Rd w vo one)(hx:dss.length≤1048576)(hm:∀i,i<dss.length→(dss.getD i []).length≤1048576)(lr:rs.length≤2097152)(lv:vs.length≤2097152)(lo:one.length≤1048576):
  Calls Tryd.prog 23 #[v,.agg #[vR,vV],vo] w fun e w'=>e = .returned (.bool (meetsB dss rs vs one))∧Keep w w':=by
 have K2:Keep w ((w.alloc (.cells #[vR,vV] 27)).alloc (.cells #[.string ⟨#[]⟩,.nilIface] 78)):=((Keep.refl w).alloc _).alloc _;have C:=refusedOutcome_any _ v vR vV vo dss rs vs one a b c (hE.keep K2) (h.keep K2) (hr.keep K2) (hv.keep K2) (ho.keep K2) hx hm lr lv lo;have HG:=Lib.hid hg;obtain⟨aR,cR,rfl,-⟩:=hr;obtain⟨aV,cV,rfl,-⟩:=hv;obtain⟨ao,co,rfl,-⟩:=ho;obtain⟨av,cv,rfl,-⟩:=h
 have HT:Hid (((w.alloc (.cells #[.slice aR rs.length cR,.slice aV vs.length cV] 27)).alloc (.cells #[.string ⟨#[]⟩,.nilIface] 78)).heap[w.heap.size+1]? = some (.cells #[.string ⟨#[]⟩,.nilIface] 78 (0,0))):=Lib.hid (by
  have:=heap_alloc_new (w.alloc (.cells #[.slice aR rs.length cR,.slice aV vs.length cV] 27)) (.cells #[.string ⟨#[]⟩,.nilIface] 78);rw[heap_size] at this
  exact this)
 have Z:w.heap.size+1<((w.alloc (.cells #[.slice aR rs.length cR,.slice aV vs.length cV] 27)).alloc (.cells #[.string ⟨#[]⟩,.nilIface] 78)).heap.size:=by rw[heap_size,heap_size];omega
 obtain⟨T,hT⟩:∃T,T=meetsB dss rs vs one:=⟨_,rfl⟩;rw[←hT] at C ⊢;clear hT hm hE hg;go_enter Tryd.func23,Tryd.ntmps23
 go_wp2_with fail
 refine C.mono ?_;rintro e w1 ⟨u,rfl,hu,k1⟩;have KK:=K2.trans k1;have hT1:Hid (w1.heap[w.heap.size+1]? = some (.cells #[.string ⟨#[]⟩,.nilIface] 78 (0,0))):=Lib.hid ((Below.block k1 _ Z).trans HT.out);cases T
 ·
  obtain⟨s,d,rfl⟩:=RefO.no hu;clear hu;go_wp2_with fail
  refine (asHit_any s _ _ (w.heap.size+1) _ _ _ (cell_keep HG.out KK) hT1.out (by rfl)).mono ?_;rintro e w2 ⟨rfl,k2⟩;go_wp2;go_ret;exact⟨rfl,Below.trans KK (Below.mono k2 (Nat.le_succ _))⟩
 ·
  obtain rfl:=RefO.yes hu;clear hu;go_wp2_with fail
  refine (asNil_any _ _).mono ?_;rintro e w2 ⟨rfl,k2⟩;go_wp2;go_ret;exact⟨rfl,KK.trans k2⟩
end Go.Proofs.YtflehmepjhikcaaDoor
