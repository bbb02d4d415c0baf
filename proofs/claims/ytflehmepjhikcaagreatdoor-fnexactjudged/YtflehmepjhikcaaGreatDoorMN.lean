/- Gathered texts. -/
import Derived.Deep.RegionLaw
import Derived.RegionTactic
import Derived.Deep.Cut
import Derived.Test.YtflehmepjhikcaaGreatDoorMK
import Derived.OwnWalk
import Derived.Deep.QuietTactic
import Derived.BigQuiet
import Derived.Deep.RegionHeld3
import Derived.Deep.AppendLies
import Derived.BigRegion
set_option maxRecDepth 100000
set_option maxHeartbeats 8000000
namespace Go.Proofs.YtflehmepjhikcaaGreatDoor
open Go.ChangeShapes Go.WideShapes Go.ChangeAt Go.RowKit
abbrev KBd:=@World.news_of_block
abbrev KDM:=@results_none
theorem Hb (w:World)(m D:Nat)(v:BV)(nv rv:List Value)(bs N:Nat)(AA:List (List Dd))(b:Bd)(p:Nat)(x ev:Int)(h:AU w m D v nv rv bs N AA b)(hp:p<b.AM.length)(hl:p<b.AQ.length)(hr:p<b.rws.length)(ht:(b.rws.getD p []).length<=1048576):
  Calls Tryz.prog 95 #[.pointer (some ⟨D,0,none⟩),.int .i64 p,.int .i64 x,.int .i64 ev] w fun e w'=>e = .returned (.tuple #[])/\∃rv',AU w' m D v nv rv' bs N AA (EJ b p x ev)/\Ai w w' (Bo D v nv rv) (Bo D v nv rv'):=by
 obtain⟨i0,hi,hz0,hz1,hz2⟩:=KA3 Tryz.FM;obtain⟨vW,vP,vL,vN,vX,vS,vF,vR⟩:=v;obtain⟨gp,cp,eP,lp,dp,fp⟩:=h.oP.lit hp;obtain⟨gl,cl,eL,-,-,-⟩:=h.oL.lit hl;obtain⟨aR,cR,eR,hR⟩:=h.hR;rcases hR with h0|⟨gr,rfl,-,-⟩
 . exfalso;rw[h0] at hr;simp at hr
 simp only at eP eL eR;subst eP eL eR;have c1:w.cell? ⟨D,1,none⟩=some (.slice (some ⟨gp,0,none⟩) b.AM.length cp):=h.cells.2.1;have d1:=dp p hp;have f1:=fp p;have mb:=h.base;have mP:=h.ge .AM trivial gp rfl;have mL:=h.ge .AQ trivial gl rfl;have mR:=h.ge .rws trivial gr rfl;have i1:(0:Int)<=(p:Int):=KAK _;have i2:(p:Int)<(b.AM.length:Int):=by omega
 have i3:(p:Int)<(b.AQ.length:Int):=by omega
 have i4:(p:Int)<(b.rws.length:Int):=by omega
 have H1:=h.qK (k:=p) (x:=x) rfl;have B1:=(Ai.refl w (Bo D ⟨vW,.slice (some ⟨gp,0,none⟩) b.AM.length cp,.slice (some ⟨gl,0,none⟩) b.AQ.length cl,vN,vX,vS,vF,.slice (some ⟨gr,0,none⟩) b.rws.length cR⟩ nv rv)).grown (Ad w gp p (.int .i64 x)) (fun g hg=>⟨.AM,trivial,hg⟩);have HD:=AI h;clear dp fp h;go_enter Tryz.func95,Tryz.ntmps95
 go_upto_region 1 with fail
 obtain⟨w1,hw⟩:∃W:World,W=w.setCell ⟨gp,p,none⟩ (.int .i64 x):=⟨_,rfl⟩;rw[<-hw] at H1 B1 ⊢;clear hw c1 d1 f1;obtain⟨gl',cl',eL',ll,dl,fl⟩:=H1.oL.lit hl;simp only[KAT,KAg,KA6,KBX,KA8] at eL';obtain⟨rfl,rfl⟩:=eL';have c2:w1.cell? ⟨D,2,none⟩=some (.slice (some ⟨gl,0,none⟩) b.AQ.length cl):=H1.cells.2.2.1;have d2:=dl p hl;have f2:=fl p;have H2:=H1.Ek (k:=p) (x:=ev) rfl;have B2:=B1.grown (Ad w1 gl p (.int .i64 ev)) (fun g hg=>⟨.AQ,trivial,hg⟩);clear dl fl;go_upto_region 2 with fail
 obtain⟨w2,hw⟩:∃W:World,W=w1.setCell ⟨gl,p,none⟩ (.int .i64 ev):=⟨_,rfl⟩;rw[<-hw] at H2 B2 ⊢;clear hw c2 d2 f2 H1 B1;have H3:AU (w2.drew.alloc (.cells #[.int .i64 ev] 2)) m D _ nv rv bs N AA _:=H2.drew.keep ((AC.refl _).alloc _);obtain⟨aR',cR',eR',hR'⟩:=H2.drew.hR;simp only[KAT,KA8] at eR';obtain⟨rfl,rfl⟩:=eR';rcases hR' with h0|⟨gr',er,lr,dr⟩
 . exfalso;rw[h0] at hr;simp at hr
 simp only[KAg,KA6,KBX] at er;subst er;have c3:w2.drew.cell? ⟨D,7,none⟩=some (.slice (some ⟨gr,0,none⟩) b.rws.length cR):=H2.drew.cells.2.2.2.2.2.2.2;have d3:=dr p hr;have ow:=H3.oR hr;have zD:=H2.drew.base.2;have B3:=B2.keep (((AC.refl w2).drew).alloc (.cells #[.int .i64 ev] 2));obtain⟨au,cu,hu⟩:∃a c,rv.getD p AF = .slice a (b.rws.getD p []).length c:=by obtain⟨a,c,e,_⟩:=ow.rd;exact⟨a,c,e⟩
 have HU:=AI hu;rw[hu] at d3;have o3:(w2.drew.alloc (.cells #[.int .i64 ev] 2)).ownsRow m 2 1 (.slice au (b.rws.getD p []).length cu) (b.rws.getD p []).length ((b.rws.getD p []).map (Value.int .i64)):=by rw[<-hu];exact ow
 have s3:m<=(w2.drew.alloc (.cells #[.int .i64 ev] 2)).heap.size:=by have:=H3.base;omega
 have RL:Hid ((b.rws.getD p []).length<=1048576):=AI ht;have c4:w2.cell? ⟨D,7,none⟩=some (.slice (some ⟨gr,0,none⟩) b.rws.length cR):=c3;have d4:w2.cell? ⟨gr,p,none⟩=some (.slice au (b.rws.getD p []).length cu):=d3;have l4:gr<w2.heap.size:=lr;have z4:D<w2.heap.size:=zD;have c5:(w2.alloc (.cells #[.int .i64 ev] 2)).cell? ⟨D,7,none⟩=some (.slice (some ⟨gr,0,none⟩) b.rws.length cR):=(((AC.refl w2).alloc _).cell z4).trans c4;have d5:(w2.alloc (.cells #[.int .i64 ev] 2)).cell? ⟨gr,p,none⟩=some (.slice au (b.rws.getD p []).length cu):=(((AC.refl w2).alloc _).cell l4).trans d4;clear ow dr hu;generalize hZ:b.rws.getD p []=Z at *;have HZ:=AI hZ;clear hZ;go_wp2_with fail
 go_region_law ((first
  | (refine Bf rfl (.tmp 33) (.tmp 35) 25 rfl m 2 i0 (.int .i64 0) 1 8 Tryz.underlying25 hi hz0 hz1 hz2 rfl (by decide) (.slice au Z.length cu) Z.length (Z.map (Value.int .i64)) rfl o3 ⟨_,0,none⟩ 1 1 [.int .i64 ev] rfl rfl (fun j u hj=>by match j,hj with|0,hj=>simp at hj;subst hj;simp[Addr.add]) (fun u hu=>by simp at hu;subst hu;rfl) (by unfold maxLen;omega) (by omega) s3 ?_;intro v' w5 hown' hgrow hblk;have HH:=H3.Zy hr (u:=v') (zs:=Z++[ev]) (by rw[HU.out];exact hgrow) (by rw[HU.out];rcases hblk with h|h;exact .inl h;exact .inr (.inl h)) (B8 hown') rfl;obtain⟨HO,hcell,hfr⟩:=HH;have c6:w5.cell? ⟨D,7,none⟩=some (.slice (some ⟨gr,0,none⟩) b.rws.length cR):=(H3.stay (.rw p) (by show p<rv.length;rw[H3.lr];exact hr) (by simp) (by show World.grownBy _ _ (rv.getD p AF).ownBlock;rw[HU.out];exact hgrow) 7).trans c5;obtain⟨a5,q5,hv5,-⟩:=(B8 hown').rd;rw[KAJ,KA5] at hv5;subst hv5)))
 all_goals
  go_wp2;go_end0;refine⟨rfl,rv.set p (.slice a5 (Z.length+1) q5),?_,?_⟩
  ·
   have e:EJ b p x ev={ b with AM:=b.AM.set p x,AQ:=b.AQ.set p ev,rws:=b.rws.set p (Z++[ev]) }:=by rw[EJ,HZ.out]
   rw[e];exact HO
  ·
   have hpr:p<rv.length:=by rw[H3.lr];exact hr
   refine ((B3.grown hgrow (fun k hk=>⟨.rw p,hpr,by show (rv.getD p AF).ownBlock=_;rw[HU.out];exact hk⟩)).grown (Ad _ gr p _) (fun g hg=>⟨.rws,trivial,hg⟩)).more (fun g hg=>?_);obtain⟨i,hi,e⟩:=hg
   cases i with
   |rw q=>
    have hq:q<rv.length:=by simpa [BW] using hi
    by_cases eq:q=p
    ·
     subst eq;have e:((rv.set q (.slice a5 (Z.length+1) q5)).getD q AF).ownBlock=some g:=e;rw[BR _ _ _ _ hq,KAP rfl] at e;rcases hblk with hb|hb
     . left;exact⟨.rw q,hq,by show (rv.getD q AF).ownBlock=_;rw[HU.out,<-hb];exact e⟩
     ·
      right;rw[hb] at e;have e2:(w2.drew.alloc (.cells #[.int .i64 ev] 2)).heap.size=g:=KAI e;rw[<-e2];exact B3.size
    ·
     have e:((rv.set p (.slice a5 (Z.length+1) q5)).getD q AF).ownBlock=some g:=e;rw[BR _ _ _ _ hpr,KAQ eq] at e;exact .inl ⟨.rw q,hq,e⟩
   |nt q=>exact .inl ⟨.nt q,hi,e⟩
   |bd=>exact .inl ⟨.bd,trivial,e⟩
   |AM=>exact .inl ⟨.AM,trivial,e⟩
   |AQ=>exact .inl ⟨.AQ,trivial,e⟩
   |AJ=>exact .inl ⟨.AJ,trivial,e⟩
   |AK=>exact .inl ⟨.AK,trivial,e⟩
   |sn=>exact .inl ⟨.sn,trivial,e⟩
   |fr=>exact .inl ⟨.fr,trivial,e⟩
   |rws=>exact .inl ⟨.rws,trivial,e⟩
theorem Nh (w:World)(m D:Nat)(v:BV)(nv rv:List Value)(bs N:Nat)(AA:List (List Dd))(b:Bd)(ve:Value)(es:List Ev)(ev x f:Int)(h:AU w m D v nv rv bs N AA b)(he:Yu w ve es)(hl:es.length<=12)(hs:b.sn.length=(AW Af es).length)(hf:b.fr.length=(AW Af es).length):
  Calls Tryz.prog 126 #[.pointer (some ⟨D,0,none⟩),ve,.int .i64 ev,.int .i64 x,.int .i64 f] w fun e w'=>e = .returned (.tuple #[])/\AU w' m D v nv rv bs N AA (Fz (AW Af es) b ev x f)/\Ai w w' (Bo D v nv rv) (Bo D v nv rv):=by
 have hb:=h.base;have HE:Hid (Fz (AW Af es) b ev x f={ b with sn:=D9 (AW Af es) ev x b.sn (AW Af es).length,fr:=D9 (AW Af es) ev f b.fr (AW Af es).length }):=AI (by rw[Fz,QD hs,QD hf]);generalize Fz (AW Af es) b ev x f=B' at HE ⊢
 have r12:(AW Af es).length<=12:=by
  unfold AW;rw[KAP hl];have:=E0 Af es es.length;omega
 have HS5:Hid (∀k,v.S.ownBlock=some k->k<w.heap.size):=AI (fun k hk=>(h.Ag.lt (i:= .sn) trivial k hk).2);have HF6:Hid (∀k,v.F.ownBlock=some k->k<w.heap.size):=AI (fun k hk=>(h.Ag.lt (i:= .fr) trivial k hk).2);obtain⟨vW,vP,vL,vN,vX,vS,vF,vR⟩:=v;have HS:=AI hs;have HFL:=AI hf;go_enter Tryz.func126,Tryz.ntmps126
 go_wp2_with fail
 refine (Cn _ _ _ he (by omega)).mono ?_;rintro e w1 ⟨v1,rfl,o1,k1⟩;have H1:=h.keep k1;have B1:Ai w w1 (Bo D ⟨vW,vP,vL,vN,vX,vS,vF,vR⟩ nv rv) (Bo D ⟨vW,vP,vL,vN,vX,vS,vF,vR⟩ nv rv):=(Ai.refl _ _).keep k1;have s1:=k1.size;generalize AW Af es=rs at *;obtain⟨a1,c1,rfl,-⟩:=o1.rd;clear h he hs hf;go_wp2;go_loopw [11] (fun i wr=>∃k:Nat,k<=rs.length/\i = .int .i64 k/\AU wr m D ⟨vW,vP,vL,vN,vX,vS,vF,vR⟩ nv rv bs N AA { b with sn:=D9 rs ev x b.sn k,fr:=D9 rs ev f b.fr k }/\A8 wr w.heap.size (.slice a1 rs.length c1) rs/\Ai w wr (Bo D ⟨vW,vP,vL,vN,vX,vS,vF,vR⟩ nv rv) (Bo D ⟨vW,vP,vL,vN,vX,vS,vF,vR⟩ nv rv)) (fun i _=>rs.length-(intOf i).toNat)
 case atStart=>exact⟨0,KAb _,rfl,H1,o1,B1⟩
 case round=>
  obtain⟨k,hk,rfl,H,ho,B⟩:=hrel;clear H1 B1;by_cases hlt:k<rs.length
  ·
   obtain⟨a',c',e',hc⟩:=ho.rd;simp only[KAT,KA8] at e';obtain⟨rfl,rfl⟩:=e';rcases hc with h0|⟨br,or',rfl,hbr,hcr⟩
   . exfalso;rw[h0] at hlt;simp at hlt
   have d1:=hcr k hlt;have i1:(0:Int)<=(k:Int):=KAK _;have i2:(k:Int)<(rs.length:Int):=by omega
   have HH:rs.getD k 0=ev->Hid (D9 rs ev x b.sn (k+1)=(D9 rs ev x b.sn k).set k x/\D9 rs ev f b.fr (k+1)=(D9 rs ev f b.fr k).set k f):=fun e=>AI ⟨by rw[D9,KAP (KAl e)],by rw[D9,KAP (KAl e)]⟩
   have HZ:rs.getD k 0≠ev->Hid (D9 rs ev x b.sn (k+1)=D9 rs ev x b.sn k/\D9 rs ev f b.fr (k+1)=D9 rs ev f b.fr k):=fun e=>AI ⟨by rw[D9,KAQ (by simpa using e)],by rw[D9,KAQ (by simpa using e)]⟩
   generalize rs.getD k 0=r at d1 HH HZ;clear hcr;by_cases er:r=ev
   ·
    have HM:=HH er;have be:(r==ev)=true:=by simp[er]
    subst er;clear HH HZ;have ls:(D9 rs r x b.sn k).length=b.sn.length:=Im _ _ _ _ _;have lf:(D9 rs r f b.fr k).length=b.fr.length:=Im _ _ _ _ _;have hks:k<(D9 rs r x b.sn k).length:=by rw[ls,HS.out];exact hlt
    have hkf:k<(D9 rs r f b.fr k).length:=by rw[lf,HFL.out];exact hlt
    generalize D9 rs r x b.sn k=SN at *;generalize D9 rs r f b.fr k=FR at *;obtain⟨gs,cs,eS,lgs,dS,fS⟩:=H.oS.lit hks;obtain⟨gf,cf,eF,-,-,-⟩:=H.oF.lit hkf;simp only at eS eF;subst eS eF;have c5:wr.cell? ⟨D,5,none⟩=some (.slice (some ⟨gs,0,none⟩) SN.length cs):=H.cells.2.2.2.2.2.1;have d5:=dS k hks;have f5:=fS k;have i3:(k:Int)<(SN.length:Int):=by omega
    have i4:(k:Int)<(FR.length:Int):=by omega
    have lS:gs<w.heap.size:=HS5.out gs rfl;have lF:gf<w.heap.size:=HF6.out gf rfl;have nS:(Value.slice (some ⟨br,or',none⟩) rs.length c1).ownBlock=none\/(Value.slice (some ⟨br,or',none⟩) rs.length c1).ownBlock≠some gs:= .inr (fun e=>by have:=ho.ge gs e;omega);have nF:(Value.slice (some ⟨br,or',none⟩) rs.length c1).ownBlock=none\/(Value.slice (some ⟨br,or',none⟩) rs.length c1).ownBlock≠some gf:= .inr (fun e=>by have:=ho.ge gf e;omega);have H2:=H.jv (k:=k) (x:=x) rfl;have B2:=B.grown (Ad wr gs k (.int .i64 x)) (fun g hg=>⟨.sn,trivial,hg⟩);have o2:=ho.kept (Ad wr gs k (.int .i64 x)) nS;clear dS fS;go_upto_region 6 with fail
    obtain⟨w2,hw⟩:∃W:World,W=wr.setCell ⟨gs,k,none⟩ (.int .i64 x):=⟨_,rfl⟩;rw[<-hw] at H2 B2 o2 ⊢;clear hw c5 d5 f5 d1 H B ho;obtain⟨gf',cf',eF',lgf,dF,fF⟩:=H2.oF.lit hkf;simp only[KAT,KAg,KA6,KBX,KA8] at eF';obtain⟨rfl,rfl⟩:=eF';have c6:w2.cell? ⟨D,6,none⟩=some (.slice (some ⟨gf,0,none⟩) FR.length cf):=H2.cells.2.2.2.2.2.2.1;have d6:=dF k hkf;have f6:=fF k;have H3:=H2.wJ (k:=k) (x:=f) rfl;have B3:=B2.grown (Ad w2 gf k (.int .i64 f)) (fun g hg=>⟨.fr,trivial,hg⟩);have o3:=o2.kept (Ad w2 gf k (.int .i64 f)) nF;clear dF fF;go_wp2;go_roundw;case rel=>exact⟨k+1,by omega,by go_num,by rw[HM.out.1,HM.out.2];exact H3,o3,B3⟩
    case measure=>simp[intOf];omega
   ·
    have HM:=HZ er;have be:(r==ev)=false:=by simp[er]
    clear HH HZ;go_wp2;go_roundw;case rel=>exact⟨k+1,by omega,by go_num,by rw[HM.out.1,HM.out.2];exact H,ho,B⟩
    case measure=>simp[intOf];omega
  ·
   obtain rfl:k=rs.length:=by omega
   go_wp2;go_end0;exact⟨rfl,by rw[HE.out];exact H,B⟩
theorem Qr (w:World)(v:Value)(es:List Ev)(c k:Nat)(h:Yu w v es)(hl:es.length<=12):
  Calls Tryz.prog 124 #[v,.int .i64 c,.int .i64 k] w fun e w'=>e = .returned (.int .i64 (LR es c k))/\AC w w':=by
 obtain⟨a,cp,rfl,h⟩:=h;go_enter Tryz.func124,Tryz.ntmps124
 go_wp2;go_loopw [7] (fun i wr=>∃q:Nat,3<=q/\(q<=es.length\/q=3)/\i = .int .i64 q/\Hid (∀j,3<=j->j<q->YY es c k j=false)/\AC w wr) (fun i _=>es.length-(intOf i).toNat)
 case atStart=>exact⟨3,KAM _,.inr rfl,rfl,AI (fun j h1 h2=>by omega),AC.refl _⟩
 case round=>
  obtain⟨q,h3,hq,rfl,HN,hK⟩:=hrel;by_cases hlt:q<es.length
  ·
   rcases h with h0|⟨b,off,rfl,hb,hc⟩
   . exfalso;rw[h0] at hlt;simp at hlt
   have AT:=(hc q _ (Mh hlt)).keep hb hK;have HY:YY es c k q=true->Hid (LR es c k=(q:Int)):=fun e=>AI (ic h3 hlt HN.out e)
   have HX:YY es c k q=false->Hid (∀j,3<=j->j<q+1->YY es c k j=false):=fun e=>AI (fun j h1 h2=>by
    by_cases ej:j=q
    . subst ej;exact e
    . exact HN.out j h1 (by omega))
   unfold YY at HY;have HX:(((es.getD q zE).1==(c:Int))&&((es.getD q zE).2.1==(k:Int)))=false->Hid (∀j,3<=j->j<q+1->YY es c k j=false):=HX;generalize es.getD q zE=y at AT HY HX;obtain⟨y0,y1,y2,y3,y4,y5⟩:=y;obtain⟨q0,q1,-,-,-,-⟩:=qw AT;simp only at HY HX q0 q1;have i1:(0:Int)<=(q:Int):=KAK _;have i2:(q:Int)<(es.length:Int):=by omega
   clear hc AT HN;cases e0:(y0==(c:Int))
   ·
    have HE:=HX (by rw[e0];rfl);clear HX HY;go_wp2;go_roundw;case rel=>exact⟨q+1,by omega,.inl (by omega),by go_num,HE,hK⟩
    case measure=>simp[intOf];omega
   ·
    cases e1:(y1==(k:Int))
    ·
     have HE:=HX (by rw[e0,e1];rfl);clear HX HY;go_wp2;go_roundw;case rel=>exact⟨q+1,by omega,.inl (by omega),by go_num,HE,hK⟩
     case measure=>simp[intOf];omega
    ·
     have HE:=HY (by rw[e0,e1];rfl);clear HX HY;go_wp2;go_ret;exact⟨by rw[HE.out];rfl,hK⟩
  ·
   have HE:Hid (LR es c k=-1):=AI (Ze (fun j h1 h2=>HN.out j h1 (by omega)));have i2:¬((q:Int)<(es.length:Int)):=by omega
   clear HN;go_wp2;go_ret;exact⟨by rw[HE.out];rfl,hK⟩
theorem dY {ns:List Nt}{p:Int}{j:Nat}(hj:j<ns.length)(hno:∀q,j<q->q<ns.length->(ns.getD q (0,0,0)).1≠p)(he:(ns.getD j (0,0,0)).1=p):ns.reverse.find? (fun x=>x.1==p)=some (ns.getD j (0,0,0)):=by
 have e:ns=ns.take j++(ns.getD j (0,0,0)::ns.drop (j+1)):=by
  rw[IT,KAH hj];show ns=ns.take j++ns[j]::ns.drop (j+1);rw[<-KCw hj,KCm]
 have hd:(ns.drop (j+1)).reverse.find? (fun x=>x.1==p)=none:=by
  rw[List.find?_eq_none];intro x hx;rw[List.mem_reverse] at hx;obtain⟨i,hi,ei⟩:=KBk hx;rw[List.length_drop] at hi;have:=hno (j+1+i) (by omega) (by omega);rw[List.getElem_drop] at ei;rw[IT,KAH (by omega)] at this;simp only[KBR] at this;rw[ei] at this
  simpa using this
 conv=>lhs;rw[e]
 rw[List.reverse_append,List.reverse_cons,KA2,List.find?_append,hd];generalize ns.getD j (0,0,0)=y at he ⊢;have hy:(y.1==p)=true:=by simp[he]
 simp[hy]
theorem dZ {ns:List Nt}{p:Int}(hno:∀q,q<ns.length->(ns.getD q (0,0,0)).1≠p):ns.reverse.find? (fun x=>x.1==p)=none:=by
 rw[List.find?_eq_none];intro x hx;rw[List.mem_reverse] at hx;obtain⟨i,hi,ei⟩:=KBk hx;have:=hno i hi;rw[IT,KAH hi] at this;simp only[KBR] at this;rw[ei] at this
 simpa using this
theorem Ng (w:World)(v:BV)(AA:List (List Dd))(b:Bd)(c p:Nat)(h:Cw w v AA b)(hc:c<b.AJ.length)(hp:p<b.AM.length)(hq:p<b.AQ.length)(hn:(b.AJ.getD c []).length<=1048576):
  Calls Tryz.prog 125 #[v.agg,.int .i64 c,.int .i64 p] w fun e w'=>e = .returned (.tuple #[.int .i64 (C7 b c p).1,.int .i64 (C7 b c p).2])/\AC w w':=by
 obtain⟨aW,aP,aL,aN,aX,aS,aF,aR,cW,cP,cL,cN,cX,cS,cF,cR,rfl⟩:=h.shapes;have KW:AC w (w.alloc (.cells #[.slice aW AA.length cW,.slice aP b.AM.length cP,.slice aL b.AQ.length cL,.slice aN b.AJ.length cN,.slice aX b.AK.length cX,.slice aS b.sn.length cS,.slice aF b.fr.length cF,.slice aR b.rws.length cR] 103)):=(AC.refl w).alloc _;have h':=h.keep KW;obtain⟨a',c',he',hN⟩:=h'.N;simp only[KAT,KA8] at he';obtain⟨rfl,rfl⟩:=he';rcases hN with h0|⟨bn,on,rfl,hbn,hcn⟩
 . exfalso;rw[h0] at hc;simp at hc
 obtain⟨a',c',he',hP⟩:=h'.P;simp only[KAT,KA8] at he';obtain⟨rfl,rfl⟩:=he';rcases hP with h0|⟨bp,op,rfl,hbp,hcp⟩
 . exfalso;rw[h0] at hp;simp at hp
 obtain⟨a',c',he',hL⟩:=h'.L;simp only[KAT,KA8] at he';obtain⟨rfl,rfl⟩:=he';rcases hL with h0|⟨bl,ol,rfl,hbl,hcl⟩
 . exfalso;rw[h0] at hq;simp at hq
 obtain⟨vn,d3,r3⟩:=hcn c hc;have d1:=hcp p hp;have d2:=hcl p hq;have HS:Hid (∀x,(b.AJ.getD c []).reverse.find? (fun x=>x.1==(p:Int))=some x->C7 b c p=x.2):=AI (fun x e=>by unfold C7;rw[e]);have HZ:Hid ((b.AJ.getD c []).reverse.find? (fun x=>x.1==(p:Int))=none->C7 b c p=(b.AM.getD p 0,b.AQ.getD p 0)):=AI (fun e=>by unfold C7;rw[e]);obtain⟨an,cn,rfl,r3⟩:=r3;generalize b.AJ.getD c []=ns at *;generalize b.AM.getD p 0=xp at d1 HZ;generalize b.AQ.getD p 0=xl at d2 HZ;generalize C7 b c p=ANS at HS HZ ⊢;have j1:(0:Int)<=(c:Int):=KAK _;have j2:(c:Int)<(b.AJ.length:Int):=by omega
 have j3:(0:Int)<=(p:Int):=KAK _;have j4:(p:Int)<(b.AM.length:Int):=by omega
 have j5:(p:Int)<(b.AQ.length:Int):=by omega
 have i0:IntKind.i64.wrap ((ns.length:Int)-1)=(ns.length:Int)-1:=by rw[KAk];omega
 clear hcn hcp hcl h h';go_enter Tryz.func125,Tryz.ntmps125
 go_wp2;go_loop [9] (fun i=>∃j:Nat,j<=ns.length/\i = .int .i64 ((j:Int)-1)/\Hid (∀q,j<=q->q<ns.length->(ns.getD q (0,0,0)).1≠(p:Int))) (fun i=>(intOf i+1).toNat)
 case atStart=>exact⟨ns.length,KAM _,rfl,AI (fun q h1 h2=>by omega)⟩
 case round=>
  obtain⟨j,hj,rfl,hno⟩:=hrel
  cases j with
  |zero=>
   have HE:Hid (ANS=(xp,xl)):=AI (HZ.out (dZ (fun q hq=>hno.out q (KAb _) hq)));go_wp2;go_quiet (fail)
   go_wp2;go_ret2
   exact⟨by rw[HE.out];rfl,KW.drewN _⟩
  |succ q=>
   have ej:((q+1:Nat):Int)-1=(q:Int):=by omega
   rw[ej];have pR:q<ns.length:=hj;rcases r3 with h0|⟨bq,oq,rfl,hbq,hcq⟩
   . exfalso;rw[h0] at pR;simp at pR
   obtain⟨g0,g1,g2⟩:=yD (hcq q _ (Ky pR));have HF:=fun e=>AI (HS.out _ (dY pR (fun q' h1 h2=>hno.out q' h1 h2) e))
   have HN:(ns.getD q (0,0,0)).1≠(p:Int)->Hid (∀q',q<=q'->q'<ns.length->(ns.getD q' (0,0,0)).1≠(p:Int)):=fun e=>AI (fun q' h1 h2=>by
    by_cases e':q'=q
    . rw[e'];exact e
    . exact hno.out q' (by omega) h2)
   generalize ns.getD q (0,0,0)=y at g0 g1 g2 HF HN;obtain⟨y0,y1,y2⟩:=y;simp only at g0 g1 g2 HF HN;have k1:(0:Int)<=(q:Int):=KAK _;have k2:(q:Int)<(ns.length:Int):=by omega
   have k3:IntKind.i64.wrap ((q:Int)-1)=(q:Int)-1:=by rw[KAk];omega
   clear hcq hno ej;by_cases e:y0=(p:Int)
   ·
    have HE:=HF e;have eb:(y0==(p:Int))=true:=by simp[e]
    clear HF HN e;go_wp2;go_quiet (fail)
    go_wp2;go_ret2
    exact⟨by rw[HE.out];rfl,KW.drewN _⟩
   ·
    have HE:=HN e;have eb:(y0==(p:Int))=false:=by simp[e]
    clear HF HN e;go_wp2;go_round
    case rel=>exact⟨q,by omega,rfl,HE⟩
    case measure=>simp[intOf]
theorem Tryz.mY:(Tryz.prog.info? 155).map (fun i=>(i.zero,i.size,i.bytes))=some (some (.agg #[.int .i64 0,.int .i64 0,.int .i64 0]),3,24):=by kernel_rfl
theorem Sj (w:World)(m D:Nat)(v:BV)(nv rv:List Value)(bs N:Nat)(AA:List (List Dd))(b:Bd)(n c k:Nat)(h:AU w m D v nv rv bs N AA b)(S:Ee AA b n)(hn:n<=1000)(hc:c<AA.length)(hk:k<(AA.getD c []).length):
  Calls Tryz.prog 97 #[.pointer (some ⟨D,0,none⟩),.int .i64 c,.int .i64 k] w fun e w'=>e = .returned (.tuple #[])/\∃nv' rv',AU w' m D v nv' rv' bs N AA (BL AA (AB AA) b c k)/\Ai w w' (Bo D v nv rv) (Bo D v nv' rv'):=by
 have hb0:=S.work;obtain⟨u1,u2⟩:=BM hb0;have eB:AB AA=BB AA AA.length:=by rw[AB,KAP hb0]
 have h12:(BB AA AA.length).length<=12:=(NJ hb0).1;have hok:Fy ((AA.getD c []).getD k zD)=true:=CV hb0 hc k hk;have qg:Hid (BL AA (AB AA) b c k=BL AA (BB AA AA.length) b c k):=AI (by rw[eB]);have S':=S;have hsn:=S.sn;have hfr:=S.fr;rw[eB] at hsn hfr;have hbase:=h.base;obtain⟨vW,vP,vL,vN,vX,vS,vF,vR⟩:=v;have W0:=h.work.rd;obtain⟨aW,cW,eW,hW⟩:=id W0;simp only at eW;subst eW;rcases hW with h0|⟨bw,ow,rfl,hbw,hcw⟩
 . exfalso;rw[h0] at hc;simp at hc
 obtain⟨vd,d1,r1⟩:=hcw c hc;obtain⟨ad,cd,rfl,r1⟩:=r1;rcases r1 with h0|⟨bd,od,rfl,hbd,hcd⟩
 . exfalso;rw[h0] at hk;simp at hk
 obtain⟨q0,q1,q2,q3⟩:=hcd k hk;have HD:Hid (Aj AA c k=(AA.getD c []).getD k zD):=AI rfl;obtain⟨ds,hds⟩:∃ds,ds=AA.getD c []:=⟨_,rfl⟩;rw[<-hds] at d1 HD hk q0 q1 q2 q3 hok;clear hds;generalize ds.getD k zD=y at q0 q1 q2 q3 HD hok;obtain⟨y0,y1,y2,y3⟩:=y;simp only at q0 q1 q2 q3;have c0:w.cell? ⟨D,0,none⟩=some (.slice (some ⟨bw,ow,none⟩) AA.length cW):=h.cells.1;have i1:(0:Int)<=(c:Int):=KAK _;have i2:(c:Int)<(AA.length:Int):=by omega
 have i3:(0:Int)<=(k:Int):=KAK _;have i4:(k:Int)<(ds.length:Int):=by omega
 clear hcw hcd;go_enter Tryz.func97,Tryz.ntmps97
 go_upto_region 1 with fail
 obtain⟨wD,vG⟩:∃W:World,W=w.alloc (.cells #[.int .i64 y0,.int .i64 y1,.int .i64 y2,.int .i64 y3] 82):=⟨_,rfl⟩;have kD:AC w wD:=by rw[vG];exact (AC.refl w).alloc _
 have lD:w.heap.size<wD.heap.size:=by rw[vG,AD];omega
 have BX:Hid (∀W:World,AC wD W->W.cell? ⟨w.heap.size,0,none⟩=some (.int .i64 y0)/\W.cell? ⟨w.heap.size,1,none⟩=some (.int .i64 y1)/\W.cell? ⟨w.heap.size,2,none⟩=some (.int .i64 y2)/\W.cell? ⟨w.heap.size,3,none⟩=some (.int .i64 y3)):=AI (by
  rw[vG]
  exact fun W k=>⟨AO k 0,AO k 1,AO k 2,AO k 3⟩)
 rw[<-vG];clear vG;have NB:¬Bo D ⟨.slice (some ⟨bw,ow,none⟩) AA.length cW,vP,vL,vN,vX,vS,vF,vR⟩ nv rv w.heap.size:=fun hB=>by have:=(h.blk _ hB).2.1;omega
 have H1:=h.keep kD;have W1:=W0.keep kD;have c1:=(kD.cell (b:=D) (o:=0) hbase.2).trans c0;have T1:=(Ai.refl w (Bo D ⟨.slice (some ⟨bw,ow,none⟩) AA.length cW,vP,vL,vN,vX,vS,vF,vR⟩ nv rv)).keep kD;clear c0 d1 q0 q1 q2 q3 h W0;go_wp2_with fail
 refine (EN _ _ _ W1 u1 u2).mono ?_;rintro e w1 ⟨v1,rfl,a1,k1⟩;have re:=a1.rd;generalize BB AA AA.length=es at *;clear a1 c1 W1;go_wp2_with fail
 refine (Qr _ _ _ c k re h12).mono ?_;rintro e w2 ⟨rfl,k2⟩;have K2:=k1.trans k2;have H2:=H1.keep K2;have T2:=T1.keep K2;replace re:=re.keep k2;obtain⟨g0,g1,g2,g3⟩:=BX.out _ K2;have l2:w.heap.size<w2.heap.size:=KAC lD K2.size;have hbD:=H2.base;have hkind:y0=1\/y0=2\/y0=3\/y0=4:=by simp only[Fy,Ec,KAN] at hok;omega
 have hpl:0<=y1/\y1<=2:=by simp only[Fy,Ec,KAN] at hok;omega
 have hgr:0<=y3:=by simp only[Fy,Ec,KAN] at hok;omega
 obtain⟨p,rfl⟩:=KAn hpl.1;have hp3:p<3:=by omega
 have sG:Hid (∀y:Dd,Aj AA c k=y->BL AA es b c k=if y.1=1 then Fz (AW Af es) b (LR es c k) (C7 b c y.2.1.toNat).1 (C7 b c y.2.1.toNat).2
   else if y.1=3 then EJ (Fz (AW Af es) b (LR es c k) (b.AM.getD y.2.1.toNat 0) (b.AQ.getD y.2.1.toNat 0)) y.2.1.toNat y.2.2.1 (LR es c k+1)
   else if y.1=2/\0<y.2.2.2 then EJ b y.2.1.toNat y.2.2.1 (LR es c k)
   else if y.1=2 then { b with AJ:=b.AJ.set c (b.AJ.getD c []++[(y.2.1,y.2.2.1,LR es c k)]) }
   else b):=AI (fun y hy=>by subst hy;rfl)
 have Yo:=AI (sG.out _ HD.out);simp only[KAV] at Yo;have evr:-1<=LR es c k/\LR es c k<=12:=o9 es c k h12;generalize LR es c k=EV at *;clear sG HD k1 k2 K2 H1 T1 BX hok;rcases hkind with rfl|rfl|rfl|rfl
 ·
  have HM:Hid (BL AA es b c k=Fz (AW Af es) b EV (C7 b c p).1 (C7 b c p).2):=AI (by rw[Yo.out,KAP rfl]);have CR:=Ng w2.drew _ AA b c p H2.drew.rd (by rw[S.AJ];exact hc) (by rw[S.AM];exact hp3) (by rw[S.AQ];exact hp3) (by have:=S.nl c;omega);obtain⟨e0,e1,e2,e3,e4,e5,e6,e7⟩:=H2.drew.cells;simp only at e0 e1 e2 e3 e4 e5 e6 e7;have zD:D<w2.drew.heap.size:=hbD.2;have zB:w.heap.size<w2.drew.heap.size:=l2;have g1':w2.drew.cell? ⟨w.heap.size,1,none⟩=some (.int .i64 (p:Int)):=g1;generalize C7 b c p=RG at CR HM;clear Yo;go_wp2
  go_region_held3 (fun w'=>w'.cell? ⟨D,0,none⟩=some (.slice (some ⟨bw,ow,none⟩) AA.length cW)/\w'.cell? ⟨D,1,none⟩=some vP/\w'.cell? ⟨D,2,none⟩=some vL/\w'.cell? ⟨D,3,none⟩=some vN/\w'.cell? ⟨D,4,none⟩=some vX/\w'.cell? ⟨D,5,none⟩=some vS/\w'.cell? ⟨D,6,none⟩=some vF/\w'.cell? ⟨D,7,none⟩=some vR/\w'.cell? ⟨w.heap.size,1,none⟩=some (.int .i64 (p:Int)))
   (first|go_keep|(go_split_ands;refine⟨?_,?_,?_,?_,?_,?_,?_,?_,?_⟩<;>(rw[kk.cell (by assumption)];assumption)))
   ((go_at_call 125;refine CR.mono ?_;rintro e wz ⟨rfl,kk⟩))
  all_goals
   have H3:=H2.drew.keep kk;have T3:=(T2.keep (AC.refl w2).drew).keep kk;have re3:=(re.keep (AC.refl w2).drew).keep kk;clear e0 e1 e2 e3 e4 e5 e6 e7 g0 g1 g2 g3 g1' CR;go_wp2_with fail
   refine (Nh _ m D _ nv rv bs N AA b _ es EV RG.1 RG.2 H3 re3 h12 hsn hfr).mono ?_;rintro e w4 ⟨rfl,H4,T4⟩;go_wp2;go_end0;exact⟨rfl,nv,rv,by rw[qg.out,HM.out];exact H4,T3.trans T4⟩
 ·
  by_cases hg:0<y3
  ·
   have HM:Hid (BL AA es b c k=EJ b p y2 EV):=AI (by rw[Yo.out,KAQ (by decide),KAQ (by decide),KAP ⟨rfl,hg⟩]);clear Yo;go_wp2_with fail
   refine (Hb _ m D _ nv rv bs N AA b p y2 EV H2 (by rw[S.AM];exact hp3) (by rw[S.AQ];exact hp3) (by rw[S.rws];exact hp3) (by have:=S.rl p;omega)).mono ?_;rintro e w4 ⟨rfl,rv',H4,T4⟩;go_wp2;go_end0;exact⟨rfl,nv,rv',by rw[qg.out,HM.out];exact H4,T2.trans T4⟩
  ·
   have HM:Hid (BL AA es b c k={ b with AJ:=b.AJ.set c (b.AJ.getD c []++[((p:Int),y2,EV)]) }):=AI (by rw[Yo.out,KAQ (by decide),KAQ (by decide),KAQ (fun h=>hg h.2),KAP rfl]);obtain⟨i0,hi,hz0,hz1,hz2⟩:=KA3 Tryz.mY;have hcn:c<b.AJ.length:=by rw[S.AJ];exact hc
   have hcv:c<nv.length:=by rw[H2.ln];exact hcn
   obtain⟨aN,Me,eN,hN⟩:=H2.drew.hN;rcases hN with h0|⟨gn,rfl,pu,dn⟩
   . exfalso;rw[h0] at hcn;simp at hcn
   simp only at eN;subst eN;have d3:=dn c hcn;have c3:w2.drew.cell? ⟨D,3,none⟩=some (.slice (some ⟨gn,0,none⟩) b.AJ.length Me):=H2.drew.cells.2.2.2.1;obtain⟨au,cu,hu⟩:=(H2.oN hcn).shape;have HU:=AI hu;rw[hu] at d3;have H3:=(H2.keep ((AC.refl w2).alloc (.cells #[.int .i64 (p:Int),.int .i64 y2,.int .i64 EV] 155))).drew;have T3:=T2.keep (((AC.refl w2).alloc (.cells #[.int .i64 (p:Int),.int .i64 y2,.int .i64 EV] 155)).drew);have o3:((w2.alloc (.cells #[.int .i64 (p:Int),.int .i64 y2,.int .i64 EV] 155)).drew).ownsRow m 155 3 (.slice au (b.AJ.getD c []).length cu) (b.AJ.getD c []).length ((b.AJ.getD c []).flatMap cN):=by rw[<-hu];exact H3.oN hcn
   have s3:m<=((w2.alloc (.cells #[.int .i64 (p:Int),.int .i64 y2,.int .i64 EV] 155)).drew).heap.size:=by have:=H3.base;omega
   have nl:=S.nl c;have g1':w2.drew.cell? ⟨w.heap.size,1,none⟩=some (.int .i64 (p:Int)):=g1;have g2':w2.drew.cell? ⟨w.heap.size,2,none⟩=some (.int .i64 y2):=g2;have zD:D<w2.drew.heap.size:=hbD.2;have zB:w.heap.size<w2.drew.heap.size:=l2;have zN:gn<w2.drew.heap.size:=pu;have zD2:D<w2.heap.size:=hbD.2;have zN2:gn<w2.heap.size:=pu;have j2:(c:Int)<(b.AJ.length:Int):=by omega
   have hg0:¬((0:Int)<y3):=hg;obtain⟨Z,hZ⟩:∃Z,Z=b.AJ.getD c []:=⟨_,rfl⟩;rw[<-hZ] at d3 o3 nl HM HU;clear hZ hu dn Yo;have c3w:w2.cell? ⟨D,3,none⟩=some (.slice (some ⟨gn,0,none⟩) b.AJ.length Me):=c3;have d3w:w2.cell? ⟨gn,c,none⟩=some (.slice au Z.length cu):=d3;have m1:Z.length+1<=maxLen:=by unfold maxLen;omega
   have m2:(Z.length+1)*24<=140737488355328:=by omega
   have d3a:(w2.alloc (.cells #[.int .i64 (p:Int),.int .i64 y2,.int .i64 EV] 155)).drew.cell? ⟨gn,c,none⟩=some (.slice au Z.length cu):=((((AC.refl w2).alloc _).drew).cell zN2).trans d3;have d3b:(w2.alloc (.cells #[.int .i64 (p:Int),.int .i64 y2,.int .i64 EV] 155)).cell? ⟨gn,c,none⟩=some (.slice au Z.length cu):=d3a;have vY:gn≠w.heap.size:=fun e=>NB ⟨.AJ,trivial,by show some gn=_;rw[e]⟩
   have xU:∀(W:World),World.grownBy ((w2.alloc (.cells #[.int .i64 (p:Int),.int .i64 y2,.int .i64 EV] 155)).drew) W (Value.slice au Z.length cu).ownBlock->W.cell? ⟨D,3,none⟩=some (.slice (some ⟨gn,0,none⟩) b.AJ.length Me)/\W.cell? ⟨w.heap.size,1,none⟩=some (.int .i64 (p:Int))/\W.cell? ⟨w.heap.size,2,none⟩=some (.int .i64 y2):=fun W hgrow=>by
    have ne:some w.heap.size≠(Value.slice au Z.length cu).ownBlock:=fun e=>NB ⟨.nt c,hcv,by show (nv.getD c AF).ownBlock=_;rw[HU.out,<-e]⟩
    have bk:=hgrow.block w.heap.size (KAC l2 (by simp)) ne;have kA:=((AC.refl w2).alloc (.cells #[.int .i64 (p:Int),.int .i64 y2,.int .i64 EV] 155)).drew;exact⟨(H3.stay (.nt c) hcv (by simp) (by show World.grownBy _ _ (nv.getD c AF).ownBlock;rw[HU.out];exact hgrow) 3).trans ((kA.cell hbD.2).trans c3),(KAw bk).trans ((kA.cell l2).trans g1),(KAw bk).trans ((kA.cell l2).trans g2)⟩
   have zDa:D<((w2.alloc (.cells #[.int .i64 (p:Int),.int .i64 y2,.int .i64 EV] 155)).drew).heap.size:=KAC zD2 (by simp);have c3a:(w2.alloc (.cells #[.int .i64 (p:Int),.int .i64 y2,.int .i64 EV] 155)).cell? ⟨D,3,none⟩=some (.slice (some ⟨gn,0,none⟩) b.AJ.length Me):=(((AC.refl w2).alloc _).cell zD2).trans c3
   have nM:Hid (∀(gg cap5:Nat) (w5:World),w5.ownsRow m 155 3 (.slice (some ⟨gg,0,none⟩) (Z.length+1) cap5) (Z.length+1) (Z.flatMap cN++[.int .i64 (p:Int),.int .i64 y2,.int .i64 EV])->World.grownBy ((w2.alloc (.cells #[.int .i64 (p:Int),.int .i64 y2,.int .i64 EV] 155)).drew) w5 (Value.slice au Z.length cu).ownBlock->((Value.slice au Z.length cu).ownBlock=some gg\/gg=w2.heap.size+1) ->
     (w5.cell? ⟨D,3,none⟩=some (.slice (some ⟨gn,0,none⟩) b.AJ.length Me)/\w5.cell? ⟨w.heap.size,1,none⟩=some (.int .i64 (p:Int))/\w5.cell? ⟨w.heap.size,2,none⟩=some (.int .i64 y2)) /\
     ((w5.setCell ⟨gn,c,none⟩ (.slice (some ⟨gg,0,none⟩) (Z.length+1) cap5)).cell? ⟨D,3,none⟩=some (.slice (some ⟨gn,0,none⟩) b.AJ.length Me)/\(w5.setCell ⟨gn,c,none⟩ (.slice (some ⟨gg,0,none⟩) (Z.length+1) cap5)).cell? ⟨w.heap.size,1,none⟩=some (.int .i64 (p:Int))/\(w5.setCell ⟨gn,c,none⟩ (.slice (some ⟨gg,0,none⟩) (Z.length+1) cap5)).cell? ⟨w.heap.size,2,none⟩=some (.int .i64 y2)) /\
     w5.cell? ⟨gn,c,none⟩=some (.slice au Z.length cu)/\w5.frozen? ⟨gn,c,none⟩=false /\
     ∃nv' rv',AU (w5.setCell ⟨gn,c,none⟩ (.slice (some ⟨gg,0,none⟩) (Z.length+1) cap5)) m D ⟨.slice (some ⟨bw,ow,none⟩) AA.length cW,vP,vL,.slice (some ⟨gn,0,none⟩) b.AJ.length Me,vX,vS,vF,vR⟩ nv' rv' bs N AA (BL AA (AB AA) b c k)/\Ai w (w5.setCell ⟨gn,c,none⟩ (.slice (some ⟨gg,0,none⟩) (Z.length+1) cap5)) (Bo D ⟨.slice (some ⟨bw,ow,none⟩) AA.length cW,vP,vL,.slice (some ⟨gn,0,none⟩) b.AJ.length Me,vX,vS,vF,vR⟩ nv rv) (Bo D ⟨.slice (some ⟨bw,ow,none⟩) AA.length cW,vP,vL,.slice (some ⟨gn,0,none⟩) b.AJ.length Me,vX,vS,vF,vR⟩ nv' rv')):=AI (fun gg cap5 w5 hown5 hgrow hat=>by
    have HH:=H3.mM hcn (u:=(.slice (some ⟨gg,0,none⟩) (Z.length+1) cap5)) (ns:=Z++[((p:Int),y2,EV)]) (by rw[HU.out];exact hgrow) (by rw[HU.out];rcases hat with h|h;exact .inl h.symm;exact .inr (.inl (by rw[h];simp[Value.ownBlock]))) (KN hown5) rfl;obtain⟨HO,hcell,hfr⟩:=HH;rw[HU.out] at hcell;refine⟨xU w5 hgrow,⟨HO.cells.2.2.2.1,(KAw (KBM w5 ⟨gn,c,none⟩ w.heap.size _ (fun e=>vY e.symm))).trans (xU w5 hgrow).2.1,(KAw (KBM w5 ⟨gn,c,none⟩ w.heap.size _ (fun e=>vY e.symm))).trans (xU w5 hgrow).2.2⟩,hcell,hfr,nv.set c (.slice (some ⟨gg,0,none⟩) (Z.length+1) cap5),rv,by rw[qg.out,HM.out];exact HO,?_⟩;refine ((T3.grown hgrow (fun g hg=>⟨.nt c,hcv,by show (nv.getD c AF).ownBlock=_;rw[HU.out];exact hg⟩)).grown (Ad _ gn c _) (fun g hg=>⟨.AJ,trivial,hg⟩)).more (fun g hg=>?_);rcases Mz hcv hg with h1|h1
    . exact .inl h1
    ·
     rcases hat with h2|h2
     . exact .inl ⟨.nt c,hcv,by show (nv.getD c AF).ownBlock=_;rw[HU.out,h2];exact h1⟩
     ·
      have e2:gg=g:=KAI h1;have:=T2.size
      right;omega)
   have g1a:(w2.alloc (.cells #[.int .i64 (p:Int),.int .i64 y2,.int .i64 EV] 155)).cell? ⟨w.heap.size,1,none⟩=some (.int .i64 (p:Int)):=(((AC.refl w2).alloc _).cell l2).trans g1;have HC0:w2.drew.cell? ⟨D,3,none⟩=some (.slice (some ⟨gn,0,none⟩) b.AJ.length Me)/\w2.drew.cell? ⟨w.heap.size,1,none⟩=some (.int .i64 (p:Int))/\w2.drew.cell? ⟨w.heap.size,2,none⟩=some (.int .i64 y2):=⟨c3,g1',g2'⟩;have HC1:(w2.alloc (.cells #[.int .i64 (p:Int),.int .i64 y2,.int .i64 EV] 155)).drew.cell? ⟨D,3,none⟩=some (.slice (some ⟨gn,0,none⟩) b.AJ.length Me)/\(w2.alloc (.cells #[.int .i64 (p:Int),.int .i64 y2,.int .i64 EV] 155)).drew.cell? ⟨w.heap.size,1,none⟩=some (.int .i64 (p:Int))/\(w2.alloc (.cells #[.int .i64 (p:Int),.int .i64 y2,.int .i64 EV] 155)).drew.cell? ⟨w.heap.size,2,none⟩=some (.int .i64 y2):=⟨((((AC.refl w2).alloc _).drew).cell zD2).trans c3,((((AC.refl w2).alloc _).drew).cell l2).trans g1',((((AC.refl w2).alloc _).drew).cell l2).trans g2'⟩;clear xU HM HU T3 H3 S S' hn hc hb0 u1 u2 eB h12 qg hsn hfr hbase hbw hbd hk H2 T2 re hbD evr hgr hpl hp3 hg NB kD lD vY hcn hcv nl pu zD zB zN i1 i2 i3 i4;have j0:(0:Int)<=(c:Int):=KAK _;go_wp2_with fail
   clear g0 g3 hg0;refine KCd (S:=(fun w'=>w'.cell? ⟨D,3,none⟩=some (.slice (some ⟨gn,0,none⟩) b.AJ.length Me)/\w'.cell? ⟨w.heap.size,1,none⟩=some (.int .i64 (p:Int))/\w'.cell? ⟨w.heap.size,2,none⟩=some (.int .i64 y2))) (by kernel_rfl) ?_ (fun hHeld=>?_)
   . exact HC0
   refine Ax 0 102 (v:=?_) ?_ ?_;rotate_left
   ·
    intro wx hSw;go_simp;with_reducible rfl
   refine Ax 1 103 (v:=?_) ?_ ?_;rotate_left
   ·
    intro wx hSw;go_simp;with_reducible rfl
   refine Ax 2 104 (v:=?_) ?_ ?_;rotate_left
   ·
    intro wx hSw;go_simp;with_reducible rfl
   refine Ax 3 105 (v:=?_) ?_ ?_;rotate_left
   ·
    intro wx hSw;go_simp;with_reducible rfl
   refine Ax 4 106 (v:=?_) ?_ ?_;rotate_left
   ·
    intro wx hSw;go_simp;with_reducible rfl
   refine Ax 5 107 (v:=?_) ?_ ?_;rotate_left
   ·
    intro wx hSw;go_simp;with_reducible rfl
   refine Ax 6 108 (v:=?_) ?_ ?_;rotate_left
   ·
    intro wx hSw;go_simp;with_reducible rfl
   refine Ax 7 109 (v:=?_) ?_ ?_;rotate_left
   ·
    intro wx hSw;go_simp;with_reducible rfl
   refine Ax 8 110 (v:=?_) ?_ ?_;rotate_left
   ·
    intro wx hSw;go_simp;with_reducible rfl
   refine Ax 9 111 (v:=?_) ?_ ?_;rotate_left
   ·
    intro wx hSw;go_simp;with_reducible rfl
   refine Ax 10 112 (v:=?_) ?_ ?_;rotate_left
   ·
    intro wx hSw;go_simp;with_reducible rfl
   refine Ax 12 114 (v:=?_) ?_ ?_;rotate_left
   ·
    intro wx hSw;go_simp;with_reducible rfl
   refine Ax 13 115 (v:=?_) ?_ ?_;rotate_left
   ·
    intro wx hSw;go_simp;with_reducible rfl
   refine Ax 14 116 (v:=?_) ?_ ?_;rotate_left
   ·
    intro wx hSw;go_simp;with_reducible rfl
   refine Ax 15 117 (v:=?_) ?_ ?_;rotate_left
   ·
    intro wx hSw;go_simp;with_reducible rfl
   refine Ax 16 118 (v:=?_) ?_ ?_;rotate_left
   ·
    intro wx hSw;go_simp;with_reducible rfl
   refine Ax 17 119 (v:=?_) ?_ ?_;rotate_left
   ·
    intro wx hSw;go_simp;with_reducible rfl
   simp only[Act.put,KAS,KAa,KAc];refine KBm (rs:=[11,18]) (by kernel_rfl) (by simp) ?_;refine KBV rfl (fun K hK=>?_) (KBV rfl (fun K hK=>?_) KBc)
   ·
    go_simp;refine hK.out _ _ ?_ (fun hHeld=>?_)
    . exact HC0
    clear hK K;refine KBm (rs:=[18]) (by kernel_rfl) (by simp) ?_;refine KBV rfl (fun K hK=>?_) KBc;go_simp;refine hK.out _ _ ?_ (fun hHeld=>?_)
    . exact HC1
    clear hK K;refine KBm (rs:=[19]) (by kernel_rfl) (by simp) ?_;refine KBV rfl (fun K hK=>?_) KBc;refine step_append_lies _ (by rfl) _ _ _ (by rfl) m 155 i0 _ 3 24 Tryz.underlying151 hi hz0 hz1 hz2 rfl (by omega) (.slice au Z.length cu) Z.length (Z.flatMap cN) (by rfl) o3 ⟨w2.heap.size,0,none⟩ 1 1 [.int .i64 (p:Int),.int .i64 y2,.int .i64 EV] (by rfl) (by rfl) (KBd (cs:=#[.int .i64 (p:Int),.int .i64 y2,.int .i64 EV]) (t:=155) (fr:=(0,0)) (KAX w2 _)) (by simp[Value.oneCell']) (by omega) m1 m2 s3 (w2.heap.size+1) (by simp) ?_;intro gg cap5 w5 hown5 hgrow hat hlt5;obtain⟨HC,HC2,hcell,hfr,HO⟩:=nM.out gg cap5 w5 hown5 hgrow hat;have HO:=AI HO;clear hown5 hgrow hat hlt5;refine hK.out _ _ ?_ (fun hHeld=>?_)
    . exact HC
    clear hK K;simp only[Act.put,KAS];refine Ax 20 122 (v:=?_) ?_ ?_;rotate_left
    ·
     intro wx hSw;go_simp;with_reducible rfl
    simp only[Act.put];refine KBm (rs:=[21]) (by kernel_rfl) (by simp) ?_;refine KBV rfl (fun K hK=>?_) KBc;go_simp;refine hK.out _ _ ?_ (fun hHeld=>?_)
    . exact HC2
    clear hK K;refine wpAnyH_done (by kernel_rfl) ?_ _;clear HC HC2 hcell hfr hHeld;go_wp2;go_end0;exact⟨rfl,HO.out⟩
   ·
    go_simp;refine hK.out _ _ ?_ (fun hHeld=>?_)
    . exact HC1
    clear hK K;refine KBm (rs:=[11]) (by kernel_rfl) (by simp) ?_;refine KBV rfl (fun K hK=>?_) KBc;go_simp;refine hK.out _ _ ?_ (fun hHeld=>?_)
    . exact HC1
    clear hK K;refine KBm (rs:=[19]) (by kernel_rfl) (by simp) ?_;refine KBV rfl (fun K hK=>?_) KBc;refine step_append_lies _ (by rfl) _ _ _ (by rfl) m 155 i0 _ 3 24 Tryz.underlying151 hi hz0 hz1 hz2 rfl (by omega) (.slice au Z.length cu) Z.length (Z.flatMap cN) (by rfl) o3 ⟨w2.heap.size,0,none⟩ 1 1 [.int .i64 (p:Int),.int .i64 y2,.int .i64 EV] (by rfl) (by rfl) (KBd (cs:=#[.int .i64 (p:Int),.int .i64 y2,.int .i64 EV]) (t:=155) (fr:=(0,0)) (KAX w2 _)) (by simp[Value.oneCell']) (by omega) m1 m2 s3 (w2.heap.size+1) (by simp) ?_;intro gg cap5 w5 hown5 hgrow hat hlt5;obtain⟨HC,HC2,hcell,hfr,HO⟩:=nM.out gg cap5 w5 hown5 hgrow hat;have HO:=AI HO;clear hown5 hgrow hat hlt5;refine hK.out _ _ ?_ (fun hHeld=>?_)
    . exact HC
    clear hK K;simp only[Act.put,KAS];refine Ax 20 122 (v:=?_) ?_ ?_;rotate_left
    ·
     intro wx hSw;go_simp;with_reducible rfl
    simp only[Act.put];refine KBm (rs:=[21]) (by kernel_rfl) (by simp) ?_;refine KBV rfl (fun K hK=>?_) KBc;go_simp;refine hK.out _ _ ?_ (fun hHeld=>?_)
    . exact HC2
    clear hK K;refine wpAnyH_done (by kernel_rfl) ?_ _;clear HC HC2 hcell hfr hHeld;go_wp2;go_end0;exact⟨rfl,HO.out⟩
 ·
  have HM:Hid (BL AA es b c k=EJ (Fz (AW Af es) b EV (b.AM.getD p 0) (b.AQ.getD p 0)) p y2 (EV+1)):=AI (by rw[Yo.out,KAQ (by decide),KAP rfl]);have hpp:p<b.AM.length:=by rw[S.AM];exact hp3
  have hpl':p<b.AQ.length:=by rw[S.AQ];exact hp3
  obtain⟨gp,cp,eP,lp,dp,-⟩:=H2.drew.oP.lit hpp;obtain⟨gl,cl,eL,ll,dl,-⟩:=H2.drew.oL.lit hpl';simp only at eP eL;subst eP eL;have e1:w2.drew.cell? ⟨D,1,none⟩=some (.slice (some ⟨gp,0,none⟩) b.AM.length cp):=H2.drew.cells.2.1;have e2:w2.drew.cell? ⟨D,2,none⟩=some (.slice (some ⟨gl,0,none⟩) b.AQ.length cl):=H2.drew.cells.2.2.1;have f1:=dp p hpp;have f2:=dl p hpl';have g1':w2.drew.cell? ⟨w.heap.size,1,none⟩=some (.int .i64 (p:Int)):=g1;have j1:(0:Int)<=(p:Int):=KAK _;have j2:(p:Int)<(b.AM.length:Int):=by omega
  have j3:(p:Int)<(b.AQ.length:Int):=by omega
  have SE:=S.see EV (b.AM.getD p 0) (b.AQ.getD p 0);rw[eB] at SE;obtain⟨xp,hxp⟩:∃x,x=b.AM.getD p 0:=⟨_,rfl⟩;obtain⟨xl,hxl⟩:∃x,x=b.AQ.getD p 0:=⟨_,rfl⟩;rw[<-hxp] at f1 SE HM;rw[<-hxl] at f2 SE HM;have HXP:Hid (b.AM.getD p 0=xp):=AI hxp.symm;have HXL:Hid (b.AQ.getD p 0=xl):=AI hxl.symm;clear hxp hxl;have CS:=fun (W:World) (hw:W=w2.drew)=>Nh W m D _ nv rv bs N AA b _ es EV xp xl (hw ▸ H2.drew) (hw ▸ re.keep (AC.refl w2).drew) h12 hsn hfr
  have CSE:∀(W:World),AU W m D ⟨.slice (some ⟨bw,ow,none⟩) AA.length cW,.slice (some ⟨gp,0,none⟩) b.AM.length cp,.slice (some ⟨gl,0,none⟩) b.AQ.length cl,vN,vX,vS,vF,vR⟩ nv rv bs N AA (Fz (AW Af es) b EV xp xl)->Ai w2.drew W (Bo D ⟨.slice (some ⟨bw,ow,none⟩) AA.length cW,.slice (some ⟨gp,0,none⟩) b.AM.length cp,.slice (some ⟨gl,0,none⟩) b.AQ.length cl,vN,vX,vS,vF,vR⟩ nv rv) (Bo D ⟨.slice (some ⟨bw,ow,none⟩) AA.length cW,.slice (some ⟨gp,0,none⟩) b.AM.length cp,.slice (some ⟨gl,0,none⟩) b.AQ.length cl,vN,vX,vS,vF,vR⟩ nv rv)->W.cell? ⟨D,1,none⟩=some (.slice (some ⟨gp,0,none⟩) b.AM.length cp)/\W.cell? ⟨D,2,none⟩=some (.slice (some ⟨gl,0,none⟩) b.AQ.length cl)/\W.cell? ⟨gp,p,none⟩=some (.int .i64 xp)/\W.cell? ⟨gl,p,none⟩=some (.int .i64 xl)/\W.cell? ⟨w.heap.size,1,none⟩=some (.int .i64 (p:Int)):=fun W h1 t1=>by
   obtain⟨gp',cp',eP',-,dp',-⟩:=h1.oP.lit hpp;obtain⟨gl',cl',eL',-,dl',-⟩:=h1.oL.lit hpl';simp only[KAT,KAg,KA6,KBX] at eP' eL';obtain⟨rfl,-,rfl⟩:=eP';obtain⟨rfl,-,rfl⟩:=eL';exact⟨h1.cells.2.1,h1.cells.2.2.1,by rw[<-HXP.out];exact dp' p hpp,by rw[<-HXL.out];exact dl' p hpl',(t1.cell l2 NB).trans g1'⟩
  have jw:IntKind.i64.wrap (EV+1)=EV+1:=by rw[KAk];omega
  clear Yo dp dl;go_wp2;have zD:D<w2.drew.heap.size:=hbD.2;have zB:w.heap.size<w2.drew.heap.size:=l2
  go_region_held3 (fun w'=>w'.cell? ⟨D,1,none⟩=some (.slice (some ⟨gp,0,none⟩) b.AM.length cp)/\w'.cell? ⟨D,2,none⟩=some (.slice (some ⟨gl,0,none⟩) b.AQ.length cl)/\w'.cell? ⟨gp,p,none⟩=some (.int .i64 xp)/\w'.cell? ⟨gl,p,none⟩=some (.int .i64 xl)/\w'.cell? ⟨w.heap.size,1,none⟩=some (.int .i64 (p:Int)))
   (first|go_keep|exact HC)
   ((go_at_call 126;refine (CS _ rfl).mono ?_;rintro e w3 ⟨rfl,H3,T3⟩;have HC:=CSE w3 H3 T3))
  all_goals
   have T3':=(T2.keep (AC.refl w2).drew).trans T3;have b1:w3.cell? ⟨w.heap.size,1,none⟩=some (.int .i64 (p:Int)):=(T3.cell l2 NB).trans g1';have b2:w3.cell? ⟨w.heap.size,2,none⟩=some (.int .i64 y2):=(T3.cell l2 NB).trans g2;clear e1 e2 f1 f2 g0 g1 g2 g3 g1';go_wp2_with fail
   refine (Hb _ m D _ nv rv bs N AA _ p y2 (EV+1) H3 (by rw[SE.AM];exact hp3) (by rw[SE.AQ];exact hp3) (by rw[SE.rws];exact hp3) (by have:=SE.rl p;omega)).mono ?_;rintro e w4 ⟨rfl,rv',H4,T4⟩;go_wp2;go_end0;exact⟨rfl,nv,rv',by rw[qg.out,HM.out];exact H4,T3'.trans T4⟩
 ·
  have HM:Hid (BL AA es b c k=b):=AI (by rw[Yo.out,KAQ (by decide),KAQ (by decide),KAQ (fun h=>absurd h.1 (by decide)),KAQ (by decide)]);clear Yo;go_wp2;go_end0;exact⟨rfl,nv,rv,by rw[qg.out,HM.out];exact H2,T2⟩
theorem bH {w:World}{m gq cap:Nat}{Z:List Nt}(o:B5 cN 155 3 w m (.slice (some ⟨gq,0,none⟩) Z.length cap) Z){x:Nt}{r:List Nt}(hz:Z=x::r):∀j u,(r.flatMap cN)[j]? = some u->w.cell? ((⟨gq,3,none⟩:Addr).add j)=some u:=by
 subst hz;intro j u hj
 have hl:(r.flatMap cN).length=r.length*3:=by
  clear hj o
  induction r with
  |nil=>rfl
  |cons y t ih=>rw[KBH,KAJ,ih,Eg,KBJ];omega
 have hjl:j<r.length*3:=by rw[<-hl];exact (KBE.1 hj).1
 have h1:=KAp o (3+j) (by rw[KBJ];omega);have e:(⟨gq,3,none⟩:Addr).add j=⟨gq,3+j,none⟩:=by simp[Addr.add]
 rw[e,h1,KBH,KAy (by rw[Eg];omega),Eg];rw[show 3+j-3=j by omega];exact hj
theorem jg (r:List Nt):∀u∈r.flatMap cN,u.oneCell'=true:=fun u hu=>by
 obtain⟨x,_,hx⟩:=KDF.1 hu;simp only[cN,KBL,KBo,KCl] at hx;rcases hx with rfl|rfl|rfl<;>rfl
theorem jf (r:List Nt):(r.flatMap cN).length=r.length*3:=by
 induction r with
 |nil=>rfl
 |cons y t ih=>rw[KBH,KAJ,ih,Eg,KBJ];omega
theorem Jb (w:World)(m D:Nat)(v:BV)(nv rv:List Value)(bs N:Nat)(AA:List (List Dd))(b:Bd)(n c:Nat)(x:Nt)(r:List Nt)(h:AU w m D v nv rv bs N AA b)(S:Ee AA b n)(hn:n<=1000)(hc:c<AA.length)(hz:b.AJ.getD c []=x::r)(hx:0<=x.1/\x.1<=2):
  Calls Tryz.prog 64 #[.pointer (some ⟨D,0,none⟩),.int .i64 (10+(c:Int))] w fun e w'=>e = .returned (.tuple #[])/\∃nv' rv',AU w' m D v nv' rv' bs N AA (BS b c)/\Ai w w' (Bo D v nv rv) (Bo D v nv' rv'):=by
 obtain⟨i0,hi,hz0,hz1,hz2⟩:=KA3 Tryz.mY;have hd3:AA.length<=3:=(BM S.work).1;have hcn:c<b.AJ.length:=by rw[S.AJ];exact hc
 have hcv:c<nv.length:=by rw[h.ln];exact hcn
 have HM:Hid (BS b c=EJ { b with AJ:=b.AJ.set c r } x.1.toNat x.2.1 x.2.2):=AI (by unfold BS;rw[hz]);have hlr:r.length<=n:=by have:=S.nl c;rw[hz] at this;simp at this;omega
 have SL:=S.less c r hlr;obtain⟨vW,vP,vL,vN,vX,vS,vF,vR⟩:=v;obtain⟨aN,Me,eN,hN⟩:=h.hN;rcases hN with h0|⟨gn,rfl,pu,dn⟩
 . exfalso;rw[h0] at hcn;simp at hcn
 simp only at eN;subst eN;have oq:=h.oN hcn;rw[hz] at oq
 obtain⟨gq,cq,hq,lgq⟩:∃gq cq,nv.getD c AF = .slice (some ⟨gq,0,none⟩) (x::r).length cq/\gq<w.heap.size:=by
  have hlt:=KAY oq;rcases oq.2 with ⟨_,hz'⟩|⟨g,cap,cur,e,_⟩
  . simp at hz'
  . exact⟨g,cap,e,(hlt g (by rw[e];rfl)).2⟩
 have uH:(x::r).length<=cq:=by
  rcases oq.2 with ⟨_,hz'⟩|⟨g,cap,cur,e,_,_,hcap,_⟩
  . simp at hz'
  ·
   rw[hq] at e;simp only[KAT,KA8] at e;rw[e.2];exact hcap
 rw[hq] at oq;have HQ:=AI hq;have d3:=dn c hcn;rw[hq] at d3;have c3:w.cell? ⟨D,3,none⟩=some (.slice (some ⟨gn,0,none⟩) b.AJ.length Me):=h.cells.2.2.2.1;obtain⟨x0,x1,x2⟩:=x;have q0:w.cell? ⟨gq,0,none⟩=some (.int .i64 x0):=KAp oq 0 (by simp);have q1:w.cell? ⟨gq,1,none⟩=some (.int .i64 x1):=KAp oq 1 (by simp;omega);have q2:w.cell? ⟨gq,2,none⟩=some (.int .i64 x2):=KAp oq 2 (by simp;omega);simp only at hx;obtain⟨p,rfl⟩:=KAn hx.1;have hp3:p<3:=by omega
 have hbase:=h.base;have i1:IntKind.i64.wrap (10+(c:Int)-10)=(c:Int):=by rw[KAk];omega
 have i2:(0:Int)<=(c:Int):=KAK _;have i3:(c:Int)<(b.AJ.length:Int):=by omega
 have i4:(10:Int)<=10+(c:Int):=by omega
 have i5:((r.length+1:Nat):Int)=(r.length:Int)+1:=by omega
 have RC:=AI (bH oq rfl);clear dn hq hz;go_enter Tryz.func64,Tryz.ntmps64
 go_upto_region 3 with fail
 obtain⟨wN,vH⟩:∃W:World,W=w.alloc (.cells #[.int .i64 (p:Int),.int .i64 x1,.int .i64 x2] 155):=⟨_,rfl⟩;have kN:AC w wN:=by rw[vH];exact (AC.refl w).alloc _
 have lN:w.heap.size<wN.heap.size:=by rw[vH,AD];omega
 have BX:Hid (∀W:World,AC wN W->W.cell? ⟨w.heap.size,0,none⟩=some (.int .i64 (p:Int))/\W.cell? ⟨w.heap.size,1,none⟩=some (.int .i64 x1)/\W.cell? ⟨w.heap.size,2,none⟩=some (.int .i64 x2)):=AI (by
  rw[vH]
  exact fun W k=>⟨AO k 0,AO k 1,AO k 2⟩)
 rw[<-vH];clear vH;have NB:¬Bo D ⟨vW,vP,vL,.slice (some ⟨gn,0,none⟩) b.AJ.length Me,vX,vS,vF,vR⟩ nv rv w.heap.size:=fun hB=>by have:=(h.blk _ hB).2.1;omega
 have H1:=(h.keep kN).drew;have T1:=((Ai.refl w (Bo D ⟨vW,vP,vL,.slice (some ⟨gn,0,none⟩) b.AJ.length Me,vX,vS,vF,vR⟩ nv rv)).keep kN).keep (AC.refl wN).drew;have kA:AC w (wN.drew.alloc (.cells #[] 155)):=((kN.drew).alloc _);have OE:(wN.drew.alloc (.cells #[] 155)).ownsRow m 155 3 (.slice (some ⟨wN.heap.size,0,none⟩) 0 0) 0 []:=KAo wN.drew #[] 0 (by have:=H1.base;omega) (by decide) (by simp);have s3:m<=(wN.drew.alloc (.cells #[] 155)).heap.size:=by have:=(H1.keep ((AC.refl _).alloc (.cells #[] 155))).base;omega
 have NW:∀j u,(r.flatMap cN)[j]? = some u->(wN.drew.alloc (.cells #[] 155)).cell? ((⟨gq,3,none⟩:Addr).add j)=some u:=fun j u hj=>by
  have:=RC.out j u hj;have e:(⟨gq,3,none⟩:Addr).add j=⟨gq,3+j,none⟩:=by simp[Addr.add]
  rw[e] at this ⊢;exact (kA.cell lgq).trans this
 have c4:wN.drew.cell? ⟨D,3,none⟩=some (.slice (some ⟨gn,0,none⟩) b.AJ.length Me):=(kN.cell hbase.2).trans c3;have c5:(wN.drew.alloc (.cells #[] 155)).cell? ⟨D,3,none⟩=some (.slice (some ⟨gn,0,none⟩) b.AJ.length Me):=(kA.cell hbase.2).trans c3;have c4w:wN.cell? ⟨D,3,none⟩=some (.slice (some ⟨gn,0,none⟩) b.AJ.length Me):=c4;have c5w:(wN.alloc (.cells #[] 155)).cell? ⟨D,3,none⟩=some (.slice (some ⟨gn,0,none⟩) b.AJ.length Me):=c5;have zD:D<wN.heap.size:=KAC hbase.2 kN.size
 have nM:Hid (∀(u:Value) (w5:World),w5.ownsRow m 155 3 u (0+r.length) ([]++r.flatMap cN)->World.grownBy (wN.drew.alloc (.cells #[] 155)) w5 (some wN.heap.size)->(u.ownBlock=some wN.heap.size\/u.ownBlock=some (wN.drew.alloc (.cells #[] 155)).heap.size) ->
   (∃a' c',u = .slice a' r.length c')/\w5.cell? ⟨D,3,none⟩=some (.slice (some ⟨gn,0,none⟩) b.AJ.length Me)/\w5.cell? ⟨gn,c,none⟩=some (.slice (some ⟨gq,0,none⟩) (r.length+1) cq)/\w5.frozen? ⟨gn,c,none⟩=false /\
   ∃nv',AU (w5.setCell ⟨gn,c,none⟩ u) m D ⟨vW,vP,vL,.slice (some ⟨gn,0,none⟩) b.AJ.length Me,vX,vS,vF,vR⟩ nv' rv bs N AA { b with AJ:=b.AJ.set c r }/\Ai w (w5.setCell ⟨gn,c,none⟩ u) (Bo D ⟨vW,vP,vL,.slice (some ⟨gn,0,none⟩) b.AJ.length Me,vX,vS,vF,vR⟩ nv rv) (Bo D ⟨vW,vP,vL,.slice (some ⟨gn,0,none⟩) b.AJ.length Me,vX,vS,vF,vR⟩ nv' rv) /\
    (w5.setCell ⟨gn,c,none⟩ u).cell? ⟨w.heap.size,0,none⟩=some (.int .i64 (p:Int))/\(w5.setCell ⟨gn,c,none⟩ u).cell? ⟨w.heap.size,1,none⟩=some (.int .i64 x1)/\(w5.setCell ⟨gn,c,none⟩ u).cell? ⟨w.heap.size,2,none⟩=some (.int .i64 x2)):=AI (fun u w5 hown hgrow hblk=>by
  rw[KBC,KBz] at hown;have kw:AC wN.drew w5:=((AC.refl wN.drew).alloc (.cells #[] 155)).grown hgrow (fun k hk=>by have:=KAI hk;show wN.heap.size<=k;omega)
  have hnew:∀k,u.ownBlock=some k->wN.drew.heap.size<=k:=fun k hk=>by
   rcases hblk with e|e
   . rw[e] at hk;have:=KAI hk;show wN.heap.size<=k;omega
   . rw[e,AD] at hk;have:=KAI hk;omega
  obtain⟨HO,hcell,hfr⟩:=H1.jO hcn (u:=u) (ns:=r) kw hnew hown rfl;rw[HQ.out] at hcell;obtain⟨a',c',e',-⟩:=B5.shape (show B5 cN 155 3 w5 m u r from hown) |>.elim (fun a h=>h.elim (fun c e=>(⟨a,c,e,trivial⟩:∃a c,u = .slice a r.length c/\True)));have hb5:=H1.base.2;have vY:gn≠w.heap.size:=fun e=>NB ⟨.AJ,trivial,by show some gn=_;rw[e]⟩
  have bx:=BX.out w5 (((AC.refl wN).drew).trans kw);have far:∀j,(w5.setCell ⟨gn,c,none⟩ u).cell? ⟨w.heap.size,j,none⟩=w5.cell? ⟨w.heap.size,j,none⟩:=fun j=>KAw (KBM w5 ⟨gn,c,none⟩ w.heap.size _ (fun e=>vY e.symm))
  refine⟨⟨a',c',e'⟩,(kw.cell hb5).trans c4,hcell,hfr,nv.set c u,HO,?_,(far 0).trans bx.1,(far 1).trans bx.2.1,(far 2).trans bx.2.2⟩;refine ((T1.keep kw).grown (Ad _ gn c _) (fun g hg=>⟨.AJ,trivial,hg⟩)).more (fun g hg=>?_);rcases Mz hcv hg with h1|h1
  . exact .inl h1
  ·
   have:=hnew g h1;have:wN.heap.size<=g:=this
   right;omega)
 have m1:0+r.length<=maxLen:=by unfold maxLen;omega
 have m2:(0+r.length)*24<=140737488355328:=by omega
 have j1:(1:Int)<=(r.length:Int)+1:=by omega
 have j2:(1:Int)<=(cq:Int):=by simp at uH;omega
 have QAA:r.length+1<=cq:=by simpa using uH
 have ONE:=jg r;have NL:=jf r;clear H1 T1 kA RC oq q0 q1 q2 c3 d3 h kN;by_cases hq1:cq=1
 ·
  have hr0:r.flatMap cN=[]:=by
   have:r.length=0:=by omega
   rw[KAZ this];rfl
  replace NW:∀j u,(r.flatMap cN)[j]? = some u->(wN.drew.alloc (.cells #[] 155)).cell? ((⟨gq,0,none⟩:Addr).add j)=some u:=fun j u hj=>by rw[hr0] at hj;simp at hj
  clear hr0 j2;go_wp2_with fail
  go_region_law ((refine Bf rfl (.tmp 29) (.tmp 31) 151 rfl m 155 i0 (.agg #[.int .i64 0,.int .i64 0,.int .i64 0]) 3 24 Tryz.underlying151 hi hz0 hz1 hz2 rfl (by decide) (.slice (some ⟨wN.heap.size,0,none⟩) 0 0) 0 [] rfl OE ⟨gq,0,none⟩ r.length 0 (r.flatMap cN) rfl NL NW ONE m1 m2 s3 ?_;intro u w5 hown5 hgrow hblk;obtain⟨⟨a',c',rfl⟩,hc3,hcell,hfr,HO⟩:=nM.out u w5 hown5 hgrow hblk;have HO:=AI HO;clear hown5 hgrow hblk))
  all_goals
   clear nM;obtain⟨nv',H6,T6,b0,b1,b2⟩:=HO.out;clear HO hcell hfr hc3 c4 c5 c4w c5w;go_wp2_with fail
   refine (Hb _ m D _ nv' rv bs N AA _ p x1 x2 H6 (by rw[SL.AM];exact hp3) (by rw[SL.AQ];exact hp3) (by rw[SL.rws];exact hp3) (by have:=SL.rl p;omega)).mono ?_;rintro e w7 ⟨rfl,rv',H7,T7⟩;go_wp2
   (try simp only[Exit.inBlock,Exit.then])
   refine KA7 (KDM rfl _ _ _) rfl ?_;exact⟨rfl,nv',rv',by rw[HM.out];exact H7,T6.trans T7⟩
 ·
  go_wp2_with fail
  go_region_law ((refine Bf rfl (.tmp 29) (.tmp 31) 151 rfl m 155 i0 (.agg #[.int .i64 0,.int .i64 0,.int .i64 0]) 3 24 Tryz.underlying151 hi hz0 hz1 hz2 rfl (by decide) (.slice (some ⟨wN.heap.size,0,none⟩) 0 0) 0 [] rfl OE ⟨gq,3,none⟩ r.length (cq-1) (r.flatMap cN) rfl NL NW ONE m1 m2 s3 ?_;intro u w5 hown5 hgrow hblk;obtain⟨⟨a',c',rfl⟩,hc3,hcell,hfr,HO⟩:=nM.out u w5 hown5 hgrow hblk;have HO:=AI HO;clear hown5 hgrow hblk))
  all_goals
   clear nM;obtain⟨nv',H6,T6,b0,b1,b2⟩:=HO.out;clear HO hcell hfr hc3 c4 c5 c4w c5w;go_wp2_with fail
   refine (Hb _ m D _ nv' rv bs N AA _ p x1 x2 H6 (by rw[SL.AM];exact hp3) (by rw[SL.AQ];exact hp3) (by rw[SL.rws];exact hp3) (by have:=SL.rl p;omega)).mono ?_;rintro e w7 ⟨rfl,rv',H7,T7⟩;go_wp2
   (try simp only[Exit.inBlock,Exit.then])
   refine KA7 (KDM rfl _ _ _) rfl ?_;exact⟨rfl,nv',rv',by rw[HM.out];exact H7,T6.trans T7⟩
theorem jJ {AA:List (List Dd)}{es:List Ev}{g:Int}{c k:Nat}{b:Bd}(h:g=0\/Am (Ah AA es b c) c=(AA.getD c []).length\/BP AA c (Am (Ah AA es b c) c)≠g):FF AA es g c (k+1) b=Ah AA es b c:=by rw[FF,KAP h]
theorem jI {AA:List (List Dd)}{es:List Ev}{g:Int}{c k:Nat}{b:Bd}(h:¬(g=0\/Am (Ah AA es b c) c=(AA.getD c []).length\/BP AA c (Am (Ah AA es b c) c)≠g)):FF AA es g c (k+1) b=FF AA es g c k (Ah AA es b c):=by rw[FF,KAQ h]
theorem jk {AA:List (List Dd)}{es:List Ev}{c k:Nat}{b:Bd}(hc:c<b.AK.length)(h:b.AK.getD c 0=(k:Int)):(Ah AA es b c).AK.getD c 0=((k+1:Nat):Int)/\Am (Ah AA es b c) c=k+1:=by
 have e:(Ah AA es b c).AK.getD c 0=((k+1:Nat):Int):=by
  show (b.AK.set c (b.AK.getD c 0+1)).getD c 0=_;rw[BR _ _ _ _ hc,KAP rfl,h];omega
 exact⟨e,by unfold Am;rw[e,KAV]⟩
structure xO (AA:List (List Dd))(es:List Ev)(g:Int)(c M n k0:Nat)(b:Bd)(q:Nat)(b':Bd):Prop where
 Yg:Ee AA b' (n+q)
 nx:b'.AK.getD c 0=((k0+q:Nat):Int)
 lt:k0+q<M
 go:FF AA es g c M b=FF AA es g c (M-q) b'
theorem UU (w:World)(m D:Nat)(v:BV)(nv rv:List Value)(bs N:Nat)(AA:List (List Dd))(b:Bd)(n c:Nat)(h:AU w m D v nv rv bs N AA b)(S:Ee AA b n)(hn:n<=500)(hc:c<AA.length)(hx0:0<=b.AK.getD c 0)(hxl:Am b c<(AA.getD c []).length):
  Calls Tryz.prog 64 #[.pointer (some ⟨D,0,none⟩),.int .i64 (c:Int)] w fun e w'=>e = .returned (.tuple #[])/\∃nv' rv',AU w' m D v nv' rv' bs N AA (FF AA (AB AA) (BP AA c (Am b c)) c (AA.getD c []).length b)/\Ai w w' (Bo D v nv rv) (Bo D v nv' rv'):=by
 have hd3:AA.length<=3:=(BM S.work).1
 have hl5:(AA.getD c []).length<=5:=by
  have:=(BM S.work).2 c hc;simp only[GQ,KAO,KAN] at this;exact this.2
 have hcx:c<b.AK.length:=by rw[S.AK];exact hc
 obtain⟨vW,vP,vL,vN,vX,vS,vF,vR⟩:=v;obtain⟨gx,cx,eX,-,-,-⟩:=h.oX.lit hcx;simp only at eX;subst eX;have mX:=h.ge .AK trivial gx rfl;have hbase:=h.base;obtain⟨k0,hk0⟩:=KAn hx0;have hN0:Am b c=k0:=by unfold Am;rw[hk0,KAV]
 rw[hN0] at hxl ⊢;have CN:=IY w _ AA b c h.rd ⟨hc,S.AK,hx0,by rw[hk0];omega,by omega⟩;have eD:Tk AA b c=Aj AA c k0:=by unfold Tk;rw[hN0,KAP hxl]
 have eI:Ye AA b c=true:=by unfold Ye;rw[hN0,KAl hxl]
 rw[eD,eI] at CN;obtain⟨y0,y1,y2,y3,hy⟩:∃y0 y1 y2 y3:Int,Aj AA c k0=(y0,y1,y2,y3):=⟨_,_,_,_,rfl⟩;have hg:BP AA c k0=y3:=by show (Aj AA c k0).2.2.2=y3;rw[hy]
 rw[hy] at CN;rw[hg];have len':∃M,M=(AA.getD c []).length:=⟨_,rfl⟩;obtain⟨M,hM⟩:=len';rw[<-hM] at hxl hl5 ⊢;have HM:=AI hM;clear hM hg hy eD eI hN0;obtain⟨e0,e1,e2,e3,e4,e5,e6,e7⟩:=h.cells;simp only at e0 e1 e2 e3 e4 e5 e6 e7;have i1:(0:Int)<=(c:Int):=KAK _;have i2:(c:Int)<(b.AK.length:Int):=by omega
 have i3:¬((10:Int)<=(c:Int)):=by omega
 go_enter Tryz.func64,Tryz.ntmps64
 go_wp2_with fail
 refine CN.mono ?_;rintro e w1 ⟨rfl,k1⟩;clear e0 e1 e2 e3 e4 e5 e6 e7 CN;go_upto_region 6 with fail
 obtain⟨w2,hw2⟩:∃W:World,W=w1.alloc (.cells #[.int .i64 y0,.int .i64 y1,.int .i64 y2,.int .i64 y3] 82):=⟨_,rfl⟩;have kD:AC w1 w2:=by rw[hw2];exact (AC.refl w1).alloc _
 have lD:w1.heap.size<w2.heap.size:=by rw[hw2,AD];omega
 have BX:Hid (w2.cell? ⟨w1.heap.size,3,none⟩=some (.int .i64 y3)):=AI (by rw[hw2];exact AO (AC.refl _) 3);rw[<-hw2];clear hw2;have NB:¬Bo D ⟨vW,vP,vL,vN,.slice (some ⟨gx,0,none⟩) b.AK.length cx,vS,vF,vR⟩ nv rv w1.heap.size:=fun hB=>by have:=(h.blk _ hB).2.1;have:=k1.size;omega
 have H2:=(h.keep k1).keep kD;have T2:=((Ai.refl w (Bo D ⟨vW,vP,vL,vN,.slice (some ⟨gx,0,none⟩) b.AK.length cx,vS,vF,vR⟩ nv rv)).keep k1).keep kD;have I2:xO AA (AB AA) y3 c M n k0 b 0 b:=⟨S,by rw[hk0];rfl,hxl,rfl⟩;have SL:Hid (∀b' q,xO AA (AB AA) y3 c M n k0 b q b'->b'.AK.length=b.AK.length):=AI (fun b' q I=>by rw[I.Yg.AK,S.AK]);generalize w1.heap.size=BD at *;clear h S hx0 hk0 k1 kD;go_loopw [9] (fun _ wr=>∃(q:Nat) (b':Bd) (nv' rv':List Value),AU wr m D ⟨vW,vP,vL,vN,.slice (some ⟨gx,0,none⟩) b.AK.length cx,vS,vF,vR⟩ nv' rv' bs N AA b'/\xO AA (AB AA) y3 c M n k0 b q b'/\Ai w2 wr (Bo D ⟨vW,vP,vL,vN,.slice (some ⟨gx,0,none⟩) b.AK.length cx,vS,vF,vR⟩ nv rv) (Bo D ⟨vW,vP,vL,vN,.slice (some ⟨gx,0,none⟩) b.AK.length cx,vS,vF,vR⟩ nv' rv')) (fun _ wr=>M-(intOf ((wr.cell? ⟨gx,c,none⟩).getD undef)).toNat)
 case atStart=>exact⟨0,b,nv,rv,H2,I2,Ai.refl _ _⟩
 case round=>
  obtain⟨q,b',nv',rv',H,I,T⟩:=hrel;clear I2;have hlq:=I.lt;have hbl:=SL.out b' q I;have hcx':c<b'.AK.length:=by rw[hbl];exact hcx
  obtain⟨gx',cx',uf,-,dX,-⟩:=H.oX.lit hcx';simp only[KAT,KAg,KA6,KBX] at uf;obtain⟨rfl,-,rfl⟩:=uf;have d0:=dX c hcx';rw[I.nx] at d0;obtain⟨kq,hkq⟩:∃kq,kq=k0+q:=⟨_,rfl⟩;rw[<-hkq] at d0 hlq;have yx:=AI hkq;have vM:b'.AK.getD c 0=(kq:Int):=by rw[I.nx,hkq]
  have CD:=Sj wr m D _ nv' rv' bs N AA b' (n+q) c kq H I.Yg (by omega) hc (by rw[<-HM.out];exact hlq);have c4:wr.cell? ⟨D,4,none⟩=some (.slice (some ⟨gx,0,none⟩) b.AK.length cx):=H.cells.2.2.2.2.1;have M0:Hid (M-(intOf ((wr.cell? ⟨gx,c,none⟩).getD undef)).toNat=M-kq):=AI (by rw[d0];simp[intOf]);clear hkq dX;go_wp2_with fail
  refine CD.mono ?_;rintro e w3 ⟨rfl,nv3,rv3,H3,T3⟩;clear CD c4 d0;have hdn:(BL AA (AB AA) b' c kq).AK=b'.AK:=M8 _ _ _ _ _;have hc3:c<(BL AA (AB AA) b' c kq).AK.length:=by rw[hdn];exact hcx'
  obtain⟨gx',cx',uf,lX,dX,fX⟩:=H3.oX.lit hc3;simp only[KAT,KAg,KA6,KBX] at uf;obtain⟨rfl,-,rfl⟩:=uf;have d3:=dX c hc3;rw[hdn,vM] at d3;have f3:=fX c;have c3:w3.cell? ⟨D,4,none⟩=some (.slice (some ⟨gx,0,none⟩) b.AK.length cx):=H3.cells.2.2.2.2.1;have jw:IntKind.i64.wrap ((kq:Int)+1)=(kq:Int)+1:=by rw[KAk];omega
  have hON:Hid (Ah AA (AB AA) b' c={ BL AA (AB AA) b' c kq with AK:=(BL AA (AB AA) b' c kq).AK.set c ((kq:Int)+1) }):=AI (by
   have e:Am b' c=kq:=by unfold Am;rw[vM,KAV]
   rw[Ah,e,vM,hdn])
  have H4:=H3.drew.wK (k:=c) (x:=(kq:Int)+1) (by show Value.slice _ _ _ = .slice _ _ _;rw[hdn,hbl]);rw[<-hON.out] at H4;have T4:=(T3.keep (AC.refl w3).drew).grown (Ad w3.drew gx c (.int .i64 ((kq:Int)+1))) (fun g hg=>⟨.AK,trivial,hg⟩);obtain⟨on1,on2⟩:=jk (AA:=AA) (es:=AB AA) hcx' vM;have S4:=I.Yg.one c;have CN:=IY _ _ AA _ c H4.rd ⟨hc,S4.AK,by rw[on1];omega,by rw[on1,<-HM.out];omega,by rw[<-HM.out];omega⟩;have eI:Ye AA (Ah AA (AB AA) b' c) c=decide (kq+1<M):=by unfold Ye;rw[on2,HM.out]
  have eD:kq+1<M->Tk AA (Ah AA (AB AA) b' c) c=Aj AA c (kq+1):=fun hh=>by unfold Tk;rw[on2,KAP (by rw[<-HM.out];exact hh)]
  rw[eI] at CN;have HST:Hid (∀k,(y3=0\/kq+1=M\/BP AA c (kq+1)≠y3)->FF AA (AB AA) y3 c (k+1) b'=Ah AA (AB AA) b' c):=AI (fun k hh=>jJ (by rw[on2,<-HM.out];exact hh));have HMO:Hid (∀k,¬(y3=0\/kq+1=M\/BP AA c (kq+1)≠y3)->FF AA (AB AA) y3 c (k+1) b'=FF AA (AB AA) y3 c k (Ah AA (AB AA) b' c)):=AI (fun k hh=>jI (by rw[on2,<-HM.out];exact hh));have xV:Hid (FF AA (AB AA) y3 c M b=FF AA (AB AA) y3 c (M-q-1+1) b'):=AI (by rw[I.go];congr 1;have:=yx.out;omega);have NI:Hid (∀(hh:kq+1<M),(FF AA (AB AA) y3 c (M-q-1+1) b'=FF AA (AB AA) y3 c (M-q-1) (Ah AA (AB AA) b' c))->xO AA (AB AA) y3 c M n k0 b (q+1) (Ah AA (AB AA) b' c)):=AI (fun hh e=>⟨S4,by rw[on1,yx.out];congr 1,by have:=yx.out;omega,by rw[xV.out,e];congr 1⟩);have DX:Hid (∀hh:kq+1<M,(Tk AA (Ah AA (AB AA) b' c) c).2.2.2=BP AA c (kq+1)):=AI (fun hh=>by rw[eD hh])
  have n4:Hid ((w3.drew.setCell ⟨gx,c,none⟩ (.int .i64 ((kq:Int)+1))).cell? ⟨gx,c,none⟩=some (.int .i64 ((kq:Int)+1))):=AI (by
   obtain⟨g',c',e',-,dd,-⟩:=H4.oX.lit (k:=c) (by show c<(b'.AK.set c _).length;simpa using hcx');simp only[KAT,KAg,KA6,KBX] at e';obtain⟨rfl,-,rfl⟩:=e';have:=dd c (by show c<(b'.AK.set c _).length;simpa using hcx')
   rw[this,on1];rfl)
  generalize Ah AA (AB AA) b' c=b2 at *;generalize Tk AA b2 c=Y at *;clear eD eI dX fX H H3 S4 hON on1 on2 vM;go_upto_region 8 with (first|go_region|fail)
  obtain⟨w4,hw4⟩:∃W:World,W=(w3.setCell ⟨gx,c,none⟩ (.int .i64 ((kq:Int)+1))).drew:=⟨_,rfl⟩;have e4:w3.drew.setCell ⟨gx,c,none⟩ (.int .i64 ((kq:Int)+1))=w4:=by rw[hw4];rfl
  rw[e4] at H4 T4 CN n4;rw[<-hw4];clear hw4 e4 d3 f3 c3
  have NB':¬Bo D ⟨vW,vP,vL,vN,.slice (some ⟨gx,0,none⟩) b.AK.length cx,vS,vF,vR⟩ nv' rv' BD:=fun hB=>by
   rcases T.news BD hB with h1|h1
   . exact NB h1
   . omega
  have g4:w4.cell? ⟨BD,3,none⟩=some (.int .i64 y3):=(T4.cell (KAC lD T.size) NB').trans ((T.cell lD NB).trans BX.out);have lB4:BD<w4.heap.size:=KAC lD (KAU T.size T4.size);obtain⟨e0,e1,e2,e3,e4,e5,e6,e7⟩:=H4.cells;simp only at e0 e1 e2 e3 e4 e5 e6 e7;obtain⟨z0,z1,z2,z3⟩:=Y;simp only at DX;go_wp2_with fail
  refine CN.mono ?_;rintro e w5 ⟨rfl,k5⟩;have H6:=(H4.keep k5).keep ((AC.refl w5).alloc (.cells #[.int .i64 z0,.int .i64 z1,.int .i64 z2,.int .i64 z3] 82));have k6:=k5.trans ((AC.refl w5).alloc (.cells #[.int .i64 z0,.int .i64 z1,.int .i64 z2,.int .i64 z3] 82));have TF:=(T2.trans T).trans (T4.keep k6);have TL:=T.trans (T4.keep k6);have g5:=(k5.cell lB4).trans g4;have lB5:BD<w5.heap.size:=KAC lB4 k5.size;have g6:(w5.alloc (.cells #[.int .i64 z0,.int .i64 z1,.int .i64 z2,.int .i64 z3] 82)).cell? ⟨BD,3,none⟩=some (.int .i64 y3):=(((AC.refl w5).alloc _).cell lB5).trans g5;have lx4:gx<w4.heap.size:=block_lt_of_cell n4.out;have n6:=AI ((k6.cell (b:=gx) (o:=c) lx4).trans n4.out);clear e0 e1 e2 e3 e4 e5 e6 e7 CN H4 n4 g4 g5;by_cases hy0:y3=0
  ·
   have Rl:y3=0\/kq+1=M\/BP AA c (kq+1)≠y3:= .inl hy0;have b0:(y3==0)=true:=by simp[hy0]
   clear hy0;go_wp2
   (try simp only[Exit.inBlock,Exit.then])
   refine KA7 (KDM rfl _ _ _) rfl ?_;exact⟨rfl,nv3,rv3,by rw[xV.out,HST.out _ Rl];exact H6,TF⟩
  ·
   have b0:(y3==0)=false:=by simp[hy0]
   by_cases hend:kq+1<M
   ·
    have bI:decide (kq+1<M)=true:=KAl hend;rw[bI];have hz:=DX.out hend;by_cases pQ:z3=y3
    ·
     have HNS:¬(y3=0\/kq+1=M\/BP AA c (kq+1)≠y3):=by
      rintro (h1|h1|h1)
      . exact hy0 h1
      . omega
      . exact h1 (by rw[<-hz];exact pQ)
     have I':=NI.out hend (HMO.out _ HNS);have bz:(z3 != y3)=false:=by simp[pQ]
     have ZZ:z3=y3:=pQ;clear hy0 hz bI pQ ZZ HNS;go_wp2;go_roundw;case rel=>exact⟨q+1,_,nv3,rv3,H6,I',TL⟩
     case measure=>
      rw[M0.out,n6.out];simp only[KBR,intOf];omega
    ·
     have Rl:y3=0\/kq+1=M\/BP AA c (kq+1)≠y3:= .inr (.inr (by rw[<-hz];exact pQ));have bz:(z3 != y3)=true:=by simpa using pQ
     clear hy0 hz bI pQ;go_wp2
     (try simp only[Exit.inBlock,Exit.then])
     refine KA7 (KDM rfl _ _ _) rfl ?_;exact⟨rfl,nv3,rv3,by rw[xV.out,HST.out _ Rl];exact H6,TF⟩
   ·
    have Rl:y3=0\/kq+1=M\/BP AA c (kq+1)≠y3:= .inr (.inl (by omega));have bI:decide (kq+1<M)=false:=KAi hend;rw[bI];clear hy0 bI;go_wp2
    (try simp only[Exit.inBlock,Exit.then])
    refine KA7 (KDM rfl _ _ _) rfl ?_;exact⟨rfl,nv3,rv3,by rw[xV.out,HST.out _ Rl];exact H6,TF⟩
theorem Ty {AA:List (List Dd)}{b:Bd}(h:Ap AA b=true){c:Nat}(hc:c<AA.length){x:Nt}(hx:x∈b.AJ.getD c []):0<=x.1/\x.1<=2:=by
 simp only[Ap,KAO] at h;have:=KAx.1 h.2.2.2 c (KAd.2 hc);simp only[VL,KAO,bJ,KAx] at this;have:=this.2.2 x hx;simp only[rA,KAO,KAN] at this;exact this.1
theorem MF (w:World)(m D:Nat)(v:BV)(nv rv:List Value)(bs N:Nat)(AA:List (List Dd))(b:Bd)(s:Int)(h:AU w m D v nv rv bs N AA b)(hb:Ap AA b=true)(hs:Op (Aq AA b) s=true):
  Calls Tryz.prog 64 #[.pointer (some ⟨D,0,none⟩),.int .i64 s] w fun e w'=>e = .returned (.tuple #[])/\∃nv' rv',AU w' m D v nv' rv' bs N AA (Ar AA (AB AA) b s)/\Ai w w' (Bo D v nv rv) (Bo D v nv' rv'):=by
 have S:=Ee.of hb;have hd3:AA.length<=3:=(BM S.work).1;have hm:=Mj hs;unfold Aq at hm;rw[KA0,KAv,KAv] at hm;rcases hm with ⟨c,hc,rfl⟩|⟨c,hc,rfl⟩
 ·
  rw[KBF,KAd] at hc;have hcan:=hc.2;unfold Ce at hcan;simp only[KAO,KAN] at hcan
  have e:Ar AA (AB AA) b (c:Int)=FF AA (AB AA) (BP AA c (Am b c)) c (AA.getD c []).length b:=by
   unfold Ar;rw[KAQ (by omega),KAV]
  rw[e];exact UU w m D v nv rv bs N AA b 20 c h S (by omega) hc.1 (GD hb hc.1).1 hcan.1
 ·
  rw[KBF,KAd] at hc
  have e:Ar AA (AB AA) b (10+(c:Int))=BS b c:=by
   unfold Ar;rw[KAP (by omega),show (10+(c:Int)-10).toNat=c by omega]
  rw[e]
  cases hz:b.AJ.getD c [] with
  |nil=>rw[hz] at hc;simp at hc
  |cons x r=>
   exact Jb w m D v nv rv bs N AA b 20 c x r h S (by omega) hc.1 hz (Ty hb hc.1 (by rw[hz];simp))
theorem RB.Yg {AA:List (List Dd)}{b:Bd}{n m:Nat}(h:RB AA b (fun _=>n) m)(k:Nat)(h1:n<=k)(h2:m<=k):Ee AA b k:=
 ⟨h.work,h.AM,h.AQ,h.rws,h.AJ,h.AK,h.sn,h.fr,fun p=>KAU (h.rl p).1 h2,fun c=>KAU (h.nl c).1 h1⟩
theorem Qs (w:World)(m D:Nat)(v:BV)(nv rv:List Value)(bs N:Nat)(AA:List (List Dd))(b:Bd)(c:Nat)(h:AU w m D v nv rv bs N AA b)(hb:Ap AA b=true)(hc:c<AA.length)(hcan:Ce AA b c=true):
  Calls Tryz.prog 63 #[.pointer (some ⟨D,0,none⟩),.int .i64 (c:Int)] w fun e w'=>e = .returned (.tuple #[])/\∃nv' rv',AU w' m D v nv' rv' bs N AA (CZ AA (AB AA) b c)/\Ai w w' (Bo D v nv rv) (Bo D v nv' rv'):=by
 have S0:=Ee.of hb;have R0:RB AA b (fun _=>20) 20:=RB.of hb S0.nl S0.rl;have h3:AA.length<=3:=(BM R0.work).1;have R1:=R0.stepped hc hcan (by omega)
 have hs:Op (Aq AA b) (c:Int)=true:=by
  rw[Op,KCf];exact⟨(c:Int),KA0.2 (.inl (KAv.2 ⟨c,KBF.2 ⟨KAd.2 hc,hcan⟩,rfl⟩)),by simp⟩
 have HQ:Hid (CZ AA (AB AA) b c=if ((Ar AA (AB AA) b (c:Int)).AJ.getD c []).isEmpty=true then Ar AA (AB AA) b (c:Int) else Ar AA (AB AA) (Ar AA (AB AA) b (c:Int)) (10+(c:Int))):=AI rfl;have C:=MF w m D v nv rv bs N AA b (c:Int) h hb hs;generalize CZ AA (AB AA) b c=QB at HQ ⊢;generalize Ar AA (AB AA) b (c:Int)=SB at *;clear h hs hcan hb S0 R0;obtain⟨vW,vP,vL,vN,vX,vS,vF,vR⟩:=v;go_enter Tryz.func63,Tryz.ntmps63
 go_wp2_with fail
 refine C.mono ?_;rintro e w1 ⟨rfl,nv1,rv1,H1,T1⟩;clear C;have hcn':c<SB.AJ.length:=by rw[R1.AJ];exact hc
 have r1:=H1.rd;have c3:=H1.cells.2.2.2.1;obtain⟨a',c',eN,hN⟩:=r1.N;simp only at eN c3;subst eN;rcases hN with h0|⟨bn,on,rfl,hbn,hcn⟩
 . exfalso;rw[h0] at hcn';simp at hcn'
 obtain⟨vn,d3,r3⟩:=hcn c hcn';obtain⟨an,cn,rfl,r3⟩:=r3;have i1:IntKind.i64.wrap (10+(c:Int))=10+(c:Int):=by rw[KAk];omega
 have i2:(0:Int)<=(c:Int):=KAK _;have i3:(c:Int)<(SB.AJ.length:Int):=by omega
 clear hcn r1 r3
 cases hz:SB.AJ.getD c [] with
 |nil=>
  rw[hz] at d3;have HE:Hid (QB=SB):=AI (by rw[HQ.out,hz];rfl);clear HQ hz R1;go_wp2;go_end0;exact⟨rfl,nv1,rv1,by rw[HE.out];exact H1,T1⟩
 |cons x r=>
  have hx:=((R1.nl c).2 x (by rw[hz];simp)).1
  have HE:Hid (QB=BS SB c):=AI (by
   rw[HQ.out,hz];simp only[List.isEmpty_cons,KBO,KCU];unfold Ar;rw[KAP (by omega)];have:(10+(c:Int)-10).toNat=c:=by omega
   rw[this])
  have CF:=Jb w1 m D _ nv1 rv1 bs N AA SB 30 c x r H1 (R1.Yg 30 (by omega) (by omega)) (by omega) hc hz hx;rw[hz] at d3;have hl:decide ((0:Int)<(((x::r).length:Nat):Int))=true:=by simp
  have hL:0<(x::r).length:=by simp
  generalize (x::r).length=L at *;clear HQ hz R1;go_wp2_with fail
  refine CF.mono ?_;rintro e w2 ⟨rfl,nv2,rv2,H2,T2⟩;go_wp2;go_end0;exact⟨rfl,nv2,rv2,by rw[HE.out];exact H2,T1.trans T2⟩
end Go.Proofs.YtflehmepjhikcaaGreatDoor
