/- Gathered texts. -/
import Derived.OwnWalk
import Derived.Deep.QuietTactic
import Derived.BigQuiet
import Derived.Deep.Cut
import Derived.Test.YtnmelakgmgenjaaGreatMM
import Derived.Deep.RegionHeld3
import Derived.Deep.AppendLies
import Derived.BigRegion
import Derived.RegionTactic
import Derived.Lib.Hide
import Derived.Deep.RegionLaw
set_option maxRecDepth 100000
set_option maxHeartbeats 8000000
namespace Go.Proofs.YtnmelakgmgenjaaGreat
open Go.ChangeShapes Go.WideShapes Go.ChangeAt Go.RowKit
theorem dz {ns:List Nt}{p:Int}{j:Nat}(hj:j<ns.length)(hno:∀q,j<q->q<ns.length->(ns.getD q (0,0,0)).1≠p)(he:(ns.getD j (0,0,0)).1=p):ns.reverse.find? (fun x=>x.1==p)=some (ns.getD j (0,0,0)):=by
 have e:ns=ns.take j++(ns.getD j (0,0,0)::ns.drop (j+1)):=by
  rw[List.getD_eq_getElem?_getD,List.getElem?_eq_getElem hj];show ns=ns.take j++ns[j]::ns.drop (j+1);rw[<-List.drop_eq_getElem_cons hj,List.take_append_drop]
 have hd:(ns.drop (j+1)).reverse.find? (fun x=>x.1==p)=none:=by
  rw[List.find?_eq_none];intro x hx;rw[List.mem_reverse] at hx;obtain⟨i,hi,ei⟩:=List.getElem_of_mem hx;rw[List.length_drop] at hi;have:=hno (j+1+i) (by omega) (by omega);rw[List.getElem_drop] at ei;rw[List.getD_eq_getElem?_getD,List.getElem?_eq_getElem (by omega)] at this;simp only[Option.getD_some] at this;rw[ei] at this
  simpa using this
 conv=>lhs;rw[e]
 rw[List.reverse_append,List.reverse_cons,List.append_assoc,List.find?_append,hd];generalize ns.getD j (0,0,0)=y at he ⊢;have hy:(y.1==p)=true:=by simp[he]
 simp[hy]
theorem eH {ns:List Nt}{p:Int}(hno:∀q,q<ns.length->(ns.getD q (0,0,0)).1≠p):ns.reverse.find? (fun x=>x.1==p)=none:=by
 rw[List.find?_eq_none];intro x hx;rw[List.mem_reverse] at hx;obtain⟨i,hi,ei⟩:=List.getElem_of_mem hx;have:=hno i hi;rw[List.getD_eq_getElem?_getD,List.getElem?_eq_getElem hi] at this;simp only[Option.getD_some] at this;rw[ei] at this
 simpa using this
theorem Ni (w:World)(v:BV)(AA:List (List Dd))(b:Bd)(c p:Nat)(h:Cf w v AA b)(hc:c<b.AG.length)(hp:p<b.AM.length)(hq:p<b.AQ.length)(hn:(b.AG.getD c []).length<=1048576):
  Calls Tryz.prog 109 #[v.agg,.int .i64 c,.int .i64 p] w fun e w'=>e = .returned (.tuple #[.int .i64 (Ct b c p).1,.int .i64 (Ct b c p).2])/\AC w w':=by
 obtain⟨aW,aP,aL,aN,aX,aS,aF,aR,cW,cP,cL,cN,cX,cS,cF,cR,rfl⟩:=h.shapes;have KW:AC w (w.alloc (.cells #[.slice aW AA.length cW,.slice aP b.AM.length cP,.slice aL b.AQ.length cL,.slice aN b.AG.length cN,.slice aX b.AK.length cX,.slice aS b.sn.length cS,.slice aF b.fr.length cF,.slice aR b.rws.length cR] 36)):=(AC.refl w).alloc _;have h':=h.keep KW;obtain⟨a',c',he',hN⟩:=h'.N;simp only[Value.slice.injEq,true_and] at he';obtain⟨rfl,rfl⟩:=he';rcases hN with h0|⟨bn,on,rfl,hbn,hcn⟩
 . exfalso;rw[h0] at hc;simp at hc
 obtain⟨a',c',he',hP⟩:=h'.P;simp only[Value.slice.injEq,true_and] at he';obtain⟨rfl,rfl⟩:=he';rcases hP with h0|⟨bp,op,rfl,hbp,hcp⟩
 . exfalso;rw[h0] at hp;simp at hp
 obtain⟨a',c',he',hL⟩:=h'.L;simp only[Value.slice.injEq,true_and] at he';obtain⟨rfl,rfl⟩:=he';rcases hL with h0|⟨bl,ol,rfl,hbl,hcl⟩
 . exfalso;rw[h0] at hq;simp at hq
 obtain⟨vn,d3,r3⟩:=hcn c hc;have d1:=hcp p hp;have d2:=hcl p hq;have HS:Hid (∀x,(b.AG.getD c []).reverse.find? (fun x=>x.1==(p:Int))=some x->Ct b c p=x.2):=Lib.hid (fun x e=>by unfold Ct;rw[e]);have HZ:Hid ((b.AG.getD c []).reverse.find? (fun x=>x.1==(p:Int))=none->Ct b c p=(b.AM.getD p 0,b.AQ.getD p 0)):=Lib.hid (fun e=>by unfold Ct;rw[e]);obtain⟨an,cn,rfl,r3⟩:=r3;generalize b.AG.getD c []=ns at *;generalize b.AM.getD p 0=xp at d1 HZ;generalize b.AQ.getD p 0=xl at d2 HZ;generalize Ct b c p=ANS at HS HZ ⊢;have j1:(0:Int)<=(c:Int):=Int.natCast_nonneg _;have j2:(c:Int)<(b.AG.length:Int):=by omega
 have j3:(0:Int)<=(p:Int):=Int.natCast_nonneg _;have j4:(p:Int)<(b.AM.length:Int):=by omega
 have j5:(p:Int)<(b.AQ.length:Int):=by omega
 have i0:IntKind.i64.wrap ((ns.length:Int)-1)=(ns.length:Int)-1:=by rw[IntKind.wrap_i64];omega
 clear hcn hcp hcl h h';go_enter Tryz.func109,Tryz.ntmps109
 go_wp2;go_loop [9] (fun i=>∃j:Nat,j<=ns.length/\i = .int .i64 ((j:Int)-1)/\Hid (∀q,j<=q->q<ns.length->(ns.getD q (0,0,0)).1≠(p:Int))) (fun i=>(intOf i+1).toNat)
 case atStart=>exact⟨ns.length,Nat.le_refl _,rfl,Lib.hid (fun q h1 h2=>by omega)⟩
 case round=>
  obtain⟨j,hj,rfl,hno⟩:=hrel
  cases j with
  |zero=>
   have HE:Hid (ANS=(xp,xl)):=Lib.hid (HZ.out (eH (fun q hq=>hno.out q (Nat.zero_le _) hq)));go_wp2;go_quiet (fail)
   go_wp2;go_ret2
   exact⟨by rw[HE.out];rfl,KW.drewN _⟩
  |succ q=>
   have ej:((q+1:Nat):Int)-1=(q:Int):=by omega
   rw[ej];have yu:q<ns.length:=hj;rcases r3 with h0|⟨bq,oq,rfl,hbq,hcq⟩
   . exfalso;rw[h0] at yu;simp at yu
   obtain⟨g0,g1,g2⟩:=yY (hcq q _ (Kn yu));have HF:=fun e=>Lib.hid (HS.out _ (dz yu (fun q' h1 h2=>hno.out q' h1 h2) e))
   have HN:(ns.getD q (0,0,0)).1≠(p:Int)->Hid (∀q',q<=q'->q'<ns.length->(ns.getD q' (0,0,0)).1≠(p:Int)):=fun e=>Lib.hid (fun q' h1 h2=>by
    by_cases e':q'=q
    . rw[e'];exact e
    . exact hno.out q' (by omega) h2)
   generalize ns.getD q (0,0,0)=y at g0 g1 g2 HF HN;obtain⟨y0,y1,y2⟩:=y;simp only at g0 g1 g2 HF HN;have k1:(0:Int)<=(q:Int):=Int.natCast_nonneg _;have k2:(q:Int)<(ns.length:Int):=by omega
   have k3:IntKind.i64.wrap ((q:Int)-1)=(q:Int)-1:=by rw[IntKind.wrap_i64];omega
   clear hcq hno ej;by_cases e:y0=(p:Int)
   ·
    have HE:=HF e;have eb:(y0==(p:Int))=true:=by simp[e]
    clear HF HN e;go_wp2;go_quiet (fail)
    go_wp2;go_ret2
    exact⟨by rw[HE.out];rfl,KW.drewN _⟩
   ·
    have HE:=HN e;have eb:(y0==(p:Int))=false:=by simp[e]
    clear HF HN e;go_wp2;go_round
    case rel=>exact⟨q,by omega,rfl,HE⟩
    case measure=>simp[intOf]
theorem Tryz.nC:(Tryz.prog.info? 104).map (fun i=>(i.zero,i.size,i.bytes))=some (some (.agg #[.int .i64 0,.int .i64 0,.int .i64 0]),3,24):=by kernel_rfl
theorem Si (w:World)(m D:Nat)(v:BV)(nv rv:List Value)(bs N:Nat)(AA:List (List Dd))(b:Bd)(n c k:Nat)(h:AU w m D v nv rv bs N AA b)(S:Dc AA b n)(hn:n<=1000)(hc:c<AA.length)(hk:k<(AA.getD c []).length):
  Calls Tryz.prog 88 #[.pointer (some ⟨D,0,none⟩),.int .i64 c,.int .i64 k] w fun e w'=>e = .returned (.tuple #[])/\∃nv' rv',AU w' m D v nv' rv' bs N AA (BH AA (AB AA) b c k)/\Aj w w' (Bp D v nv rv) (Bp D v nv' rv'):=by
 have hb0:=S.work;obtain⟨u1,u2⟩:=Ay hb0;have eB:AB AA=A8 AA AA.length:=by rw[AB,if_pos hb0]
 have h12:(A8 AA AA.length).length<=12:=(Ja hb0).1;have hok:FW ((AA.getD c []).getD k zD)=true:=B8 hb0 hc k hk;have rP:Hid (BH AA (AB AA) b c k=BH AA (A8 AA AA.length) b c k):=Lib.hid (by rw[eB]);have S':=S;have hsn:=S.sn;have hfr:=S.fr;rw[eB] at hsn hfr;have hbase:=h.base;obtain⟨vW,vP,vL,vN,vX,vS,vF,vR⟩:=v;have W0:=h.work.rd;obtain⟨aW,cW,eW,hW⟩:=id W0;simp only at eW;subst eW;rcases hW with h0|⟨bw,ow,rfl,hbw,hcw⟩
 . exfalso;rw[h0] at hc;simp at hc
 obtain⟨vd,d1,r1⟩:=hcw c hc;obtain⟨ad,cd,rfl,r1⟩:=r1;rcases r1 with h0|⟨bd,od,rfl,hbd,hcd⟩
 . exfalso;rw[h0] at hk;simp at hk
 obtain⟨q0,q1,q2,q3⟩:=hcd k hk;have HD:Hid (Ak AA c k=(AA.getD c []).getD k zD):=Lib.hid rfl;obtain⟨ds,hds⟩:∃ds,ds=AA.getD c []:=⟨_,rfl⟩;rw[<-hds] at d1 HD hk q0 q1 q2 q3 hok;clear hds;generalize ds.getD k zD=y at q0 q1 q2 q3 HD hok;obtain⟨y0,y1,y2,y3⟩:=y;simp only at q0 q1 q2 q3;have c0:w.cell? ⟨D,0,none⟩=some (.slice (some ⟨bw,ow,none⟩) AA.length cW):=h.cells.1;have i1:(0:Int)<=(c:Int):=Int.natCast_nonneg _;have i2:(c:Int)<(AA.length:Int):=by omega
 have i3:(0:Int)<=(k:Int):=Int.natCast_nonneg _;have i4:(k:Int)<(ds.length:Int):=by omega
 clear hcw hcd;go_enter Tryz.func88,Tryz.ntmps88
 go_upto_region 1 with fail
 obtain⟨wD,wF⟩:∃W:World,W=w.alloc (.cells #[.int .i64 y0,.int .i64 y1,.int .i64 y2,.int .i64 y3] 65):=⟨_,rfl⟩;have kD:AC w wD:=by rw[wF];exact (AC.refl w).alloc _
 have lD:w.heap.size<wD.heap.size:=by rw[wF,AD];omega
 have BX:Hid (∀W:World,AC wD W->W.cell? ⟨w.heap.size,0,none⟩=some (.int .i64 y0)/\W.cell? ⟨w.heap.size,1,none⟩=some (.int .i64 y1)/\W.cell? ⟨w.heap.size,2,none⟩=some (.int .i64 y2)/\W.cell? ⟨w.heap.size,3,none⟩=some (.int .i64 y3)):=Lib.hid (by
  rw[wF]
  exact fun W k=>⟨AZ k 0,AZ k 1,AZ k 2,AZ k 3⟩)
 rw[<-wF];clear wF;have NB:¬Bp D ⟨.slice (some ⟨bw,ow,none⟩) AA.length cW,vP,vL,vN,vX,vS,vF,vR⟩ nv rv w.heap.size:=fun hB=>by have:=(h.blk _ hB).2.1;omega
 have H1:=h.keep kD;have W1:=W0.keep kD;have c1:=(kD.cell (b:=D) (o:=0) hbase.2).trans c0;have T1:=(Aj.refl w (Bp D ⟨.slice (some ⟨bw,ow,none⟩) AA.length cW,vP,vL,vN,vX,vS,vF,vR⟩ nv rv)).keep kD;clear c0 d1 q0 q1 q2 q3 h W0;go_wp2_with fail
 refine (Ka _ _ _ W1 u1 u2).mono ?_;rintro e w1 ⟨v1,rfl,a1,k1⟩;have re:=a1.rd;generalize A8 AA AA.length=es at *;clear a1 c1 W1;go_wp2_with fail
 refine (Qt _ _ _ c k re h12).mono ?_;rintro e w2 ⟨rfl,k2⟩;have K2:=k1.trans k2;have H2:=H1.keep K2;have T2:=T1.keep K2;replace re:=re.keep k2;obtain⟨g0,g1,g2,g3⟩:=BX.out _ K2;have l2:w.heap.size<w2.heap.size:=Nat.lt_of_lt_of_le lD K2.size;have hbD:=H2.base;have hkind:y0=1\/y0=2\/y0=3\/y0=4:=by simp only[FW,D2,decide_eq_true_eq] at hok;omega
 have hpl:0<=y1/\y1<=2:=by simp only[FW,D2,decide_eq_true_eq] at hok;omega
 have hgr:0<=y3:=by simp only[FW,D2,decide_eq_true_eq] at hok;omega
 obtain⟨p,rfl⟩:=Int.eq_ofNat_of_zero_le hpl.1;have hp3:p<3:=by omega
 have tN:Hid (∀y:Dd,Ak AA c k=y->BH AA es b c k=if y.1=1 then FY (AV Ad es) b (LH es c k) (Ct b c y.2.1.toNat).1 (Ct b c y.2.1.toNat).2
   else if y.1=3 then Dq (FY (AV Ad es) b (LH es c k) (b.AM.getD y.2.1.toNat 0) (b.AQ.getD y.2.1.toNat 0)) y.2.1.toNat y.2.2.1 (LH es c k+1)
   else if y.1=2/\0<y.2.2.2 then Dq b y.2.1.toNat y.2.2.1 (LH es c k)
   else if y.1=2 then { b with AG:=b.AG.set c (b.AG.getD c []++[(y.2.1,y.2.2.1,LH es c k)]) }
   else b):=Lib.hid (fun y hy=>by subst hy;rfl)
 have Yw:=Lib.hid (tN.out _ HD.out);simp only[Int.toNat_natCast] at Yw;have evr:-1<=LH es c k/\LH es c k<=12:=p8 es c k h12;generalize LH es c k=EV at *;clear tN HD k1 k2 K2 H1 T1 BX hok;rcases hkind with rfl|rfl|rfl|rfl
 ·
  have HM:Hid (BH AA es b c k=FY (AV Ad es) b EV (Ct b c p).1 (Ct b c p).2):=Lib.hid (by rw[Yw.out,if_pos rfl]);have CR:=Ni w2.drew _ AA b c p H2.drew.rd (by rw[S.AG];exact hc) (by rw[S.AM];exact hp3) (by rw[S.AQ];exact hp3) (by have:=S.nl c;omega);obtain⟨e0,e1,e2,e3,e4,e5,e6,e7⟩:=H2.drew.cells;simp only at e0 e1 e2 e3 e4 e5 e6 e7;have zD:D<w2.drew.heap.size:=hbD.2;have zB:w.heap.size<w2.drew.heap.size:=l2;have g1':w2.drew.cell? ⟨w.heap.size,1,none⟩=some (.int .i64 (p:Int)):=g1;generalize Ct b c p=RG at CR HM;clear Yw;go_wp2
  go_region_held3 (fun w'=>w'.cell? ⟨D,0,none⟩=some (.slice (some ⟨bw,ow,none⟩) AA.length cW)/\w'.cell? ⟨D,1,none⟩=some vP/\w'.cell? ⟨D,2,none⟩=some vL/\w'.cell? ⟨D,3,none⟩=some vN/\w'.cell? ⟨D,4,none⟩=some vX/\w'.cell? ⟨D,5,none⟩=some vS/\w'.cell? ⟨D,6,none⟩=some vF/\w'.cell? ⟨D,7,none⟩=some vR/\w'.cell? ⟨w.heap.size,1,none⟩=some (.int .i64 (p:Int)))
   (first|go_keep|(go_split_ands;refine⟨?_,?_,?_,?_,?_,?_,?_,?_,?_⟩<;>(rw[kk.cell (by assumption)];assumption)))
   ((go_at_call 109;refine CR.mono ?_;rintro e wz ⟨rfl,kk⟩))
  all_goals
   have H3:=H2.drew.keep kk;have T3:=(T2.keep (AC.refl w2).drew).keep kk;have re3:=(re.keep (AC.refl w2).drew).keep kk;clear e0 e1 e2 e3 e4 e5 e6 e7 g0 g1 g2 g3 g1' CR;go_wp2_with fail
   refine (Nj _ m D _ nv rv bs N AA b _ es EV RG.1 RG.2 H3 re3 h12 hsn hfr).mono ?_;rintro e w4 ⟨rfl,H4,T4⟩;go_wp2;go_end0;exact⟨rfl,nv,rv,by rw[rP.out,HM.out];exact H4,T3.trans T4⟩
 ·
  by_cases hg:0<y3
  ·
   have HM:Hid (BH AA es b c k=Dq b p y2 EV):=Lib.hid (by rw[Yw.out,if_neg (by decide),if_neg (by decide),if_pos ⟨rfl,hg⟩]);clear Yw;go_wp2_with fail
   refine (Gf _ m D _ nv rv bs N AA b p y2 EV H2 (by rw[S.AM];exact hp3) (by rw[S.AQ];exact hp3) (by rw[S.rws];exact hp3) (by have:=S.rl p;omega)).mono ?_;rintro e w4 ⟨rfl,rv',H4,T4⟩;go_wp2;go_end0;exact⟨rfl,nv,rv',by rw[rP.out,HM.out];exact H4,T2.trans T4⟩
  ·
   have HM:Hid (BH AA es b c k={ b with AG:=b.AG.set c (b.AG.getD c []++[((p:Int),y2,EV)]) }):=Lib.hid (by rw[Yw.out,if_neg (by decide),if_neg (by decide),if_neg (fun h=>hg h.2),if_pos rfl]);obtain⟨i0,hi,hz0,hz1,hz2⟩:=info_parts Tryz.nC;have hcn:c<b.AG.length:=by rw[S.AG];exact hc
   have hcv:c<nv.length:=by rw[H2.ln];exact hcn
   obtain⟨aN,Mf,eN,hN⟩:=H2.drew.hN;rcases hN with h0|⟨gn,rfl,qQ,dn⟩
   . exfalso;rw[h0] at hcn;simp at hcn
   simp only at eN;subst eN;have d3:=dn c hcn;have c3:w2.drew.cell? ⟨D,3,none⟩=some (.slice (some ⟨gn,0,none⟩) b.AG.length Mf):=H2.drew.cells.2.2.2.1;obtain⟨au,cu,hu⟩:=(H2.oN hcn).shape;have HU:=Lib.hid hu;rw[hu] at d3;have H3:=(H2.keep ((AC.refl w2).alloc (.cells #[.int .i64 (p:Int),.int .i64 y2,.int .i64 EV] 104))).drew;have T3:=T2.keep (((AC.refl w2).alloc (.cells #[.int .i64 (p:Int),.int .i64 y2,.int .i64 EV] 104)).drew);have o3:((w2.alloc (.cells #[.int .i64 (p:Int),.int .i64 y2,.int .i64 EV] 104)).drew).ownsRow m 104 3 (.slice au (b.AG.getD c []).length cu) (b.AG.getD c []).length ((b.AG.getD c []).flatMap cN):=by rw[<-hu];exact H3.oN hcn
   have s3:m<=((w2.alloc (.cells #[.int .i64 (p:Int),.int .i64 y2,.int .i64 EV] 104)).drew).heap.size:=by have:=H3.base;omega
   have nl:=S.nl c;have g1':w2.drew.cell? ⟨w.heap.size,1,none⟩=some (.int .i64 (p:Int)):=g1;have g2':w2.drew.cell? ⟨w.heap.size,2,none⟩=some (.int .i64 y2):=g2;have zD:D<w2.drew.heap.size:=hbD.2;have zB:w.heap.size<w2.drew.heap.size:=l2;have zN:gn<w2.drew.heap.size:=qQ;have zD2:D<w2.heap.size:=hbD.2;have zN2:gn<w2.heap.size:=qQ;have j2:(c:Int)<(b.AG.length:Int):=by omega
   have hg0:¬((0:Int)<y3):=hg;obtain⟨Z,hZ⟩:∃Z,Z=b.AG.getD c []:=⟨_,rfl⟩;rw[<-hZ] at d3 o3 nl HM HU;clear hZ hu dn Yw;have c3w:w2.cell? ⟨D,3,none⟩=some (.slice (some ⟨gn,0,none⟩) b.AG.length Mf):=c3;have d3w:w2.cell? ⟨gn,c,none⟩=some (.slice au Z.length cu):=d3;have m1:Z.length+1<=maxLen:=by unfold maxLen;omega
   have m2:(Z.length+1)*24<=140737488355328:=by omega
   have d3a:(w2.alloc (.cells #[.int .i64 (p:Int),.int .i64 y2,.int .i64 EV] 104)).drew.cell? ⟨gn,c,none⟩=some (.slice au Z.length cu):=((((AC.refl w2).alloc _).drew).cell zN2).trans d3;have d3b:(w2.alloc (.cells #[.int .i64 (p:Int),.int .i64 y2,.int .i64 EV] 104)).cell? ⟨gn,c,none⟩=some (.slice au Z.length cu):=d3a;have wR:gn≠w.heap.size:=fun e=>NB ⟨.AG,trivial,by show some gn=_;rw[e]⟩
   have yE:∀(W:World),World.grownBy ((w2.alloc (.cells #[.int .i64 (p:Int),.int .i64 y2,.int .i64 EV] 104)).drew) W (Value.slice au Z.length cu).ownBlock->W.cell? ⟨D,3,none⟩=some (.slice (some ⟨gn,0,none⟩) b.AG.length Mf)/\W.cell? ⟨w.heap.size,1,none⟩=some (.int .i64 (p:Int))/\W.cell? ⟨w.heap.size,2,none⟩=some (.int .i64 y2):=fun W hgrow=>by
    have ne:some w.heap.size≠(Value.slice au Z.length cu).ownBlock:=fun e=>NB ⟨.nt c,hcv,by show (nv.getD c AE).ownBlock=_;rw[HU.out,<-e]⟩
    have bk:=hgrow.block w.heap.size (Nat.lt_of_lt_of_le l2 (by simp)) ne;have kA:=((AC.refl w2).alloc (.cells #[.int .i64 (p:Int),.int .i64 y2,.int .i64 EV] 104)).drew;exact⟨(H3.stay (.nt c) hcv (by simp) (by show World.grownBy _ _ (nv.getD c AE).ownBlock;rw[HU.out];exact hgrow) 3).trans ((kA.cell hbD.2).trans c3),(World.cell?_of_block bk).trans ((kA.cell l2).trans g1),(World.cell?_of_block bk).trans ((kA.cell l2).trans g2)⟩
   have zDa:D<((w2.alloc (.cells #[.int .i64 (p:Int),.int .i64 y2,.int .i64 EV] 104)).drew).heap.size:=Nat.lt_of_lt_of_le zD2 (by simp);have c3a:(w2.alloc (.cells #[.int .i64 (p:Int),.int .i64 y2,.int .i64 EV] 104)).cell? ⟨D,3,none⟩=some (.slice (some ⟨gn,0,none⟩) b.AG.length Mf):=(((AC.refl w2).alloc _).cell zD2).trans c3
   have oZ:Hid (∀(gg cap5:Nat) (w5:World),w5.ownsRow m 104 3 (.slice (some ⟨gg,0,none⟩) (Z.length+1) cap5) (Z.length+1) (Z.flatMap cN++[.int .i64 (p:Int),.int .i64 y2,.int .i64 EV])->World.grownBy ((w2.alloc (.cells #[.int .i64 (p:Int),.int .i64 y2,.int .i64 EV] 104)).drew) w5 (Value.slice au Z.length cu).ownBlock->((Value.slice au Z.length cu).ownBlock=some gg\/gg=w2.heap.size+1) ->
     (w5.cell? ⟨D,3,none⟩=some (.slice (some ⟨gn,0,none⟩) b.AG.length Mf)/\w5.cell? ⟨w.heap.size,1,none⟩=some (.int .i64 (p:Int))/\w5.cell? ⟨w.heap.size,2,none⟩=some (.int .i64 y2)) /\
     ((w5.setCell ⟨gn,c,none⟩ (.slice (some ⟨gg,0,none⟩) (Z.length+1) cap5)).cell? ⟨D,3,none⟩=some (.slice (some ⟨gn,0,none⟩) b.AG.length Mf)/\(w5.setCell ⟨gn,c,none⟩ (.slice (some ⟨gg,0,none⟩) (Z.length+1) cap5)).cell? ⟨w.heap.size,1,none⟩=some (.int .i64 (p:Int))/\(w5.setCell ⟨gn,c,none⟩ (.slice (some ⟨gg,0,none⟩) (Z.length+1) cap5)).cell? ⟨w.heap.size,2,none⟩=some (.int .i64 y2)) /\
     w5.cell? ⟨gn,c,none⟩=some (.slice au Z.length cu)/\w5.frozen? ⟨gn,c,none⟩=false /\
     ∃nv' rv',AU (w5.setCell ⟨gn,c,none⟩ (.slice (some ⟨gg,0,none⟩) (Z.length+1) cap5)) m D ⟨.slice (some ⟨bw,ow,none⟩) AA.length cW,vP,vL,.slice (some ⟨gn,0,none⟩) b.AG.length Mf,vX,vS,vF,vR⟩ nv' rv' bs N AA (BH AA (AB AA) b c k)/\Aj w (w5.setCell ⟨gn,c,none⟩ (.slice (some ⟨gg,0,none⟩) (Z.length+1) cap5)) (Bp D ⟨.slice (some ⟨bw,ow,none⟩) AA.length cW,vP,vL,.slice (some ⟨gn,0,none⟩) b.AG.length Mf,vX,vS,vF,vR⟩ nv rv) (Bp D ⟨.slice (some ⟨bw,ow,none⟩) AA.length cW,vP,vL,.slice (some ⟨gn,0,none⟩) b.AG.length Mf,vX,vS,vF,vR⟩ nv' rv')):=Lib.hid (fun gg cap5 w5 hown5 hgrow hat=>by
    have HH:=H3.mq hcn (u:=(.slice (some ⟨gg,0,none⟩) (Z.length+1) cap5)) (ns:=Z++[((p:Int),y2,EV)]) (by rw[HU.out];exact hgrow) (by rw[HU.out];rcases hat with h|h;exact .inl h.symm;exact .inr (.inl (by rw[h];simp[Value.ownBlock]))) (J3 hown5) rfl;obtain⟨HO,hcell,hfr⟩:=HH;rw[HU.out] at hcell;refine⟨yE w5 hgrow,⟨HO.cells.2.2.2.1,(World.cell?_of_block (heap_setCell_other w5 ⟨gn,c,none⟩ w.heap.size _ (fun e=>wR e.symm))).trans (yE w5 hgrow).2.1,(World.cell?_of_block (heap_setCell_other w5 ⟨gn,c,none⟩ w.heap.size _ (fun e=>wR e.symm))).trans (yE w5 hgrow).2.2⟩,hcell,hfr,nv.set c (.slice (some ⟨gg,0,none⟩) (Z.length+1) cap5),rv,by rw[rP.out,HM.out];exact HO,?_⟩;refine ((T3.grown hgrow (fun g hg=>⟨.nt c,hcv,by show (nv.getD c AE).ownBlock=_;rw[HU.out];exact hg⟩)).grown (Ae _ gn c _) (fun g hg=>⟨.AG,trivial,hg⟩)).more (fun g hg=>?_);rcases M6 hcv hg with h1|h1
    . exact .inl h1
    ·
     rcases hat with h2|h2
     . exact .inl ⟨.nt c,hcv,by show (nv.getD c AE).ownBlock=_;rw[HU.out,h2];exact h1⟩
     ·
      have e2:gg=g:=Option.some.inj h1;have:=T2.size
      right;omega)
   have g1a:(w2.alloc (.cells #[.int .i64 (p:Int),.int .i64 y2,.int .i64 EV] 104)).cell? ⟨w.heap.size,1,none⟩=some (.int .i64 (p:Int)):=(((AC.refl w2).alloc _).cell l2).trans g1;have HC0:w2.drew.cell? ⟨D,3,none⟩=some (.slice (some ⟨gn,0,none⟩) b.AG.length Mf)/\w2.drew.cell? ⟨w.heap.size,1,none⟩=some (.int .i64 (p:Int))/\w2.drew.cell? ⟨w.heap.size,2,none⟩=some (.int .i64 y2):=⟨c3,g1',g2'⟩;have HC1:(w2.alloc (.cells #[.int .i64 (p:Int),.int .i64 y2,.int .i64 EV] 104)).drew.cell? ⟨D,3,none⟩=some (.slice (some ⟨gn,0,none⟩) b.AG.length Mf)/\(w2.alloc (.cells #[.int .i64 (p:Int),.int .i64 y2,.int .i64 EV] 104)).drew.cell? ⟨w.heap.size,1,none⟩=some (.int .i64 (p:Int))/\(w2.alloc (.cells #[.int .i64 (p:Int),.int .i64 y2,.int .i64 EV] 104)).drew.cell? ⟨w.heap.size,2,none⟩=some (.int .i64 y2):=⟨((((AC.refl w2).alloc _).drew).cell zD2).trans c3,((((AC.refl w2).alloc _).drew).cell l2).trans g1',((((AC.refl w2).alloc _).drew).cell l2).trans g2'⟩;clear yE HM HU T3 H3 S S' hn hc hb0 u1 u2 eB h12 rP hsn hfr hbase hbw hbd hk H2 T2 re hbD evr hgr hpl hp3 hg NB kD lD wR hcn hcv nl qQ zD zB zN i1 i2 i3 i4;have j0:(0:Int)<=(c:Int):=Int.natCast_nonneg _;go_wp2_with fail
   clear g0 g3 hg0;refine wp_region_held_drew (S:=(fun w'=>w'.cell? ⟨D,3,none⟩=some (.slice (some ⟨gn,0,none⟩) b.AG.length Mf)/\w'.cell? ⟨w.heap.size,1,none⟩=some (.int .i64 (p:Int))/\w'.cell? ⟨w.heap.size,2,none⟩=some (.int .i64 y2))) (by kernel_rfl) ?_ (fun hHeld=>?_)
   . exact HC0
   refine BT 0 102 (v:=?_) ?_ ?_;rotate_left
   ·
    intro wx hSw;go_simp;with_reducible rfl
   refine BT 1 103 (v:=?_) ?_ ?_;rotate_left
   ·
    intro wx hSw;go_simp;with_reducible rfl
   refine BT 2 104 (v:=?_) ?_ ?_;rotate_left
   ·
    intro wx hSw;go_simp;with_reducible rfl
   refine BT 3 105 (v:=?_) ?_ ?_;rotate_left
   ·
    intro wx hSw;go_simp;with_reducible rfl
   refine BT 4 106 (v:=?_) ?_ ?_;rotate_left
   ·
    intro wx hSw;go_simp;with_reducible rfl
   refine BT 5 107 (v:=?_) ?_ ?_;rotate_left
   ·
    intro wx hSw;go_simp;with_reducible rfl
   refine BT 6 108 (v:=?_) ?_ ?_;rotate_left
   ·
    intro wx hSw;go_simp;with_reducible rfl
   refine BT 7 109 (v:=?_) ?_ ?_;rotate_left
   ·
    intro wx hSw;go_simp;with_reducible rfl
   refine BT 8 110 (v:=?_) ?_ ?_;rotate_left
   ·
    intro wx hSw;go_simp;with_reducible rfl
   refine BT 9 111 (v:=?_) ?_ ?_;rotate_left
   ·
    intro wx hSw;go_simp;with_reducible rfl
   refine BT 10 112 (v:=?_) ?_ ?_;rotate_left
   ·
    intro wx hSw;go_simp;with_reducible rfl
   refine BT 12 114 (v:=?_) ?_ ?_;rotate_left
   ·
    intro wx hSw;go_simp;with_reducible rfl
   refine BT 13 115 (v:=?_) ?_ ?_;rotate_left
   ·
    intro wx hSw;go_simp;with_reducible rfl
   refine BT 14 116 (v:=?_) ?_ ?_;rotate_left
   ·
    intro wx hSw;go_simp;with_reducible rfl
   refine BT 15 117 (v:=?_) ?_ ?_;rotate_left
   ·
    intro wx hSw;go_simp;with_reducible rfl
   refine BT 16 118 (v:=?_) ?_ ?_;rotate_left
   ·
    intro wx hSw;go_simp;with_reducible rfl
   refine BT 17 119 (v:=?_) ?_ ?_;rotate_left
   ·
    intro wx hSw;go_simp;with_reducible rfl
   simp only[Act.put,List.setIfInBounds_toArray,List.set_cons_zero,List.set_cons_succ];refine wpAnyH_ready (rs:=[11,18]) (by kernel_rfl) (by simp) ?_;refine AllReadyH.cons rfl (fun K hK=>?_) (AllReadyH.cons rfl (fun K hK=>?_) AllReadyH.nil)
   ·
    go_simp;refine hK.out _ _ ?_ (fun hHeld=>?_)
    . exact HC0
    clear hK K;refine wpAnyH_ready (rs:=[18]) (by kernel_rfl) (by simp) ?_;refine AllReadyH.cons rfl (fun K hK=>?_) AllReadyH.nil;go_simp;refine hK.out _ _ ?_ (fun hHeld=>?_)
    . exact HC1
    clear hK K;refine wpAnyH_ready (rs:=[19]) (by kernel_rfl) (by simp) ?_;refine AllReadyH.cons rfl (fun K hK=>?_) AllReadyH.nil;refine step_append_lies _ (by rfl) _ _ _ (by rfl) m 104 i0 _ 3 24 Tryz.underlying101 hi hz0 hz1 hz2 rfl (by omega) (.slice au Z.length cu) Z.length (Z.flatMap cN) (by rfl) o3 ⟨w2.heap.size,0,none⟩ 1 1 [.int .i64 (p:Int),.int .i64 y2,.int .i64 EV] (by rfl) (by rfl) (World.news_of_block (cs:=#[.int .i64 (p:Int),.int .i64 y2,.int .i64 EV]) (t:=104) (fr:=(0,0)) (heap_alloc_new w2 _)) (by simp[Value.oneCell']) (by omega) m1 m2 s3 (w2.heap.size+1) (by simp) ?_;intro gg cap5 w5 hown5 hgrow hat hlt5;obtain⟨HC,HC2,hcell,hfr,HO⟩:=oZ.out gg cap5 w5 hown5 hgrow hat;have HO:=Lib.hid HO;clear hown5 hgrow hat hlt5;refine hK.out _ _ ?_ (fun hHeld=>?_)
    . exact HC
    clear hK K;simp only[Act.put,List.setIfInBounds_toArray];refine BT 20 122 (v:=?_) ?_ ?_;rotate_left
    ·
     intro wx hSw;go_simp;with_reducible rfl
    simp only[Act.put];refine wpAnyH_ready (rs:=[21]) (by kernel_rfl) (by simp) ?_;refine AllReadyH.cons rfl (fun K hK=>?_) AllReadyH.nil;go_simp;refine hK.out _ _ ?_ (fun hHeld=>?_)
    . exact HC2
    clear hK K;refine wpAnyH_done (by kernel_rfl) ?_ _;clear HC HC2 hcell hfr hHeld;go_wp2;go_end0;exact⟨rfl,HO.out⟩
   ·
    go_simp;refine hK.out _ _ ?_ (fun hHeld=>?_)
    . exact HC1
    clear hK K;refine wpAnyH_ready (rs:=[11]) (by kernel_rfl) (by simp) ?_;refine AllReadyH.cons rfl (fun K hK=>?_) AllReadyH.nil;go_simp;refine hK.out _ _ ?_ (fun hHeld=>?_)
    . exact HC1
    clear hK K;refine wpAnyH_ready (rs:=[19]) (by kernel_rfl) (by simp) ?_;refine AllReadyH.cons rfl (fun K hK=>?_) AllReadyH.nil;refine step_append_lies _ (by rfl) _ _ _ (by rfl) m 104 i0 _ 3 24 Tryz.underlying101 hi hz0 hz1 hz2 rfl (by omega) (.slice au Z.length cu) Z.length (Z.flatMap cN) (by rfl) o3 ⟨w2.heap.size,0,none⟩ 1 1 [.int .i64 (p:Int),.int .i64 y2,.int .i64 EV] (by rfl) (by rfl) (World.news_of_block (cs:=#[.int .i64 (p:Int),.int .i64 y2,.int .i64 EV]) (t:=104) (fr:=(0,0)) (heap_alloc_new w2 _)) (by simp[Value.oneCell']) (by omega) m1 m2 s3 (w2.heap.size+1) (by simp) ?_;intro gg cap5 w5 hown5 hgrow hat hlt5;obtain⟨HC,HC2,hcell,hfr,HO⟩:=oZ.out gg cap5 w5 hown5 hgrow hat;have HO:=Lib.hid HO;clear hown5 hgrow hat hlt5;refine hK.out _ _ ?_ (fun hHeld=>?_)
    . exact HC
    clear hK K;simp only[Act.put,List.setIfInBounds_toArray];refine BT 20 122 (v:=?_) ?_ ?_;rotate_left
    ·
     intro wx hSw;go_simp;with_reducible rfl
    simp only[Act.put];refine wpAnyH_ready (rs:=[21]) (by kernel_rfl) (by simp) ?_;refine AllReadyH.cons rfl (fun K hK=>?_) AllReadyH.nil;go_simp;refine hK.out _ _ ?_ (fun hHeld=>?_)
    . exact HC2
    clear hK K;refine wpAnyH_done (by kernel_rfl) ?_ _;clear HC HC2 hcell hfr hHeld;go_wp2;go_end0;exact⟨rfl,HO.out⟩
 ·
  have HM:Hid (BH AA es b c k=Dq (FY (AV Ad es) b EV (b.AM.getD p 0) (b.AQ.getD p 0)) p y2 (EV+1)):=Lib.hid (by rw[Yw.out,if_neg (by decide),if_pos rfl]);have hpp:p<b.AM.length:=by rw[S.AM];exact hp3
  have hpl':p<b.AQ.length:=by rw[S.AQ];exact hp3
  obtain⟨gp,cp,eP,lp,dp,-⟩:=H2.drew.oP.lit hpp;obtain⟨gl,cl,eL,ll,dl,-⟩:=H2.drew.oL.lit hpl';simp only at eP eL;subst eP eL;have e1:w2.drew.cell? ⟨D,1,none⟩=some (.slice (some ⟨gp,0,none⟩) b.AM.length cp):=H2.drew.cells.2.1;have e2:w2.drew.cell? ⟨D,2,none⟩=some (.slice (some ⟨gl,0,none⟩) b.AQ.length cl):=H2.drew.cells.2.2.1;have f1:=dp p hpp;have f2:=dl p hpl';have g1':w2.drew.cell? ⟨w.heap.size,1,none⟩=some (.int .i64 (p:Int)):=g1;have j1:(0:Int)<=(p:Int):=Int.natCast_nonneg _;have j2:(p:Int)<(b.AM.length:Int):=by omega
  have j3:(p:Int)<(b.AQ.length:Int):=by omega
  have SE:=S.see EV (b.AM.getD p 0) (b.AQ.getD p 0);rw[eB] at SE;obtain⟨xp,hxp⟩:∃x,x=b.AM.getD p 0:=⟨_,rfl⟩;obtain⟨xl,hxl⟩:∃x,x=b.AQ.getD p 0:=⟨_,rfl⟩;rw[<-hxp] at f1 SE HM;rw[<-hxl] at f2 SE HM;have HXP:Hid (b.AM.getD p 0=xp):=Lib.hid hxp.symm;have HXL:Hid (b.AQ.getD p 0=xl):=Lib.hid hxl.symm;clear hxp hxl;have CS:=fun (W:World) (hw:W=w2.drew)=>Nj W m D _ nv rv bs N AA b _ es EV xp xl (hw ▸ H2.drew) (hw ▸ re.keep (AC.refl w2).drew) h12 hsn hfr
  have CSE:∀(W:World),AU W m D ⟨.slice (some ⟨bw,ow,none⟩) AA.length cW,.slice (some ⟨gp,0,none⟩) b.AM.length cp,.slice (some ⟨gl,0,none⟩) b.AQ.length cl,vN,vX,vS,vF,vR⟩ nv rv bs N AA (FY (AV Ad es) b EV xp xl)->Aj w2.drew W (Bp D ⟨.slice (some ⟨bw,ow,none⟩) AA.length cW,.slice (some ⟨gp,0,none⟩) b.AM.length cp,.slice (some ⟨gl,0,none⟩) b.AQ.length cl,vN,vX,vS,vF,vR⟩ nv rv) (Bp D ⟨.slice (some ⟨bw,ow,none⟩) AA.length cW,.slice (some ⟨gp,0,none⟩) b.AM.length cp,.slice (some ⟨gl,0,none⟩) b.AQ.length cl,vN,vX,vS,vF,vR⟩ nv rv)->W.cell? ⟨D,1,none⟩=some (.slice (some ⟨gp,0,none⟩) b.AM.length cp)/\W.cell? ⟨D,2,none⟩=some (.slice (some ⟨gl,0,none⟩) b.AQ.length cl)/\W.cell? ⟨gp,p,none⟩=some (.int .i64 xp)/\W.cell? ⟨gl,p,none⟩=some (.int .i64 xl)/\W.cell? ⟨w.heap.size,1,none⟩=some (.int .i64 (p:Int)):=fun W h1 t1=>by
   obtain⟨gp',cp',eP',-,dp',-⟩:=h1.oP.lit hpp;obtain⟨gl',cl',eL',-,dl',-⟩:=h1.oL.lit hpl';simp only[Value.slice.injEq,Option.some.injEq,Addr.mk.injEq,and_true] at eP' eL';obtain⟨rfl,-,rfl⟩:=eP';obtain⟨rfl,-,rfl⟩:=eL';exact⟨h1.cells.2.1,h1.cells.2.2.1,by rw[<-HXP.out];exact dp' p hpp,by rw[<-HXL.out];exact dl' p hpl',(t1.cell l2 NB).trans g1'⟩
  have jw:IntKind.i64.wrap (EV+1)=EV+1:=by rw[IntKind.wrap_i64];omega
  clear Yw dp dl;go_wp2;have zD:D<w2.drew.heap.size:=hbD.2;have zB:w.heap.size<w2.drew.heap.size:=l2
  go_region_held3 (fun w'=>w'.cell? ⟨D,1,none⟩=some (.slice (some ⟨gp,0,none⟩) b.AM.length cp)/\w'.cell? ⟨D,2,none⟩=some (.slice (some ⟨gl,0,none⟩) b.AQ.length cl)/\w'.cell? ⟨gp,p,none⟩=some (.int .i64 xp)/\w'.cell? ⟨gl,p,none⟩=some (.int .i64 xl)/\w'.cell? ⟨w.heap.size,1,none⟩=some (.int .i64 (p:Int)))
   (first|go_keep|exact HC)
   ((go_at_call 110;refine (CS _ rfl).mono ?_;rintro e w3 ⟨rfl,H3,T3⟩;have HC:=CSE w3 H3 T3))
  all_goals
   have T3':=(T2.keep (AC.refl w2).drew).trans T3;have b1:w3.cell? ⟨w.heap.size,1,none⟩=some (.int .i64 (p:Int)):=(T3.cell l2 NB).trans g1';have b2:w3.cell? ⟨w.heap.size,2,none⟩=some (.int .i64 y2):=(T3.cell l2 NB).trans g2;clear e1 e2 f1 f2 g0 g1 g2 g3 g1';go_wp2_with fail
   refine (Gf _ m D _ nv rv bs N AA _ p y2 (EV+1) H3 (by rw[SE.AM];exact hp3) (by rw[SE.AQ];exact hp3) (by rw[SE.rws];exact hp3) (by have:=SE.rl p;omega)).mono ?_;rintro e w4 ⟨rfl,rv',H4,T4⟩;go_wp2;go_end0;exact⟨rfl,nv,rv',by rw[rP.out,HM.out];exact H4,T3'.trans T4⟩
 ·
  have HM:Hid (BH AA es b c k=b):=Lib.hid (by rw[Yw.out,if_neg (by decide),if_neg (by decide),if_neg (fun h=>absurd h.1 (by decide)),if_neg (by decide)]);clear Yw;go_wp2;go_end0;exact⟨rfl,nv,rv,by rw[rP.out,HM.out];exact H2,T2⟩
theorem bU {w:World}{m gq cap:Nat}{Z:List Nt}(o:Bz cN 104 3 w m (.slice (some ⟨gq,0,none⟩) Z.length cap) Z){x:Nt}{r:List Nt}(hz:Z=x::r):∀j u,(r.flatMap cN)[j]? = some u->w.cell? ((⟨gq,3,none⟩:Addr).add j)=some u:=by
 subst hz;intro j u hj
 have hl:(r.flatMap cN).length=r.length*3:=by
  clear hj o
  induction r with
  |nil=>rfl
  |cons y t ih=>rw[List.flatMap_cons,List.length_append,ih,D5,List.length_cons];omega
 have hjl:j<r.length*3:=by rw[<-hl];exact (List.getElem?_eq_some_iff.1 hj).1
 have h1:=World.ownsRow.cellAt o (3+j) (by rw[List.length_cons];omega);have e:(⟨gq,3,none⟩:Addr).add j=⟨gq,3+j,none⟩:=by simp[Addr.add]
 rw[e,h1,List.flatMap_cons,List.getElem?_append_right (by rw[D5];omega),D5];rw[show 3+j-3=j by omega];exact hj
theorem kF (r:List Nt):∀u∈r.flatMap cN,u.oneCell'=true:=fun u hu=>by
 obtain⟨x,_,hx⟩:=List.mem_flatMap.1 hu;simp only[cN,List.mem_cons,List.not_mem_nil,or_false] at hx;rcases hx with rfl|rfl|rfl<;>rfl
theorem kE (r:List Nt):(r.flatMap cN).length=r.length*3:=by
 induction r with
 |nil=>rfl
 |cons y t ih=>rw[List.flatMap_cons,List.length_append,ih,D5,List.length_cons];omega
theorem JL (w:World)(m D:Nat)(v:BV)(nv rv:List Value)(bs N:Nat)(AA:List (List Dd))(b:Bd)(n c:Nat)(x:Nt)(r:List Nt)(h:AU w m D v nv rv bs N AA b)(S:Dc AA b n)(hn:n<=1000)(hc:c<AA.length)(hz:b.AG.getD c []=x::r)(hx:0<=x.1/\x.1<=2):
  Calls Tryz.prog 53 #[.pointer (some ⟨D,0,none⟩),.int .i64 (10+(c:Int))] w fun e w'=>e = .returned (.tuple #[])/\∃nv' rv',AU w' m D v nv' rv' bs N AA (BA b c)/\Aj w w' (Bp D v nv rv) (Bp D v nv' rv'):=by
 obtain⟨i0,hi,hz0,hz1,hz2⟩:=info_parts Tryz.nC;have hd3:AA.length<=3:=(Ay S.work).1;have hcn:c<b.AG.length:=by rw[S.AG];exact hc
 have hcv:c<nv.length:=by rw[h.ln];exact hcn
 have HM:Hid (BA b c=Dq { b with AG:=b.AG.set c r } x.1.toNat x.2.1 x.2.2):=Lib.hid (by unfold BA;rw[hz]);have hlr:r.length<=n:=by have:=S.nl c;rw[hz] at this;simp at this;omega
 have SL:=S.less c r hlr;obtain⟨vW,vP,vL,vN,vX,vS,vF,vR⟩:=v;obtain⟨aN,Mf,eN,hN⟩:=h.hN;rcases hN with h0|⟨gn,rfl,qQ,dn⟩
 . exfalso;rw[h0] at hcn;simp at hcn
 simp only at eN;subst eN;have oq:=h.oN hcn;rw[hz] at oq
 obtain⟨gq,cq,hq,lgq⟩:∃gq cq,nv.getD c AE = .slice (some ⟨gq,0,none⟩) (x::r).length cq/\gq<w.heap.size:=by
  have hlt:=World.ownsRow.lt oq;rcases oq.2 with ⟨_,hz'⟩|⟨g,cap,cur,e,_⟩
  . simp at hz'
  . exact⟨g,cap,e,(hlt g (by rw[e];rfl)).2⟩
 have uw:(x::r).length<=cq:=by
  rcases oq.2 with ⟨_,hz'⟩|⟨g,cap,cur,e,_,_,hcap,_⟩
  . simp at hz'
  ·
   rw[hq] at e;simp only[Value.slice.injEq,true_and] at e;rw[e.2];exact hcap
 rw[hq] at oq;have HQ:=Lib.hid hq;have d3:=dn c hcn;rw[hq] at d3;have c3:w.cell? ⟨D,3,none⟩=some (.slice (some ⟨gn,0,none⟩) b.AG.length Mf):=h.cells.2.2.2.1;obtain⟨x0,x1,x2⟩:=x;have q0:w.cell? ⟨gq,0,none⟩=some (.int .i64 x0):=World.ownsRow.cellAt oq 0 (by simp);have q1:w.cell? ⟨gq,1,none⟩=some (.int .i64 x1):=World.ownsRow.cellAt oq 1 (by simp;omega);have q2:w.cell? ⟨gq,2,none⟩=some (.int .i64 x2):=World.ownsRow.cellAt oq 2 (by simp;omega);simp only at hx;obtain⟨p,rfl⟩:=Int.eq_ofNat_of_zero_le hx.1;have hp3:p<3:=by omega
 have hbase:=h.base;have i1:IntKind.i64.wrap (10+(c:Int)-10)=(c:Int):=by rw[IntKind.wrap_i64];omega
 have i2:(0:Int)<=(c:Int):=Int.natCast_nonneg _;have i3:(c:Int)<(b.AG.length:Int):=by omega
 have i4:(10:Int)<=10+(c:Int):=by omega
 have i5:((r.length+1:Nat):Int)=(r.length:Int)+1:=by omega
 have RC:=Lib.hid (bU oq rfl);clear dn hq hz;go_enter Tryz.func53,Tryz.ntmps53
 go_upto_region 3 with fail
 obtain⟨wN,wG⟩:∃W:World,W=w.alloc (.cells #[.int .i64 (p:Int),.int .i64 x1,.int .i64 x2] 104):=⟨_,rfl⟩;have kN:AC w wN:=by rw[wG];exact (AC.refl w).alloc _
 have lN:w.heap.size<wN.heap.size:=by rw[wG,AD];omega
 have BX:Hid (∀W:World,AC wN W->W.cell? ⟨w.heap.size,0,none⟩=some (.int .i64 (p:Int))/\W.cell? ⟨w.heap.size,1,none⟩=some (.int .i64 x1)/\W.cell? ⟨w.heap.size,2,none⟩=some (.int .i64 x2)):=Lib.hid (by
  rw[wG]
  exact fun W k=>⟨AZ k 0,AZ k 1,AZ k 2⟩)
 rw[<-wG];clear wG;have NB:¬Bp D ⟨vW,vP,vL,.slice (some ⟨gn,0,none⟩) b.AG.length Mf,vX,vS,vF,vR⟩ nv rv w.heap.size:=fun hB=>by have:=(h.blk _ hB).2.1;omega
 have H1:=(h.keep kN).drew;have T1:=((Aj.refl w (Bp D ⟨vW,vP,vL,.slice (some ⟨gn,0,none⟩) b.AG.length Mf,vX,vS,vF,vR⟩ nv rv)).keep kN).keep (AC.refl wN).drew;have kA:AC w (wN.drew.alloc (.cells #[] 104)):=((kN.drew).alloc _);have OE:(wN.drew.alloc (.cells #[] 104)).ownsRow m 104 3 (.slice (some ⟨wN.heap.size,0,none⟩) 0 0) 0 []:=World.ownsRow_lit wN.drew #[] 0 (by have:=H1.base;omega) (by decide) (by simp);have s3:m<=(wN.drew.alloc (.cells #[] 104)).heap.size:=by have:=(H1.keep ((AC.refl _).alloc (.cells #[] 104))).base;omega
 have NW:∀j u,(r.flatMap cN)[j]? = some u->(wN.drew.alloc (.cells #[] 104)).cell? ((⟨gq,3,none⟩:Addr).add j)=some u:=fun j u hj=>by
  have:=RC.out j u hj;have e:(⟨gq,3,none⟩:Addr).add j=⟨gq,3+j,none⟩:=by simp[Addr.add]
  rw[e] at this ⊢;exact (kA.cell lgq).trans this
 have c4:wN.drew.cell? ⟨D,3,none⟩=some (.slice (some ⟨gn,0,none⟩) b.AG.length Mf):=(kN.cell hbase.2).trans c3;have c5:(wN.drew.alloc (.cells #[] 104)).cell? ⟨D,3,none⟩=some (.slice (some ⟨gn,0,none⟩) b.AG.length Mf):=(kA.cell hbase.2).trans c3;have c4w:wN.cell? ⟨D,3,none⟩=some (.slice (some ⟨gn,0,none⟩) b.AG.length Mf):=c4;have c5w:(wN.alloc (.cells #[] 104)).cell? ⟨D,3,none⟩=some (.slice (some ⟨gn,0,none⟩) b.AG.length Mf):=c5;have zD:D<wN.heap.size:=Nat.lt_of_lt_of_le hbase.2 kN.size
 have oZ:Hid (∀(u:Value) (w5:World),w5.ownsRow m 104 3 u (0+r.length) ([]++r.flatMap cN)->World.grownBy (wN.drew.alloc (.cells #[] 104)) w5 (some wN.heap.size)->(u.ownBlock=some wN.heap.size\/u.ownBlock=some (wN.drew.alloc (.cells #[] 104)).heap.size) ->
   (∃a' c',u = .slice a' r.length c')/\w5.cell? ⟨D,3,none⟩=some (.slice (some ⟨gn,0,none⟩) b.AG.length Mf)/\w5.cell? ⟨gn,c,none⟩=some (.slice (some ⟨gq,0,none⟩) (r.length+1) cq)/\w5.frozen? ⟨gn,c,none⟩=false /\
   ∃nv',AU (w5.setCell ⟨gn,c,none⟩ u) m D ⟨vW,vP,vL,.slice (some ⟨gn,0,none⟩) b.AG.length Mf,vX,vS,vF,vR⟩ nv' rv bs N AA { b with AG:=b.AG.set c r }/\Aj w (w5.setCell ⟨gn,c,none⟩ u) (Bp D ⟨vW,vP,vL,.slice (some ⟨gn,0,none⟩) b.AG.length Mf,vX,vS,vF,vR⟩ nv rv) (Bp D ⟨vW,vP,vL,.slice (some ⟨gn,0,none⟩) b.AG.length Mf,vX,vS,vF,vR⟩ nv' rv) /\
    (w5.setCell ⟨gn,c,none⟩ u).cell? ⟨w.heap.size,0,none⟩=some (.int .i64 (p:Int))/\(w5.setCell ⟨gn,c,none⟩ u).cell? ⟨w.heap.size,1,none⟩=some (.int .i64 x1)/\(w5.setCell ⟨gn,c,none⟩ u).cell? ⟨w.heap.size,2,none⟩=some (.int .i64 x2)):=Lib.hid (fun u w5 hown hgrow hblk=>by
  rw[Nat.zero_add,List.nil_append] at hown;have kw:AC wN.drew w5:=((AC.refl wN.drew).alloc (.cells #[] 104)).grown hgrow (fun k hk=>by have:=Option.some.inj hk;show wN.heap.size<=k;omega)
  have hnew:∀k,u.ownBlock=some k->wN.drew.heap.size<=k:=fun k hk=>by
   rcases hblk with e|e
   . rw[e] at hk;have:=Option.some.inj hk;show wN.heap.size<=k;omega
   . rw[e,AD] at hk;have:=Option.some.inj hk;omega
  obtain⟨HO,hcell,hfr⟩:=H1.jg hcn (u:=u) (ns:=r) kw hnew hown rfl;rw[HQ.out] at hcell;obtain⟨a',c',e',-⟩:=Bz.shape (show Bz cN 104 3 w5 m u r from hown) |>.elim (fun a h=>h.elim (fun c e=>(⟨a,c,e,trivial⟩:∃a c,u = .slice a r.length c/\True)));have hb5:=H1.base.2;have wR:gn≠w.heap.size:=fun e=>NB ⟨.AG,trivial,by show some gn=_;rw[e]⟩
  have bx:=BX.out w5 (((AC.refl wN).drew).trans kw);have far:∀j,(w5.setCell ⟨gn,c,none⟩ u).cell? ⟨w.heap.size,j,none⟩=w5.cell? ⟨w.heap.size,j,none⟩:=fun j=>World.cell?_of_block (heap_setCell_other w5 ⟨gn,c,none⟩ w.heap.size _ (fun e=>wR e.symm))
  refine⟨⟨a',c',e'⟩,(kw.cell hb5).trans c4,hcell,hfr,nv.set c u,HO,?_,(far 0).trans bx.1,(far 1).trans bx.2.1,(far 2).trans bx.2.2⟩;refine ((T1.keep kw).grown (Ae _ gn c _) (fun g hg=>⟨.AG,trivial,hg⟩)).more (fun g hg=>?_);rcases M6 hcv hg with h1|h1
  . exact .inl h1
  ·
   have:=hnew g h1;have:wN.heap.size<=g:=this
   right;omega)
 have m1:0+r.length<=maxLen:=by unfold maxLen;omega
 have m2:(0+r.length)*24<=140737488355328:=by omega
 have j1:(1:Int)<=(r.length:Int)+1:=by omega
 have j2:(1:Int)<=(cq:Int):=by simp at uw;omega
 have QAA:r.length+1<=cq:=by simpa using uw
 have ONE:=kF r;have NL:=kE r;clear H1 T1 kA RC oq q0 q1 q2 c3 d3 h kN;by_cases hq1:cq=1
 ·
  have hr0:r.flatMap cN=[]:=by
   have:r.length=0:=by omega
   rw[List.eq_nil_of_length_eq_zero this];rfl
  replace NW:∀j u,(r.flatMap cN)[j]? = some u->(wN.drew.alloc (.cells #[] 104)).cell? ((⟨gq,0,none⟩:Addr).add j)=some u:=fun j u hj=>by rw[hr0] at hj;simp at hj
  clear hr0 j2;go_wp2_with fail
  go_region_law ((refine Dw rfl (.tmp 29) (.tmp 31) 101 rfl m 104 i0 (.agg #[.int .i64 0,.int .i64 0,.int .i64 0]) 3 24 Tryz.underlying101 hi hz0 hz1 hz2 rfl (by decide) (.slice (some ⟨wN.heap.size,0,none⟩) 0 0) 0 [] rfl OE ⟨gq,0,none⟩ r.length 0 (r.flatMap cN) rfl NL NW ONE m1 m2 s3 ?_;intro u w5 hown5 hgrow hblk;obtain⟨⟨a',c',rfl⟩,hc3,hcell,hfr,HO⟩:=oZ.out u w5 hown5 hgrow hblk;have HO:=Lib.hid HO;clear hown5 hgrow hblk))
  all_goals
   clear oZ;obtain⟨nv',H6,T6,b0,b1,b2⟩:=HO.out;clear HO hcell hfr hc3 c4 c5 c4w c5w;go_wp2_with fail
   refine (Gf _ m D _ nv' rv bs N AA _ p x1 x2 H6 (by rw[SL.AM];exact hp3) (by rw[SL.AQ];exact hp3) (by rw[SL.rws];exact hp3) (by have:=SL.rl p;omega)).mono ?_;rintro e w7 ⟨rfl,rv',H7,T7⟩;go_wp2
   (try simp only[Exit.inBlock,Exit.then])
   refine bodyPost_ret (results_none rfl _ _ _) rfl ?_;exact⟨rfl,nv',rv',by rw[HM.out];exact H7,T6.trans T7⟩
 ·
  go_wp2_with fail
  go_region_law ((refine Dw rfl (.tmp 29) (.tmp 31) 101 rfl m 104 i0 (.agg #[.int .i64 0,.int .i64 0,.int .i64 0]) 3 24 Tryz.underlying101 hi hz0 hz1 hz2 rfl (by decide) (.slice (some ⟨wN.heap.size,0,none⟩) 0 0) 0 [] rfl OE ⟨gq,3,none⟩ r.length (cq-1) (r.flatMap cN) rfl NL NW ONE m1 m2 s3 ?_;intro u w5 hown5 hgrow hblk;obtain⟨⟨a',c',rfl⟩,hc3,hcell,hfr,HO⟩:=oZ.out u w5 hown5 hgrow hblk;have HO:=Lib.hid HO;clear hown5 hgrow hblk))
  all_goals
   clear oZ;obtain⟨nv',H6,T6,b0,b1,b2⟩:=HO.out;clear HO hcell hfr hc3 c4 c5 c4w c5w;go_wp2_with fail
   refine (Gf _ m D _ nv' rv bs N AA _ p x1 x2 H6 (by rw[SL.AM];exact hp3) (by rw[SL.AQ];exact hp3) (by rw[SL.rws];exact hp3) (by have:=SL.rl p;omega)).mono ?_;rintro e w7 ⟨rfl,rv',H7,T7⟩;go_wp2
   (try simp only[Exit.inBlock,Exit.then])
   refine bodyPost_ret (results_none rfl _ _ _) rfl ?_;exact⟨rfl,nv',rv',by rw[HM.out];exact H7,T6.trans T7⟩
theorem jc {AA:List (List Dd)}{es:List Ev}{g:Int}{c k:Nat}{b:Bd}(h:g=0\/Ap (Ai AA es b c) c=(AA.getD c []).length\/BS AA c (Ap (Ai AA es b c) c)≠g):Ea AA es g c (k+1) b=Ai AA es b c:=by rw[Ea,if_pos h]
theorem jb {AA:List (List Dd)}{es:List Ev}{g:Int}{c k:Nat}{b:Bd}(h:¬(g=0\/Ap (Ai AA es b c) c=(AA.getD c []).length\/BS AA c (Ap (Ai AA es b c) c)≠g)):Ea AA es g c (k+1) b=Ea AA es g c k (Ai AA es b c):=by rw[Ea,if_neg h]
theorem kK {AA:List (List Dd)}{es:List Ev}{c k:Nat}{b:Bd}(hc:c<b.AK.length)(h:b.AK.getD c 0=(k:Int)):(Ai AA es b c).AK.getD c 0=((k+1:Nat):Int)/\Ap (Ai AA es b c) c=k+1:=by
 have e:(Ai AA es b c).AK.getD c 0=((k+1:Nat):Int):=by
  show (b.AK.set c (b.AK.getD c 0+1)).getD c 0=_;rw[BK _ _ _ _ hc,if_pos rfl,h];omega
 exact⟨e,by unfold Ap;rw[e,Int.toNat_natCast]⟩
structure yC (AA:List (List Dd))(es:List Ev)(g:Int)(c M n k0:Nat)(b:Bd)(q:Nat)(b':Bd):Prop where
 Yp:Dc AA b' (n+q)
 nx:b'.AK.getD c 0=((k0+q:Nat):Int)
 lt:k0+q<M
 go:Ea AA es g c M b=Ea AA es g c (M-q) b'
theorem Ui (w:World)(m D:Nat)(v:BV)(nv rv:List Value)(bs N:Nat)(AA:List (List Dd))(b:Bd)(n c:Nat)(h:AU w m D v nv rv bs N AA b)(S:Dc AA b n)(hn:n<=500)(hc:c<AA.length)(hx0:0<=b.AK.getD c 0)(hxl:Ap b c<(AA.getD c []).length):
  Calls Tryz.prog 53 #[.pointer (some ⟨D,0,none⟩),.int .i64 (c:Int)] w fun e w'=>e = .returned (.tuple #[])/\∃nv' rv',AU w' m D v nv' rv' bs N AA (Ea AA (AB AA) (BS AA c (Ap b c)) c (AA.getD c []).length b)/\Aj w w' (Bp D v nv rv) (Bp D v nv' rv'):=by
 have hd3:AA.length<=3:=(Ay S.work).1
 have hl5:(AA.getD c []).length<=5:=by
  have:=(Ay S.work).2 c hc;simp only[Fu,Bool.and_eq_true,decide_eq_true_eq] at this;exact this.2
 have hcx:c<b.AK.length:=by rw[S.AK];exact hc
 obtain⟨vW,vP,vL,vN,vX,vS,vF,vR⟩:=v;obtain⟨gx,cx,eX,-,-,-⟩:=h.oX.lit hcx;simp only at eX;subst eX;have mX:=h.ge .AK trivial gx rfl;have hbase:=h.base;obtain⟨k0,hk0⟩:=Int.eq_ofNat_of_zero_le hx0;have hN0:Ap b c=k0:=by unfold Ap;rw[hk0,Int.toNat_natCast]
 rw[hN0] at hxl ⊢;have CN:=Hy w _ AA b c h.rd ⟨hc,S.AK,hx0,by rw[hk0];omega,by omega⟩;have eD:Tx AA b c=Ak AA c k0:=by unfold Tx;rw[hN0,if_pos hxl]
 have eI:Yn AA b c=true:=by unfold Yn;rw[hN0,decide_eq_true hxl]
 rw[eD,eI] at CN;obtain⟨y0,y1,y2,y3,hy⟩:∃y0 y1 y2 y3:Int,Ak AA c k0=(y0,y1,y2,y3):=⟨_,_,_,_,rfl⟩;have hg:BS AA c k0=y3:=by show (Ak AA c k0).2.2.2=y3;rw[hy]
 rw[hy] at CN;rw[hg];have len':∃M,M=(AA.getD c []).length:=⟨_,rfl⟩;obtain⟨M,hM⟩:=len';rw[<-hM] at hxl hl5 ⊢;have HM:=Lib.hid hM;clear hM hg hy eD eI hN0;obtain⟨e0,e1,e2,e3,e4,e5,e6,e7⟩:=h.cells;simp only at e0 e1 e2 e3 e4 e5 e6 e7;have i1:(0:Int)<=(c:Int):=Int.natCast_nonneg _;have i2:(c:Int)<(b.AK.length:Int):=by omega
 have i3:¬((10:Int)<=(c:Int)):=by omega
 go_enter Tryz.func53,Tryz.ntmps53
 go_wp2_with fail
 refine CN.mono ?_;rintro e w1 ⟨rfl,k1⟩;clear e0 e1 e2 e3 e4 e5 e6 e7 CN;go_upto_region 6 with fail
 obtain⟨w2,hw2⟩:∃W:World,W=w1.alloc (.cells #[.int .i64 y0,.int .i64 y1,.int .i64 y2,.int .i64 y3] 65):=⟨_,rfl⟩;have kD:AC w1 w2:=by rw[hw2];exact (AC.refl w1).alloc _
 have lD:w1.heap.size<w2.heap.size:=by rw[hw2,AD];omega
 have BX:Hid (w2.cell? ⟨w1.heap.size,3,none⟩=some (.int .i64 y3)):=Lib.hid (by rw[hw2];exact AZ (AC.refl _) 3);rw[<-hw2];clear hw2;have NB:¬Bp D ⟨vW,vP,vL,vN,.slice (some ⟨gx,0,none⟩) b.AK.length cx,vS,vF,vR⟩ nv rv w1.heap.size:=fun hB=>by have:=(h.blk _ hB).2.1;have:=k1.size;omega
 have H2:=(h.keep k1).keep kD;have T2:=((Aj.refl w (Bp D ⟨vW,vP,vL,vN,.slice (some ⟨gx,0,none⟩) b.AK.length cx,vS,vF,vR⟩ nv rv)).keep k1).keep kD;have I2:yC AA (AB AA) y3 c M n k0 b 0 b:=⟨S,by rw[hk0];rfl,hxl,rfl⟩;have SL:Hid (∀b' q,yC AA (AB AA) y3 c M n k0 b q b'->b'.AK.length=b.AK.length):=Lib.hid (fun b' q I=>by rw[I.Yp.AK,S.AK]);generalize w1.heap.size=BD at *;clear h S hx0 hk0 k1 kD;go_loopw [9] (fun _ wr=>∃(q:Nat) (b':Bd) (nv' rv':List Value),AU wr m D ⟨vW,vP,vL,vN,.slice (some ⟨gx,0,none⟩) b.AK.length cx,vS,vF,vR⟩ nv' rv' bs N AA b'/\yC AA (AB AA) y3 c M n k0 b q b'/\Aj w2 wr (Bp D ⟨vW,vP,vL,vN,.slice (some ⟨gx,0,none⟩) b.AK.length cx,vS,vF,vR⟩ nv rv) (Bp D ⟨vW,vP,vL,vN,.slice (some ⟨gx,0,none⟩) b.AK.length cx,vS,vF,vR⟩ nv' rv')) (fun _ wr=>M-(intOf ((wr.cell? ⟨gx,c,none⟩).getD undef)).toNat)
 case atStart=>exact⟨0,b,nv,rv,H2,I2,Aj.refl _ _⟩
 case round=>
  obtain⟨q,b',nv',rv',H,I,T⟩:=hrel;clear I2;have hlq:=I.lt;have hbl:=SL.out b' q I;have hcx':c<b'.AK.length:=by rw[hbl];exact hcx
  obtain⟨gx',cx',vI,-,dX,-⟩:=H.oX.lit hcx';simp only[Value.slice.injEq,Option.some.injEq,Addr.mk.injEq,and_true] at vI;obtain⟨rfl,-,rfl⟩:=vI;have d0:=dX c hcx';rw[I.nx] at d0;obtain⟨kq,hkq⟩:∃kq,kq=k0+q:=⟨_,rfl⟩;rw[<-hkq] at d0 hlq;have zK:=Lib.hid hkq;have wL:b'.AK.getD c 0=(kq:Int):=by rw[I.nx,hkq]
  have CD:=Si wr m D _ nv' rv' bs N AA b' (n+q) c kq H I.Yp (by omega) hc (by rw[<-HM.out];exact hlq);have c4:wr.cell? ⟨D,4,none⟩=some (.slice (some ⟨gx,0,none⟩) b.AK.length cx):=H.cells.2.2.2.2.1;have M0:Hid (M-(intOf ((wr.cell? ⟨gx,c,none⟩).getD undef)).toNat=M-kq):=Lib.hid (by rw[d0];simp[intOf]);clear hkq dX;go_wp2_with fail
  refine CD.mono ?_;rintro e w3 ⟨rfl,nv3,rv3,H3,T3⟩;clear CD c4 d0;have hdn:(BH AA (AB AA) b' c kq).AK=b'.AK:=NJ _ _ _ _ _;have hc3:c<(BH AA (AB AA) b' c kq).AK.length:=by rw[hdn];exact hcx'
  obtain⟨gx',cx',vI,lX,dX,fX⟩:=H3.oX.lit hc3;simp only[Value.slice.injEq,Option.some.injEq,Addr.mk.injEq,and_true] at vI;obtain⟨rfl,-,rfl⟩:=vI;have d3:=dX c hc3;rw[hdn,wL] at d3;have f3:=fX c;have c3:w3.cell? ⟨D,4,none⟩=some (.slice (some ⟨gx,0,none⟩) b.AK.length cx):=H3.cells.2.2.2.2.1;have jw:IntKind.i64.wrap ((kq:Int)+1)=(kq:Int)+1:=by rw[IntKind.wrap_i64];omega
  have hON:Hid (Ai AA (AB AA) b' c={ BH AA (AB AA) b' c kq with AK:=(BH AA (AB AA) b' c kq).AK.set c ((kq:Int)+1) }):=Lib.hid (by
   have e:Ap b' c=kq:=by unfold Ap;rw[wL,Int.toNat_natCast]
   rw[Ai,e,wL,hdn])
  have H4:=H3.drew.wh (k:=c) (x:=(kq:Int)+1) (by show Value.slice _ _ _ = .slice _ _ _;rw[hdn,hbl]);rw[<-hON.out] at H4;have T4:=(T3.keep (AC.refl w3).drew).grown (Ae w3.drew gx c (.int .i64 ((kq:Int)+1))) (fun g hg=>⟨.AK,trivial,hg⟩);obtain⟨on1,on2⟩:=kK (AA:=AA) (es:=AB AA) hcx' wL;have S4:=I.Yp.one c;have CN:=Hy _ _ AA _ c H4.rd ⟨hc,S4.AK,by rw[on1];omega,by rw[on1,<-HM.out];omega,by rw[<-HM.out];omega⟩;have eI:Yn AA (Ai AA (AB AA) b' c) c=decide (kq+1<M):=by unfold Yn;rw[on2,HM.out]
  have eD:kq+1<M->Tx AA (Ai AA (AB AA) b' c) c=Ak AA c (kq+1):=fun hh=>by unfold Tx;rw[on2,if_pos (by rw[<-HM.out];exact hh)]
  rw[eI] at CN;have HST:Hid (∀k,(y3=0\/kq+1=M\/BS AA c (kq+1)≠y3)->Ea AA (AB AA) y3 c (k+1) b'=Ai AA (AB AA) b' c):=Lib.hid (fun k hh=>jc (by rw[on2,<-HM.out];exact hh));have HMO:Hid (∀k,¬(y3=0\/kq+1=M\/BS AA c (kq+1)≠y3)->Ea AA (AB AA) y3 c (k+1) b'=Ea AA (AB AA) y3 c k (Ai AA (AB AA) b' c)):=Lib.hid (fun k hh=>jb (by rw[on2,<-HM.out];exact hh));have yG:Hid (Ea AA (AB AA) y3 c M b=Ea AA (AB AA) y3 c (M-q-1+1) b'):=Lib.hid (by rw[I.go];congr 1;have:=zK.out;omega);have NI:Hid (∀(hh:kq+1<M),(Ea AA (AB AA) y3 c (M-q-1+1) b'=Ea AA (AB AA) y3 c (M-q-1) (Ai AA (AB AA) b' c))->yC AA (AB AA) y3 c M n k0 b (q+1) (Ai AA (AB AA) b' c)):=Lib.hid (fun hh e=>⟨S4,by rw[on1,zK.out];congr 1,by have:=zK.out;omega,by rw[yG.out,e];congr 1⟩);have DX:Hid (∀hh:kq+1<M,(Tx AA (Ai AA (AB AA) b' c) c).2.2.2=BS AA c (kq+1)):=Lib.hid (fun hh=>by rw[eD hh])
  have n4:Hid ((w3.drew.setCell ⟨gx,c,none⟩ (.int .i64 ((kq:Int)+1))).cell? ⟨gx,c,none⟩=some (.int .i64 ((kq:Int)+1))):=Lib.hid (by
   obtain⟨g',c',e',-,dd,-⟩:=H4.oX.lit (k:=c) (by show c<(b'.AK.set c _).length;simpa using hcx');simp only[Value.slice.injEq,Option.some.injEq,Addr.mk.injEq,and_true] at e';obtain⟨rfl,-,rfl⟩:=e';have:=dd c (by show c<(b'.AK.set c _).length;simpa using hcx')
   rw[this,on1];rfl)
  generalize Ai AA (AB AA) b' c=b2 at *;generalize Tx AA b2 c=Y at *;clear eD eI dX fX H H3 S4 hON on1 on2 wL;go_upto_region 8 with (first|go_region|fail)
  obtain⟨w4,hw4⟩:∃W:World,W=(w3.setCell ⟨gx,c,none⟩ (.int .i64 ((kq:Int)+1))).drew:=⟨_,rfl⟩;have e4:w3.drew.setCell ⟨gx,c,none⟩ (.int .i64 ((kq:Int)+1))=w4:=by rw[hw4];rfl
  rw[e4] at H4 T4 CN n4;rw[<-hw4];clear hw4 e4 d3 f3 c3
  have NB':¬Bp D ⟨vW,vP,vL,vN,.slice (some ⟨gx,0,none⟩) b.AK.length cx,vS,vF,vR⟩ nv' rv' BD:=fun hB=>by
   rcases T.news BD hB with h1|h1
   . exact NB h1
   . omega
  have g4:w4.cell? ⟨BD,3,none⟩=some (.int .i64 y3):=(T4.cell (Nat.lt_of_lt_of_le lD T.size) NB').trans ((T.cell lD NB).trans BX.out);have lB4:BD<w4.heap.size:=Nat.lt_of_lt_of_le lD (Nat.le_trans T.size T4.size);obtain⟨e0,e1,e2,e3,e4,e5,e6,e7⟩:=H4.cells;simp only at e0 e1 e2 e3 e4 e5 e6 e7;obtain⟨z0,z1,z2,z3⟩:=Y;simp only at DX;go_wp2_with fail
  refine CN.mono ?_;rintro e w5 ⟨rfl,k5⟩;have H6:=(H4.keep k5).keep ((AC.refl w5).alloc (.cells #[.int .i64 z0,.int .i64 z1,.int .i64 z2,.int .i64 z3] 65));have k6:=k5.trans ((AC.refl w5).alloc (.cells #[.int .i64 z0,.int .i64 z1,.int .i64 z2,.int .i64 z3] 65));have TF:=(T2.trans T).trans (T4.keep k6);have TL:=T.trans (T4.keep k6);have g5:=(k5.cell lB4).trans g4;have lB5:BD<w5.heap.size:=Nat.lt_of_lt_of_le lB4 k5.size;have g6:(w5.alloc (.cells #[.int .i64 z0,.int .i64 z1,.int .i64 z2,.int .i64 z3] 65)).cell? ⟨BD,3,none⟩=some (.int .i64 y3):=(((AC.refl w5).alloc _).cell lB5).trans g5;have lx4:gx<w4.heap.size:=block_lt_of_cell n4.out;have n6:=Lib.hid ((k6.cell (b:=gx) (o:=c) lx4).trans n4.out);clear e0 e1 e2 e3 e4 e5 e6 e7 CN H4 n4 g4 g5;by_cases hy0:y3=0
  ·
   have Rm:y3=0\/kq+1=M\/BS AA c (kq+1)≠y3:= .inl hy0;have b0:(y3==0)=true:=by simp[hy0]
   clear hy0;go_wp2
   (try simp only[Exit.inBlock,Exit.then])
   refine bodyPost_ret (results_none rfl _ _ _) rfl ?_;exact⟨rfl,nv3,rv3,by rw[yG.out,HST.out _ Rm];exact H6,TF⟩
  ·
   have b0:(y3==0)=false:=by simp[hy0]
   by_cases hend:kq+1<M
   ·
    have bI:decide (kq+1<M)=true:=decide_eq_true hend;rw[bI];have hz:=DX.out hend;by_cases qJ:z3=y3
    ·
     have HNS:¬(y3=0\/kq+1=M\/BS AA c (kq+1)≠y3):=by
      rintro (h1|h1|h1)
      . exact hy0 h1
      . omega
      . exact h1 (by rw[<-hz];exact qJ)
     have I':=NI.out hend (HMO.out _ HNS);have bz:(z3 != y3)=false:=by simp[qJ]
     have ZZ:z3=y3:=qJ;clear hy0 hz bI qJ ZZ HNS;go_wp2;go_roundw;case rel=>exact⟨q+1,_,nv3,rv3,H6,I',TL⟩
     case measure=>
      rw[M0.out,n6.out];simp only[Option.getD_some,intOf];omega
    ·
     have Rm:y3=0\/kq+1=M\/BS AA c (kq+1)≠y3:= .inr (.inr (by rw[<-hz];exact qJ));have bz:(z3 != y3)=true:=by simpa using qJ
     clear hy0 hz bI qJ;go_wp2
     (try simp only[Exit.inBlock,Exit.then])
     refine bodyPost_ret (results_none rfl _ _ _) rfl ?_;exact⟨rfl,nv3,rv3,by rw[yG.out,HST.out _ Rm];exact H6,TF⟩
   ·
    have Rm:y3=0\/kq+1=M\/BS AA c (kq+1)≠y3:= .inr (.inl (by omega));have bI:decide (kq+1<M)=false:=decide_eq_false hend;rw[bI];clear hy0 bI;go_wp2
    (try simp only[Exit.inBlock,Exit.then])
    refine bodyPost_ret (results_none rfl _ _ _) rfl ?_;exact⟨rfl,nv3,rv3,by rw[yG.out,HST.out _ Rm];exact H6,TF⟩
theorem UO {AA:List (List Dd)}{b:Bd}(h:Ac AA b=true){c:Nat}(hc:c<AA.length){x:Nt}(hx:x∈b.AG.getD c []):0<=x.1/\x.1<=2:=by
 simp only[Ac,Bool.and_eq_true] at h;have:=List.all_eq_true.1 h.2.2.2 c (List.mem_range.2 hc);simp only[UP,Bool.and_eq_true,YB,List.all_eq_true] at this;have:=this.2.2 x hx;simp only[qZ,Bool.and_eq_true,decide_eq_true_eq] at this;exact this.1
theorem MM (w:World)(m D:Nat)(v:BV)(nv rv:List Value)(bs N:Nat)(AA:List (List Dd))(b:Bd)(s:Int)(h:AU w m D v nv rv bs N AA b)(hb:Ac AA b=true)(hs:Hf (Ah AA b) s=true):
  Calls Tryz.prog 53 #[.pointer (some ⟨D,0,none⟩),.int .i64 s] w fun e w'=>e = .returned (.tuple #[])/\∃nv' rv',AU w' m D v nv' rv' bs N AA (Al AA (AB AA) b s)/\Aj w w' (Bp D v nv rv) (Bp D v nv' rv'):=by
 have S:=Dc.of hb;have hd3:AA.length<=3:=(Ay S.work).1;have hm:=Ie hs;unfold Ah at hm;rw[List.mem_append,List.mem_map,List.mem_map] at hm;rcases hm with ⟨c,hc,rfl⟩|⟨c,hc,rfl⟩
 ·
  rw[List.mem_filter,List.mem_range] at hc;have hcan:=hc.2;unfold BU at hcan;simp only[Bool.and_eq_true,decide_eq_true_eq] at hcan
  have e:Al AA (AB AA) b (c:Int)=Ea AA (AB AA) (BS AA c (Ap b c)) c (AA.getD c []).length b:=by
   unfold Al;rw[if_neg (by omega),Int.toNat_natCast]
  rw[e];exact Ui w m D v nv rv bs N AA b 20 c h S (by omega) hc.1 (Fd hb hc.1).1 hcan.1
 ·
  rw[List.mem_filter,List.mem_range] at hc
  have e:Al AA (AB AA) b (10+(c:Int))=BA b c:=by
   unfold Al;rw[if_pos (by omega),show (10+(c:Int)-10).toNat=c by omega]
  rw[e]
  cases hz:b.AG.getD c [] with
  |nil=>rw[hz] at hc;simp at hc
  |cons x r=>
   exact JL w m D v nv rv bs N AA b 20 c x r h S (by omega) hc.1 hz (UO hb hc.1 (by rw[hz];simp))
def LB (AA:List (List Dd))(b:Bd)(s:Int):Bd:=if Hf (Ah AA b) s=true then Al AA (AB AA) b s else b
def GM (AA:List (List Dd))(b:Bd):List (List Dd):=if Ac AA b=true then AA else []
def B6 (AA:List (List Dd))(b:Bd)(s:Int):Bd:=if Ac AA b=true then LB AA b s else Mt
def Hd (AA:List (List Dd))(b:Bd)(s:Int):Bool:=Ac AA b&&Hf (Ah AA b) s
def WM (AA:List (List Dd))(b:Bd)(c:Int):Bool:=decide (0<=c)&&decide (c<(AA.length:Int))&&BU AA b c.toNat
def wm (AA:List (List Dd))(b:Bd)(c:Int):Bd:=if WM AA b c=true then BE AA (AB AA) b c.toNat else b
def nU (AA:List (List Dd))(b:Bd):List (List Dd):=if Ac AA b=true then AA else []
def RA (AA:List (List Dd))(b:Bd)(c:Int):Bd:=if Ac AA b=true then wm AA b c else Mt
abbrev Un (Ar:List (List Int))(i:Nat):Nat:=(Ar.getD i []).length
abbrev TU (V:Nat->Value)(Ar:List (List Int)):List (Value×Nat):=BR 1 V (Un Ar) Ar.length
structure Fw (w:World)(m M:Nat)(v:Value)(Ar:List (List Int)):Prop where
 rd:UD w v Ar
 ex:∃V:Nat->Value,QR w v V Ar.length (CV (TU V Ar))/\(∀i,i<Ar.length->UE (V i) (Un Ar i))/\E5 w (TU V Ar)/\∀x,CV (TU V Ar) x->m<=x.block/\x.block<M
 hd:iU v Ar.length m
theorem Fw.keep {w w':World}{m M:Nat}{v:Value}{Ar:List (List Int)}(h:Fw w m M v Ar)(k:AC w w'):Fw w' m M v Ar:=by
 obtain⟨V,h1,h2,h3,h4⟩:=h.ex;exact⟨h.rd.keep k,⟨V,h1.keep k,h2,h3.keep k,h4⟩,h.hd⟩
theorem Fw.above {w w':World}{m M:Nat}{v:Value}{Ar:List (List Int)}(h:Fw w m M v Ar)(hh:∀q,m<=q->q<w.heap.size->w'.heap[q]? = w.heap[q]?)(hs:w.heap.size<=w'.heap.size):Fw w' m M v Ar:=by
 obtain⟨V,H,hV,L,G⟩:=h.ex;have d:=h.hd;have gr:∀i,i<Ar.length->∀x,D0 (V i) (Un Ar i) x->m<=x.block:=fun i hi x hx=>(G x ⟨(V i,1*Un Ar i),(Ix 1 V (Un Ar) _ _).2 ⟨i,hi,rfl⟩,by rw[Nat.one_mul];exact hx⟩).1
 refine⟨?_,⟨V,?_,hV,⟨fun x hx=>?_,L.ap⟩,G⟩,d⟩
 ·
  obtain⟨a,c,e,hw⟩:=h.rd;refine⟨a,c,e,?_⟩;rcases hw with hw|⟨q,o,rfl,hq,hc⟩
  . exact .inl hw
  ·
   by_cases hz:Ar.length=0
   . exact .inl (List.eq_nil_of_length_eq_zero hz)
   obtain⟨a',c',e',H1⟩:=H;rw[e] at e';simp only[Value.slice.injEq,true_and] at e';obtain⟨rfl,rfl⟩:=e';rcases H1 with H1|⟨q',o',e2,_,H2⟩
   . exact absurd H1 hz
   simp only[Option.some.injEq,Addr.mk.injEq,and_true] at e2;obtain⟨rfl,rfl⟩:=e2;refine .inr ⟨q,o,rfl,Nat.lt_of_lt_of_le hq hs,fun i hi=>?_⟩;obtain⟨vi,h1,h2⟩:=hc i hi;have ev:vi=V i:=by have:=h1.symm.trans (H2 i hi).1;exact Option.some.inj this
   subst ev;exact⟨_,(World.cell?_of_block (a:=⟨q,o+i,none⟩) (hh q (d q o _ _ e (by omega)) hq)).trans h1,FT hh hs h2 (gr i hi)⟩
 ·
  obtain⟨a,c,e,H1⟩:=H;refine⟨a,c,e,?_⟩;rcases H1 with H1|⟨q,o,e2,hq,H2⟩
  . exact .inl H1
  ·
   by_cases hz:Ar.length=0
   . exact .inl hz
   ·
    subst e2;exact .inr ⟨q,o,rfl,Nat.lt_of_lt_of_le hq hs,fun i hi=>⟨(World.cell?_of_block (a:=⟨q,o+i,none⟩) (hh q (d q o _ _ e (by omega)) hq)).trans (H2 i hi).1,(H2 i hi).2⟩⟩
 ·
  have hx2:=L.wb x hx;have hl:=hx2.lt;obtain⟨cur,t,q1,q2⟩:=hx2;exact⟨cur,t,(hh x.block (G x hx).1 hl).trans q1,q2⟩
theorem Jk {V:Nat->Value}{Ar:List (List Int)}{x:Addr}(h:CV (TU V Ar) x):∃i,i<Ar.length/\D0 (V i) (Un Ar i) x:=by
 obtain⟨r,hr,hx⟩:=h;obtain⟨i,hi,rfl⟩:=(Ix 1 V (Un Ar) _ _).1 hr;exact⟨i,hi,by rw[Nat.one_mul] at hx;exact hx⟩
theorem C4.free {w:World}{m:Nat}{v:Value}{hs:List Value}{xss:List (List Int)}(h:C4 28 Bk w m v hs xss):Fw w m w.heap.size v xss:=by
 have o0:(Dp 28 hs v).own w m:=h.Ag.own none trivial;have oi:∀i,i<xss.length->(Bk (xss.getD i []) (hs.getD i AE)).own w m:=fun i hi=>h.Ag.own (some i) (show i<hs.length by rw[h.len];exact hi)
 have ni:∀i,i<xss.length->ED hs.length (some i):=fun i hi=>show i<hs.length by rw[h.len];exact hi
 have bl:∀i,i<xss.length->∀x,D0 (hs.getD i AE) (Un xss i) x->Wb w x/\m<=x.block/\(hs.getD i AE).ownBlock=some x.block:=fun i hi x hx=>Rw.wb (oi i hi) (n:=Un xss i) (by show (xss.getD i []).length<=(xss.getD i []).length*1;omega) hx
 obtain⟨a,c,e,H⟩:=Br o0;refine⟨⟨a,c,by rw[<-h.len];exact e,?_⟩,⟨fun i=>hs.getD i AE,⟨a,c,by rw[<-h.len];exact e,?_⟩,fun i hi=>Rw.Ta (oi i hi),⟨fun x hx=>?_,?_⟩,fun x hx=>?_⟩,?_⟩
 ·
  rcases H with H|⟨g,rfl,hg,hc⟩
  . exact .inl (List.eq_nil_of_length_eq_zero (by rw[<-h.len,H];rfl))
  . exact .inr ⟨g,0,rfl,hg,fun i hi=>⟨_,by rw[Nat.zero_add];exact hc i (by rw[h.len];exact hi),BO.rd (oi i hi)⟩⟩
 ·
  rcases H with H|⟨g,rfl,hg,hc⟩
  . exact .inl (by rw[<-h.len,H];rfl)
  ·
   refine .inr ⟨g,0,rfl,hg,fun i hi=>⟨by rw[Nat.zero_add];exact hc i (by rw[h.len];exact hi),fun hr=>?_⟩⟩;obtain⟨j,hj,hx⟩:=Jk hr;have q:=(bl j hj _ hx).2.2;rcases h.Ag.apart (some j) none (ni j hj) trivial (by simp) with h1|h1
   . rw[show (LI 28 Bk v hs xss (some j)).v=hs.getD j AE from rfl,q] at h1;cases h1
   . exact h1 (by rw[show (LI 28 Bk v hs xss (some j)).v=hs.getD j AE from rfl,q,show (LI 28 Bk v hs xss none).v=v from rfl,e];rfl)
 ·
  obtain⟨i,hi,q⟩:=Jk hx;exact (bl i hi x q).1
 ·
  rw[show TU (fun i=>hs.getD i AE) xss=(List.range xss.length).map (fun i=>(hs.getD i AE,1*Un xss i)) from Lo 1 _ _ _,List.pairwise_map];refine (List.nodup_range (n:=xss.length)).imp_of_mem ?_;intro i j hi hj hne x hx hy;rw[Nat.one_mul] at hx hy;have hi:=List.mem_range.1 hi;have hj:=List.mem_range.1 hj;have q1:=(bl i hi x hx).2.2;have q2:=(bl j hj x hy).2.2;rcases h.Ag.apart (some i) (some j) (ni i hi) (ni j hj) (by simpa using hne) with h1|h1
  . rw[show (LI 28 Bk v hs xss (some i)).v=hs.getD i AE from rfl,q1] at h1;cases h1
  . exact h1 (by rw[show (LI 28 Bk v hs xss (some i)).v=hs.getD i AE from rfl,q1,show (LI 28 Bk v hs xss (some j)).v=hs.getD j AE from rfl,q2])
 ·
  obtain⟨i,hi,q⟩:=Jk hx;have q1:=bl i hi x q;exact⟨q1.2.1,q1.1.lt⟩
 ·
  intro b o l c' e' hn;have:=h.Ag.lt (i:=none) trivial b (by show v.ownBlock=some b;rw[e'];rfl);exact this.1
theorem Ls (V:Nat->Value)(Ar:List (List Int))(c:Nat)(hm:∀i,i<Ar.length->Un Ar i<=c):∀k,k<=Ar.length->DW (BR 1 V (Un Ar) k)<=k*c
 | 0,_=>by simp[BR,DW]
 |k+1,h=>by
  rw[Iy,Nat.add_mul];have h1:=Ls V Ar c hm k (by omega);have h2:=hm k (by omega);omega
section
structure EI (w0 w:World)(P:Nat->Prop)(AA:List (List Dd))(E Sn:List (List Int))(O:List Bd)(ve vs vo:Value)(he hs:List Value)(ho:List BV):Prop where
 low:∀g,P g->w0.heap.size<=g/\g<w.heap.size
 e:GR w P w0.heap.size ve he E
 s:GR w P w0.heap.size vs hs Sn
 o:FA w P w0.heap.size vo ho AA O
 es:∀g,ve.ownBlock=some g->vs.ownBlock≠some g
 eo:∀g,ve.ownBlock=some g->vo.ownBlock≠some g
 so:∀g,vs.ownBlock=some g->vo.ownBlock≠some g
 K:AC w0 w
section
variable {w0 w w':World} {P:Nat->Prop} {AA:List (List Dd)} {E E' Sn Sn':List (List Int)} {O:List Bd} {ve vs vo v':Value} {he hs h':List Value} {ho:List BV}
theorem EI.keep (h:EI w0 w P AA E Sn O ve vs vo he hs ho)(k:AC w w'):EI w0 w' P AA E Sn O ve vs vo he hs ho:=
 ⟨fun g hg=>⟨(h.low g hg).1,Nat.lt_of_lt_of_le (h.low g hg).2 k.size⟩,h.e.kept k.grownBy (by simp),h.s.kept k.grownBy (by simp),h.o.kept k.grownBy (by simp),h.es,h.eo,h.so,h.K.trans k⟩
theorem EI.wide (h:EI w0 w P AA E Sn O ve vs vo he hs ho)(k:AC w w'):EI w0 w' (fun g=>P g\/(w.heap.size<=g/\g<w'.heap.size)) AA E Sn O ve vs vo he hs ho:=by
 have h1:=h.keep k
 have no:∀ {v:Value},(∀g,v.ownBlock=some g->¬P g)->(∀g,v.ownBlock=some g->g<w.heap.size)->∀g,v.ownBlock=some g->¬(P g\/(w.heap.size<=g/\g<w'.heap.size)):=fun q1 q2 g hg hp=>by
  rcases hp with hp|hp
  . exact q1 g hg hp
  . have:=q2 g hg;omega
 refine⟨fun g hg=>?_,h1.e.mono (fun _ => .inl) (no h.e.np (fun g hg=>(h.e.lt g hg).2)),h1.s.mono (fun _ => .inl) (no h.s.np (fun g hg=>(h.s.lt g hg).2)),h1.o.mono (fun _ => .inl) (no h.o.np (fun g hg=>(h.o.lt g hg).2)),h.es,h.eo,h.so,h1.K⟩;rcases hg with hg|hg
 . exact h1.low g hg
 . exact⟨Nat.le_trans h.K.size hg.1,hg.2⟩
theorem Im {v v':Value}{w:World}(hb:v'.ownBlock=v.ownBlock\/∃g,v'.ownBlock=some g/\w.heap.size<=g){u:Value}(ha:∀g,v.ownBlock=some g->u.ownBlock≠some g)(hu:∀g,u.ownBlock=some g->g<w.heap.size):∀g,v'.ownBlock=some g->u.ownBlock≠some g:=fun g hg=>by
 rcases hb with e|⟨q,e,hq⟩
 . exact ha g (e ▸ hg)
 ·
  intro hug;have:=hu g hug;rw[e] at hg;have:=Option.some.inj hg;omega
theorem Ii {u v:Value}(h:∀g,u.ownBlock=some g->v.ownBlock≠some g):∀g,v.ownBlock=some g->u.ownBlock≠some g:=fun g hv hu=>h g hu hv
theorem EI.kU (h:EI w0 w P AA E Sn O ve vs vo he hs ho)(o:GR w' P w0.heap.size v' h' Sn')(hg:w.grownBy w' vs.ownBlock)(hb:v'.ownBlock=vs.ownBlock\/∃g,v'.ownBlock=some g/\w.heap.size<=g):EI w0 w' P AA E Sn' O ve v' vo he h' ho/\Aw P w w':=
 ⟨⟨fun g hp=>⟨(h.low g hp).1,Nat.lt_of_lt_of_le (h.low g hp).2 hg.size⟩,h.e.kept hg (fun g hr=>⟨h.s.np g hr,fun q=>h.es g q hr⟩),o,h.o.kept hg (fun g hr=>⟨h.s.np g hr,fun q=>h.so g hr q⟩),
  Ii (Im hb (Ii h.es) (fun g hv=>(h.e.lt g hv).2)),h.eo,Im hb h.so (fun g hv=>(h.o.lt g hv).2),h.K.grown hg (fun g hr=>(h.s.lt g hr).1)⟩,Aw.DQ hg h.s.np⟩
theorem EI.putE (h:EI w0 w P AA E Sn O ve vs vo he hs ho)(o:GR w' P w0.heap.size v' h' E')(hg:w.grownBy w' ve.ownBlock)(hb:v'.ownBlock=ve.ownBlock\/∃g,v'.ownBlock=some g/\w.heap.size<=g):EI w0 w' P AA E' Sn O v' vs vo h' hs ho/\Aw P w w':=
 ⟨⟨fun g hp=>⟨(h.low g hp).1,Nat.lt_of_lt_of_le (h.low g hp).2 hg.size⟩,o,h.s.kept hg (fun g hr=>⟨h.e.np g hr,fun q=>h.es g hr q⟩),h.o.kept hg (fun g hr=>⟨h.e.np g hr,fun q=>h.eo g hr q⟩),
  Im hb h.es (fun g hv=>(h.s.lt g hv).2),Im hb h.eo (fun g hv=>(h.o.lt g hv).2),h.so,h.K.grown hg (fun g hr=>(h.e.lt g hr).1)⟩,Aw.DQ hg h.e.np⟩
theorem EI.pop {l:List Bd}{b:Bd}(h:EI w0 w P AA E Sn (l++[b]) ve vs vo he hs ho):
  ∃g cap bv,vo = .slice (some ⟨g,0,none⟩) (l.length+1) cap/\l.length+1<=cap/\C7 w P bv AA b/\EI w0 w P AA E Sn l ve vs (.slice (some ⟨g,0,none⟩) l.length cap) he hs (ho.take l.length)/\g<w.heap.size/\∀j,j<8->w.cell? ⟨g,l.length*8+j,none⟩=(cB bv)[j]?:=by
 obtain⟨g,cap,bv,rfl,h1,h2,h3,h4⟩:=h.o.pop;exact⟨g,cap,bv,rfl,h1,h2,⟨h.low,h.e,h.s,h3,h.es,h.eo,h.so,h.K⟩,(h.o.lt g rfl).2,h4⟩
theorem EI.push {b:Bd}{bv:BV}(h:EI w0 w P AA E Sn O ve vs vo he hs ho)(hb:C7 w P bv AA b)(o:w'.ownsRow w0.heap.size 36 8 v' (O.length+1) (ho.flatMap cB++cB bv))(hg:w.grownBy w' vo.ownBlock)(hn:v'.ownBlock=vo.ownBlock\/∃g,v'.ownBlock=some g/\w.heap.size<=g):EI w0 w' P AA E Sn (O++[b]) ve vs v' he hs (ho++[bv])/\Aw P w w':=
 ⟨⟨fun g hp=>⟨(h.low g hp).1,Nat.lt_of_lt_of_le (h.low g hp).2 hg.size⟩,h.e.kept hg (fun g hr=>⟨h.o.np g hr,fun q=>h.eo g q hr⟩),h.s.kept hg (fun g hr=>⟨h.o.np g hr,fun q=>h.so g q hr⟩),
  h.o.push hb o hg (fun g hv hp=>by
   rcases hn with e|⟨q,e,hq⟩
   . exact h.o.np g (e ▸ hv) hp
   ·
    rw[e] at hv;have:=Option.some.inj hv;have:=(h.low g hp).2
    omega),h.es,Ii (Im hn (Ii h.eo) (fun g hv=>(h.e.lt g hv).2)),Ii (Im hn (Ii h.so) (fun g hv=>(h.s.lt g hv).2)),h.K.grown hg (fun g hr=>(h.o.lt g hr).1)⟩,Aw.DQ hg h.o.np⟩
end
structure SG (AA:List (List Dd))(quick:Bool)(E Sn:List (List Int))(O:List Bd):Prop where
 si:SI AA quick ⟨E,Sn,O⟩
 zC:gW AA O
 len:E.length<=Sn.length
theorem qx {AA:List (List Dd)}(hb:AO AA=true)(quick:Bool):SG AA quick [] [] [CM AA]:=⟨qy AA quick,lV hb,Nat.le_refl _⟩
theorem SG.lens {AA:List (List Dd)}{quick:Bool}{E Sn:List (List Int)}{O:List Bd}(h:SG AA quick E Sn O)(hb:AO AA=true):E.length<=1099511627776/\Sn.length<=1099511627776/\O.length<=125:=by
 have h1:=fB hb h.si;have h2:=lU h.zC;have h3:=h.len;have h4:JM<=1099511627776:=by decide
 exact⟨Nat.le_trans h3 (Nat.le_trans h1 h4),Nat.le_trans h1 h4,h2⟩
theorem Ig {l:List Bd}{b:Bd}:(l++[b]).getLast? = some b/\(l++[b]).dropLast=l:=⟨List.getLast?_concat,List.dropLast_concat⟩
theorem SG.old {AA:List (List Dd)}{quick:Bool}{E Sn:List (List Int)}{l:List Bd}{b:Bd}(h:SG AA quick E Sn (l++[b]))(hb:AO AA=true)(hs:Qp Sn (Ck b)=true):SG AA quick E Sn l/\Jv AA l<Jv AA (l++[b]):=by
 have e:Jm AA (AB AA) quick ⟨E,Sn,l++[b]⟩=⟨E,Sn,l⟩:=by
  unfold Jm;simp only[Ig.1,Ig.2,hs,if_true]
 have h1:=VB h.si;have h2:=RZ hb h.si h.zC;have h3:=VN hb h.si (by simp);rw[e] at h1 h2 h3;exact⟨⟨h1,h2,h.len⟩,h3⟩
theorem SG.end {AA:List (List Dd)}{quick:Bool}{E Sn:List (List Int)}{l:List Bd}{b:Bd}(h:SG AA quick E Sn (l++[b]))(hb:AO AA=true)(hs:Qp Sn (Ck b)=false)(he:DN AA b=true):SG AA quick (EE E (As b)) (EE Sn (Ck b)) l/\Jv AA l<Jv AA (l++[b]):=by
 have e:Jm AA (AB AA) quick ⟨E,Sn,l++[b]⟩=⟨EE E (As b),EE Sn (Ck b),l⟩:=by
  unfold Jm;simp only[Ig.1,Ig.2,hs,he,if_true];rfl
 have h1:=VB h.si;have h2:=RZ hb h.si h.zC;have h3:=VN hb h.si (by simp);have h4:=KH (AA:=AA) (es:=AB AA) (quick:=quick) (S:=⟨E,Sn,l++[b]⟩) h.len;rw[e] at h1 h2 h3 h4;exact⟨⟨h1,h2,h4⟩,h3⟩
theorem SG.on {AA:List (List Dd)}{quick:Bool}{E Sn:List (List Int)}{l:List Bd}{b:Bd}(h:SG AA quick E Sn (l++[b]))(hb:AO AA=true)(hs:Qp Sn (Ck b)=false)(he:DN AA b=false):SG AA quick E (EE Sn (Ck b)) (l++Bi AA (AB AA) quick b)/\Jv AA (l++Bi AA (AB AA) quick b)<Jv AA (l++[b]):=by
 have e:Jm AA (AB AA) quick ⟨E,Sn,l++[b]⟩=⟨E,EE Sn (Ck b),l++Bi AA (AB AA) quick b⟩:=by
  unfold Jm;simp only[Ig.1,Ig.2,hs,he];rfl
 have h1:=VB h.si;have h2:=RZ hb h.si h.zC;have h3:=VN hb h.si (by simp);have h4:=KH (AA:=AA) (es:=AB AA) (quick:=quick) (S:=⟨E,Sn,l++[b]⟩) h.len;rw[e] at h1 h2 h3 h4;exact⟨⟨h1,h2,h4⟩,h3⟩
def DE (AA:List (List Dd))(es:List Ev)(quick:Bool)(b:Bd)(i:Nat):List Bd:=
 (((Ah AA b).take i).filter (fun s=>!(quick&&decide (10<=s)))).map (fun s=>if quick=true then BE AA es b s.toNat else Al AA es b s)
theorem Ur (AA:List (List Dd))(es:List Ev)(quick:Bool)(b:Bd):DE AA es quick b (Ah AA b).length=Bi AA es quick b:=by
 unfold DE Bi;rw[List.take_length]
theorem IA (AA:List (List Dd))(es:List Ev)(quick:Bool)(b:Bd){i:Nat}(hi:i<(Ah AA b).length):DE AA es quick b (i+1)=DE AA es quick b i++if (quick&&decide (10<=(Ah AA b).getD i 0))=true then [] else [if quick=true then BE AA es b ((Ah AA b).getD i 0).toNat else Al AA es b ((Ah AA b).getD i 0)]:=by
 unfold DE;rw[GP _ _ hi,List.filter_append,List.map_append]
 congr 1
 by_cases h:(quick&&decide (10<=(Ah AA b).getD i 0))=true
 ·
  rw[if_pos h];simp only[List.filter_cons,h];rfl
 ·
  rw[if_neg h];simp only[Bool.not_eq_true] at h;simp only[List.filter_cons,h];rfl
theorem Nx (AA:List (List Dd))(es:List Ev)(quick:Bool)(b:Bd)(i:Nat):(DE AA es quick b i).length<=i:=by
 unfold DE;rw[List.length_map];exact Nat.le_trans (List.length_filter_le _ _) (by rw[List.length_take];omega)
theorem YJ {AA:List (List Dd)}(hb:AO AA=true)(b:Bd):(Ah AA b).length<=6:=by
 have hl3:=Cz hb;unfold Ah;rw[List.length_append,List.length_map,List.length_map];have h1:=List.length_filter_le (BU AA b) (List.range AA.length);have h2:=List.length_filter_le (fun c=>!(b.AG.getD c []).isEmpty) (List.range AA.length);rw[List.length_range] at h1 h2;omega
end
theorem IV {w:World}{ops:Array Oper}{o:Oper}{a:Act}{K:Act->World->Prop}{Q:Exit->Act->World->Prop}{E:Prop}(hgd:o.guard=none)(s x:Operand)
  (ho:o.op = .call { callee:= .builtin .append,args:=#[s,x],argTypes:=#[28,28] })
  (base:Nat) (v:Value) (zs:List Int) (hs:a.eval s=v) (hown:BO w base v zs)
  (vx:Value) (hx:a.eval x=vx) (ys:List Int) (hr:Rd w vx ys) (hz:zs.length<=1048576) (hy:ys.length<=1048576) (hb:base<=w.heap.size)
  (h:∀v' w',BO w' base v' (zs++ys)->w.grownBy w' v.ownBlock->K (a.put o.dst v') w'):
  if Region.wanted o (yielded ops a.tmps)=true then Oper.wp Tryz.prog o a w K Q else E:=by
 have hw:Region.wanted o (yielded ops a.tmps)=true:=by simp[Region.wanted,hgd]
 rw[if_pos hw];exact Cv s x ho base v zs hs hown vx hx ys hr hz hy hb (fun v' w' h1 h2 _=>h v' w' h1 h2)
theorem ST {l:List (List Nt)}(h:∀n∈l,n.length<=100):(GH l).length<=101*l.length:=by
 induction l with
 |nil=>simp[GH]
 |cons n l ih=>
  have h1:=h n (by simp);have h2:=ih (fun m hm=>h m (List.mem_cons_of_mem _ hm));unfold GH at h2 ⊢;rw[List.flatMap_cons,List.length_append,List.length_cons,List.length_map,List.length_cons];omega
theorem Xh (l:List (List Nt))(k:Nat)(h:k<l.length):GH (l.take (k+1))=GH (l.take k)++-2::(l.getD k []).map (fun x=>x.2.2):=by
 rw[List.take_add_one,List.getD_eq_getElem?_getD,List.getElem?_eq_getElem h];unfold GH;rw[List.flatMap_append];simp
theorem bA (ns:List Nt)(k:Nat)(h:k<ns.length):(ns.take (k+1)).map (fun x=>x.2.2)=(ns.take k).map (fun x=>x.2.2)++[(ns.getD k zN).2.2]:=by
 rw[List.take_add_one,List.getD_eq_getElem?_getD,List.getElem?_eq_getElem h,List.map_append];rfl
theorem WN (w:World)(x:Int):Rd (w.alloc (.cells #[.int .i64 x] 2)) (.slice (some ⟨w.heap.size,0,none⟩) 1 1) [x]:=by
 refine⟨_,_,rfl,.inr ⟨w.heap.size,0,rfl,by rw[AD];omega,fun i hi=>?_⟩⟩;obtain rfl:i=0:=by simp at hi;omega
 rw[cell_of_row _ _ 0 _ _ _ (heap_alloc_new w _)];rfl
theorem Uj (w:World)(v:BV)(AA:List (List Dd))(b:Bd)(h:Cf w v AA b)(hx:b.AK.length<=3)(hl:b.AQ.length<=3)(hs:b.sn.length<=12)(hn:b.AG.length<=3)(hq:∀n∈b.AG,n.length<=100):
  Calls Tryz.prog 77 #[v.agg] w fun e w'=>∃v',e = .returned v'/\BO w' w.heap.size v' (Ck b)/\AC w w':=by
 obtain⟨aW,aP,aL,aN,aX,aS,aF,aR,cW,cP,cL,cN,cX,cS,cF,cR,rfl⟩:=h.shapes;obtain⟨W0,hW0⟩:∃W:World,W=w.alloc (.cells #[.slice aW AA.length cW,.slice aP b.AM.length cP,.slice aL b.AQ.length cL,.slice aN b.AG.length cN,.slice aX b.AK.length cX,.slice aS b.sn.length cS,.slice aF b.fr.length cF,.slice aR b.rws.length cR] 36):=⟨_,rfl⟩;have K0:AC w W0:=by rw[hW0];exact (AC.refl w).alloc _
 have hD:W0.heap[w.heap.size]? = some (.cells #[.slice aW AA.length cW,.slice aP b.AM.length cP,.slice aL b.AQ.length cL,.slice aN b.AG.length cN,.slice aX b.AK.length cX,.slice aS b.sn.length cS,.slice aF b.fr.length cF,.slice aR b.rws.length cR] 36 (0,0)):=by rw[hW0];exact heap_alloc_new _ _
 have s0:w.heap.size<W0.heap.size:=by rw[hW0,AD];omega
 have KD:AC W0 W0.drew:=(AC.refl W0).drew;have c2:W0.drew.cell? ⟨w.heap.size,2,none⟩=some (.slice aL b.AQ.length cL):=by rw[KD.cell s0,cell_of_row _ _ 2 _ _ _ hD];rfl
 have c4:W0.drew.cell? ⟨w.heap.size,4,none⟩=some (.slice aX b.AK.length cX):=by rw[KD.cell s0,cell_of_row _ _ 4 _ _ _ hD];rfl
 have c5:W0.drew.cell? ⟨w.heap.size,5,none⟩=some (.slice aS b.sn.length cS):=by rw[KD.cell s0,cell_of_row _ _ 5 _ _ _ hD];rfl
 have c3:W0.cell? ⟨w.heap.size,3,none⟩=some (.slice aN b.AG.length cN):=by rw[cell_of_row _ _ 3 _ _ _ hD];rfl
 have HX:=Lib.hid (h.X.keep (K0.trans KD));have HL:=Lib.hid (h.L.keep (K0.trans KD));have HS:=Lib.hid (h.S.keep (K0.trans KD));have HN:=h.N.keep K0;clear h hD;go_enter Tryz.func77,Tryz.ntmps77
 go_upto_region 1 with fail
 rw[<-hW0];clear hW0;go_cut [3] from 6 (fun s3 wx=>∃v3,v3=s3/\BO wx W0.heap.size v3 (b.AK++b.AQ++b.sn)/\AC W0 wx)
 case first=>
  clear HN c3;go_wp2
  go_region_law ((first
   | (refine IV rfl (.tmp 11) (.tmp 13) rfl W0.heap.size _ (b.AK++b.AQ) rfl O2 _ rfl b.sn (HS.out.keep zO) (by simp;omega) (by omega) KW2.size ?_;intro v3 w3 O3 g3;have K3:=KW2.grown g3 (fun k hk=>O2.ge k hk);clear g3)
   | (refine IV rfl (.tmp 8) (.tmp 10) rfl W0.heap.size _ b.AK rfl O1 _ rfl b.AQ (HL.out.keep tQ) (by omega) (by omega) KW1.size ?_;intro v2 w2 O2 g2;have zO:=tQ.grown g2 (fun k hk=>by have:=O1.ge k hk;rw[BL];exact this);have KW2:=KD.trans zO;have c5'':=(zO.cell (by rw[BL];exact s0)).trans c5;clear g2)
   | (go_simp;refine (DZ _ _ b.AK HX.out (by omega)).mono ?_;rintro e w1 ⟨v1,rfl,O1,tQ⟩;have KW1:=KD.trans tQ;have c2':=(tQ.cell (by rw[BL];exact s0)).trans c2;have c5':=(tQ.cell (by rw[BL];exact s0)).trans c5)))
  all_goals
   go_wp2;go_meet;exact⟨_,rfl,O3,K3⟩
 case rest=>
  obtain⟨v3,rfl,O3,K3⟩:=hcut;clear c2 c4 c5 HX HL HS KD;obtain⟨a',c',he',hN⟩:=HN;simp only[Value.slice.injEq,true_and] at he';obtain⟨rfl,rfl⟩:=he';obtain⟨A,hA⟩:∃A,A=b.AK++b.AQ++b.sn:=⟨_,rfl⟩;have hA15:A.length<=18:=by rw[hA];simp;omega
  have HK:Hid (Ck b=A++GH b.AG):=Lib.hid (by rw[hA];rfl);rw[<-hA] at O3;clear hA hx hl hs;have HQ:=Lib.hid hq;clear hq;go_wp2;go_loopw [3,4,5] (fun s3 s4 _ wr=>∃(i:Nat) (v:Value),v=s3/\i<=b.AG.length/\s4 = .int .i64 (i:Int)/\BO wr W0.heap.size v (A++GH (b.AG.take i))/\AC W0 wr) (fun _ s4 _ _=>b.AG.length-(intOf s4).toNat)
  case atStart=>exact⟨0,_,rfl,Nat.zero_le _,rfl,by simpa [GH] using O3,K3⟩
  case round=>
   obtain⟨i,v,rfl,hi,rfl,ho,hK⟩:=hrel;clear O3 K3;have d3:=(hK.cell s0).trans c3;by_cases hlt:i<b.AG.length
   ·
    rcases hN with h0|⟨bn,on,rfl,hbn,hcn⟩
    . exfalso;rw[h0] at hlt;simp at hlt
    obtain⟨vi,e1,rn⟩:=hcn i hlt;obtain⟨ai,ci,rfl,rn⟩:=rn;have hml:=HQ.out (b.AG.getD i []) (by rw[List.getD_eq_getElem?_getD,List.getElem?_eq_getElem hlt];exact List.getElem_mem hlt);have hfl:=ST (l:=b.AG.take i) (fun n hn=>HQ.out n (List.mem_of_mem_take hn));rw[List.length_take,Nat.min_eq_left hi] at hfl;have HF:=Lib.hid (Xh b.AG i hlt);obtain⟨Fi,yj⟩:∃F,F=A++GH (b.AG.take i):=⟨_,rfl⟩;have hFl:Fi.length<=400:=by rw[yj,List.length_append];omega
    rw[<-yj] at ho;have HFI:=Lib.hid yj;clear yj hfl hcn;have OM:=Lib.hid (WN wr (-2));go_wp2_with (at_builtin;refine A6 rfl _ _ rfl W0.heap.size _ Fi rfl (ho.keep ((AC.refl wr).alloc _)) _ rfl [-2] OM.out (by omega) (by simp) (by rw[AD];have:=hK.size;omega) ?_)
    intro v5 w5 o5 g5 _;have K5:=(hK.alloc (.cells #[.int .i64 (-2)] 2)).grown g5 (fun k hk=>ho.ge k hk);clear g5 ho OM;generalize b.AG.getD i []=ns at *;go_wp2;go_loopw [3,5] (fun s3 s5 wq=>∃(k:Nat) (v:Value),v=s3/\k<=ns.length/\s5 = .int .i64 (k:Int)/\BO wq W0.heap.size v (Fi++[-2]++(ns.take k).map (fun x=>x.2.2))/\AC W0 wq) (fun _ s5 _=>ns.length-(intOf s5).toNat)
    case atStart=>exact⟨0,_,rfl,Nat.zero_le _,rfl,by simpa using o5,K5⟩
    case round=>
     obtain⟨k,v,rfl,hk,rfl,ho,hq2⟩:=hrel;have d3':=(hq2.cell s0).trans c3;have e1':=(hq2.cell hbn).trans e1;by_cases hlk:k<ns.length
     ·
      rcases rn with h0|⟨bb,oo,rfl,hbb,hcb⟩
      . exfalso;rw[h0] at hlk;simp at hlk
      have g2:=(hq2.cell hbb).trans (yY (hcb k _ (Kn hlk))).2.2;have HM:=Lib.hid (bA ns k hlk);generalize (ns.getD k zN).2.2=ev at g2 HM;obtain⟨Gk,yo⟩:∃F,F=Fi++[-2]++(ns.take k).map (fun x=>x.2.2):=⟨_,rfl⟩;have hGl:Gk.length<=600:=by rw[yo];simp;omega
      rw[<-yo] at ho;have HGK:=Lib.hid yo;clear yo hcb;have j1:(0:Int)<=(k:Int):=Int.natCast_nonneg _;have j2:(k:Int)<(ns.length:Int):=by omega
      have i1:(0:Int)<=(i:Int):=Int.natCast_nonneg _;have i2:(i:Int)<(b.AG.length:Int):=by omega
      have OM:=Lib.hid (WN wr ev);go_wp2_with (at_builtin;refine A6 rfl _ _ rfl W0.heap.size _ Gk rfl (ho.keep ((AC.refl wr).alloc _)) _ rfl [ev] OM.out (by omega) (by simp) (by rw[AD];have:=hq2.size;omega) ?_)
      intro v6 w6 o6 g6 _;have K6:=(hq2.alloc (.cells #[.int .i64 ev] 2)).grown g6 (fun k hk=>ho.ge k hk);clear g6 ho OM;go_wp2;go_roundw;case rel=>exact⟨k+1,_,rfl,by omega,by go_num,by rw[HM.out,<-List.append_assoc,<-HGK.out];exact o6,K6⟩
      case measure=>simp[intOf];omega
     ·
      obtain rfl:k=ns.length:=by omega
      rw[List.take_length] at ho;have i1:(0:Int)<=(i:Int):=Int.natCast_nonneg _;have i2:(i:Int)<(b.AG.length:Int):=by omega
      go_wp2;go_roundw;case rel=>exact⟨i+1,_,rfl,by omega,by go_num,by rw[HF.out,<-List.append_assoc,<-HFI.out];simpa using ho,hq2⟩
      case measure=>simp[intOf];omega
   ·
    obtain rfl:i=b.AG.length:=by omega
    rw[List.take_length,<-HK.out] at ho;go_wp2;go_ret;exact⟨_,rfl,ho.BM (by omega),K0.trans hK⟩
end Go.Proofs.YtnmelakgmgenjaaGreat
