/- Gathered texts. -/
import Derived.OwnWalk
import Derived.Deep.QuietTactic
import Derived.BigQuiet
import Derived.Deep.Cut
import Derived.Test.YtnmelakgmgenjaaGreatMM
import Derived.Deep.RegionHeld3
import Derived.Deep.AppendLies
import Derived.BigRegion
import Derived.RegionTactic
import Derived.Lib.Hide
import Derived.Outline
set_option maxRecDepth 100000
set_option maxHeartbeats 8000000
namespace Go.Proofs.YtnmelakgmgenjaaGreat
open Go.ChangeShapes Go.WideShapes Go.ChangeAt Go.RowKit
theorem Zw {ns:List Nt}{p:Int}{j:Nat}(hj:j<ns.length)(hno:∀q,j<q->q<ns.length->(ns.getD q (0,0,0)).1≠p)(he:(ns.getD j (0,0,0)).1=p):ns.reverse.find? (fun x=>x.1==p)=some (ns.getD j (0,0,0)):=by
 have e:ns=ns.take j++(ns.getD j (0,0,0)::ns.drop (j+1)):=by
  rw[List.getD_eq_getElem?_getD,List.getElem?_eq_getElem hj];show ns=ns.take j++ns[j]::ns.drop (j+1);rw[<-List.drop_eq_getElem_cons hj,List.take_append_drop]
 have hd:(ns.drop (j+1)).reverse.find? (fun x=>x.1==p)=none:=by
  rw[List.find?_eq_none];intro x hx;rw[List.mem_reverse] at hx;obtain⟨i,hi,ei⟩:=List.getElem_of_mem hx;rw[List.length_drop] at hi;have:=hno (j+1+i) (by omega) (by omega);rw[List.getElem_drop] at ei;rw[List.getD_eq_getElem?_getD,List.getElem?_eq_getElem (by omega)] at this;simp only[Option.getD_some] at this;rw[ei] at this
  simpa using this
 conv=>lhs;rw[e]
 rw[List.reverse_append,List.reverse_cons,List.append_assoc,List.find?_append,hd];generalize ns.getD j (0,0,0)=y at he ⊢;have hy:(y.1==p)=true:=by simp[he]
 simp[hy]
theorem Zx {ns:List Nt}{p:Int}(hno:∀q,q<ns.length->(ns.getD q (0,0,0)).1≠p):ns.reverse.find? (fun x=>x.1==p)=none:=by
 rw[List.find?_eq_none];intro x hx;rw[List.mem_reverse] at hx;obtain⟨i,hi,ei⟩:=List.getElem_of_mem hx;have:=hno i hi;rw[List.getD_eq_getElem?_getD,List.getElem?_eq_getElem hi] at this;simp only[Option.getD_some] at this;rw[ei] at this
 simpa using this
theorem M6 (w:World)(v:BV)(AA:List (List Dd))(b:Bd)(c p:Nat)(h:CV w v AA b)(hc:c<b.AG.length)(hp:p<b.AM.length)(hq:p<b.AO.length)(hn:(b.AG.getD c []).length<=1048576):
  Calls Tryz.prog 109 #[v.agg,.int .i64 c,.int .i64 p] w fun e w'=>e = .returned (.tuple #[.int .i64 (Ct b c p).1,.int .i64 (Ct b c p).2])/\AC w w':=by
 obtain⟨aW,aP,aL,aN,aX,aS,aF,aR,cW,cP,cL,cN,cX,cS,cF,cR,rfl⟩:=h.shapes;have KW:AC w (w.alloc (.cells #[.slice aW AA.length cW,.slice aP b.AM.length cP,.slice aL b.AO.length cL,.slice aN b.AG.length cN,.slice aX b.AL.length cX,.slice aS b.sn.length cS,.slice aF b.fr.length cF,.slice aR b.rws.length cR] 36)):=(AC.refl w).alloc _;have h':=h.keep KW;obtain⟨a',c',he',hN⟩:=h'.N;simp only[Value.slice.injEq,true_and] at he';obtain⟨rfl,rfl⟩:=he';rcases hN with h0|⟨bn,on,rfl,hbn,hcn⟩
 . exfalso;rw[h0] at hc;simp at hc
 obtain⟨a',c',he',hP⟩:=h'.P;simp only[Value.slice.injEq,true_and] at he';obtain⟨rfl,rfl⟩:=he';rcases hP with h0|⟨bp,op,rfl,hbp,hcp⟩
 . exfalso;rw[h0] at hp;simp at hp
 obtain⟨a',c',he',hL⟩:=h'.L;simp only[Value.slice.injEq,true_and] at he';obtain⟨rfl,rfl⟩:=he';rcases hL with h0|⟨bl,ol,rfl,hbl,hcl⟩
 . exfalso;rw[h0] at hq;simp at hq
 obtain⟨vn,d3,r3⟩:=hcn c hc;have d1:=hcp p hp;have d2:=hcl p hq;have HS:Hid (∀x,(b.AG.getD c []).reverse.find? (fun x=>x.1==(p:Int))=some x->Ct b c p=x.2):=Lib.hid (fun x e=>by unfold Ct;rw[e]);have HZ:Hid ((b.AG.getD c []).reverse.find? (fun x=>x.1==(p:Int))=none->Ct b c p=(b.AM.getD p 0,b.AO.getD p 0)):=Lib.hid (fun e=>by unfold Ct;rw[e]);obtain⟨an,cn,rfl,r3⟩:=r3;generalize b.AG.getD c []=ns at *;generalize b.AM.getD p 0=xp at d1 HZ;generalize b.AO.getD p 0=xl at d2 HZ;generalize Ct b c p=ANS at HS HZ ⊢;have j1:(0:Int)<=(c:Int):=Int.natCast_nonneg _;have j2:(c:Int)<(b.AG.length:Int):=by omega
 have j3:(0:Int)<=(p:Int):=Int.natCast_nonneg _;have j4:(p:Int)<(b.AM.length:Int):=by omega
 have j5:(p:Int)<(b.AO.length:Int):=by omega
 have i0:IntKind.i64.wrap ((ns.length:Int)-1)=(ns.length:Int)-1:=by rw[IntKind.wrap_i64];omega
 clear hcn hcp hcl h h';go_enter Tryz.func109,Tryz.ntmps109
 go_wp2;go_loop [9] (fun i=>∃j:Nat,j<=ns.length/\i = .int .i64 ((j:Int)-1)/\Hid (∀q,j<=q->q<ns.length->(ns.getD q (0,0,0)).1≠(p:Int))) (fun i=>(intOf i+1).toNat)
 case atStart=>exact⟨ns.length,Nat.le_refl _,rfl,Lib.hid (fun q h1 h2=>by omega)⟩
 case round=>
  obtain⟨j,hj,rfl,hno⟩:=hrel
  cases j with
  |zero=>
   have HE:Hid (ANS=(xp,xl)):=Lib.hid (HZ.out (Zx (fun q hq=>hno.out q (Nat.zero_le _) hq)));go_wp2;go_quiet (fail)
   go_wp2;go_ret2
   exact⟨by rw[HE.out];rfl,KW.drewN _⟩
  |succ q=>
   have ej:((q+1:Nat):Int)-1=(q:Int):=by omega
   rw[ej];have l9:q<ns.length:=hj;rcases r3 with h0|⟨bq,oq,rfl,hbq,hcq⟩
   . exfalso;rw[h0] at l9;simp at l9
   obtain⟨g0,g1,g2⟩:=qQ (hcq q _ (Ir l9));have HF:=fun e=>Lib.hid (HS.out _ (Zw l9 (fun q' h1 h2=>hno.out q' h1 h2) e))
   have HN:(ns.getD q (0,0,0)).1≠(p:Int)->Hid (∀q',q<=q'->q'<ns.length->(ns.getD q' (0,0,0)).1≠(p:Int)):=fun e=>Lib.hid (fun q' h1 h2=>by
    by_cases e':q'=q
    . rw[e'];exact e
    . exact hno.out q' (by omega) h2)
   generalize ns.getD q (0,0,0)=y at g0 g1 g2 HF HN;obtain⟨y0,y1,y2⟩:=y;simp only at g0 g1 g2 HF HN;have k1:(0:Int)<=(q:Int):=Int.natCast_nonneg _;have k2:(q:Int)<(ns.length:Int):=by omega
   have k3:IntKind.i64.wrap ((q:Int)-1)=(q:Int)-1:=by rw[IntKind.wrap_i64];omega
   clear hcq hno ej;by_cases e:y0=(p:Int)
   ·
    have HE:=HF e;have eb:(y0==(p:Int))=true:=by simp[e]
    clear HF HN e;go_wp2;go_quiet (fail)
    go_wp2;go_ret2
    exact⟨by rw[HE.out];rfl,KW.drewN _⟩
   ·
    have HE:=HN e;have eb:(y0==(p:Int))=false:=by simp[e]
    clear HF HN e;go_wp2;go_round
    case rel=>exact⟨q,by omega,rfl,HE⟩
    case measure=>simp[intOf]
theorem Tryz.jY:(Tryz.prog.info? 104).map (fun i=>(i.zero,i.size,i.bytes))=some (some (.agg #[.int .i64 0,.int .i64 0,.int .i64 0]),3,24):=by kernel_rfl
theorem SA (w:World)(m D:Nat)(v:BV)(nv rv:List Value)(bs N:Nat)(AA:List (List Dd))(b:Bd)(n c k:Nat)(h:AR w m D v nv rv bs N AA b)(S:Di AA b n)(hn:n<=1000)(hc:c<AA.length)(hk:k<(AA.getD c []).length):
  Calls Tryz.prog 88 #[.pointer (some ⟨D,0,none⟩),.int .i64 c,.int .i64 k] w fun e w'=>e = .returned (.tuple #[])/\∃nv' rv',AR w' m D v nv' rv' bs N AA (BL AA (AB AA) b c k)/\Ak w w' (Bp D v nv rv) (Bp D v nv' rv'):=by
 have hb0:=S.work;obtain⟨u1,u2⟩:=Ay hb0;have eB:AB AA=BA AA AA.length:=by rw[AB,if_pos hb0]
 have h12:(BA AA AA.length).length<=12:=(Mq hb0).1;have hok:Fm ((AA.getD c []).getD k zD)=true:=CG hb0 hc k hk;have nu:Hid (BL AA (AB AA) b c k=BL AA (BA AA AA.length) b c k):=Lib.hid (by rw[eB]);have S':=S;have hsn:=S.sn;have hfr:=S.fr;rw[eB] at hsn hfr;have hbase:=h.base;obtain⟨vW,vP,vL,vN,vX,vS,vF,vR⟩:=v;have W0:=h.work.rd;obtain⟨aW,cW,eW,hW⟩:=id W0;simp only at eW;subst eW;rcases hW with h0|⟨bw,ow,rfl,hbw,hcw⟩
 . exfalso;rw[h0] at hc;simp at hc
 obtain⟨vd,d1,r1⟩:=hcw c hc;obtain⟨ad,cd,rfl,r1⟩:=r1;rcases r1 with h0|⟨bd,od,rfl,hbd,hcd⟩
 . exfalso;rw[h0] at hk;simp at hk
 obtain⟨q0,q1,q2,q3⟩:=hcd k hk;have HD:Hid (Al AA c k=(AA.getD c []).getD k zD):=Lib.hid rfl;obtain⟨ds,hds⟩:∃ds,ds=AA.getD c []:=⟨_,rfl⟩;rw[<-hds] at d1 HD hk q0 q1 q2 q3 hok;clear hds;generalize ds.getD k zD=y at q0 q1 q2 q3 HD hok;obtain⟨y0,y1,y2,y3⟩:=y;simp only at q0 q1 q2 q3;have c0:w.cell? ⟨D,0,none⟩=some (.slice (some ⟨bw,ow,none⟩) AA.length cW):=h.cells.1;have i1:(0:Int)<=(c:Int):=Int.natCast_nonneg _;have i2:(c:Int)<(AA.length:Int):=by omega
 have i3:(0:Int)<=(k:Int):=Int.natCast_nonneg _;have i4:(k:Int)<(ds.length:Int):=by omega
 clear hcw hcd;go_enter Tryz.func88,Tryz.ntmps88
 go_upto_region 1 with fail
 obtain⟨wD,rV⟩:∃W:World,W=w.alloc (.cells #[.int .i64 y0,.int .i64 y1,.int .i64 y2,.int .i64 y3] 65):=⟨_,rfl⟩;have kD:AC w wD:=by rw[rV];exact (AC.refl w).alloc _
 have lD:w.heap.size<wD.heap.size:=by rw[rV,AD];omega
 have BX:Hid (∀W:World,AC wD W->W.cell? ⟨w.heap.size,0,none⟩=some (.int .i64 y0)/\W.cell? ⟨w.heap.size,1,none⟩=some (.int .i64 y1)/\W.cell? ⟨w.heap.size,2,none⟩=some (.int .i64 y2)/\W.cell? ⟨w.heap.size,3,none⟩=some (.int .i64 y3)):=Lib.hid (by
  rw[rV]
  exact fun W k=>⟨AU k 0,AU k 1,AU k 2,AU k 3⟩)
 rw[<-rV];clear rV;have NB:¬Bp D ⟨.slice (some ⟨bw,ow,none⟩) AA.length cW,vP,vL,vN,vX,vS,vF,vR⟩ nv rv w.heap.size:=fun hB=>by have:=(h.blk _ hB).2.1;omega
 have H1:=h.keep kD;have W1:=W0.keep kD;have c1:=(kD.cell (b:=D) (o:=0) hbase.2).trans c0;have T1:=(Ak.refl w (Bp D ⟨.slice (some ⟨bw,ow,none⟩) AA.length cW,vP,vL,vN,vX,vS,vF,vR⟩ nv rv)).keep kD;clear c0 d1 q0 q1 q2 q3 h W0;go_wp2_with fail
 refine (Gx _ _ _ W1 u1 u2).mono ?_;rintro e w1 ⟨v1,rfl,a1,k1⟩;have re:=a1.rd;generalize BA AA AA.length=es at *;clear a1 c1 W1;go_wp2_with fail
 refine (QK _ _ _ c k re h12).mono ?_;rintro e w2 ⟨rfl,k2⟩;have K2:=k1.trans k2;have H2:=H1.keep K2;have T2:=T1.keep K2;replace re:=re.keep k2;obtain⟨g0,g1,g2,g3⟩:=BX.out _ K2;have l2:w.heap.size<w2.heap.size:=Nat.lt_of_lt_of_le lD K2.size;have hbD:=H2.base;have hkind:y0=1\/y0=2\/y0=3\/y0=4:=by simp only[Fm,D8,decide_eq_true_eq] at hok;omega
 have hpl:0<=y1/\y1<=2:=by simp only[Fm,D8,decide_eq_true_eq] at hok;omega
 have hgr:0<=y3:=by simp only[Fm,D8,decide_eq_true_eq] at hok;omega
 obtain⟨p,rfl⟩:=Int.eq_ofNat_of_zero_le hpl.1;have hp3:p<3:=by omega
 have pW:Hid (∀y:Dd,Al AA c k=y->BL AA es b c k=if y.1=1 then Fo (AX Ah es) b (Kq es c k) (Ct b c y.2.1.toNat).1 (Ct b c y.2.1.toNat).2
   else if y.1=3 then Dn (Fo (AX Ah es) b (Kq es c k) (b.AM.getD y.2.1.toNat 0) (b.AO.getD y.2.1.toNat 0)) y.2.1.toNat y.2.2.1 (Kq es c k+1)
   else if y.1=2/\0<y.2.2.2 then Dn b y.2.1.toNat y.2.2.1 (Kq es c k)
   else if y.1=2 then { b with AG:=b.AG.set c (b.AG.getD c []++[(y.2.1,y.2.2.1,Kq es c k)]) }
   else b):=Lib.hid (fun y hy=>by subst hy;rfl)
 have Xx:=Lib.hid (pW.out _ HD.out);simp only[Int.toNat_natCast] at Xx;have evr:-1<=Kq es c k/\Kq es c k<=12:=lK es c k h12;generalize Kq es c k=EV at *;clear pW HD k1 k2 K2 H1 T1 BX hok;rcases hkind with rfl|rfl|rfl|rfl
 ·
  have HM:Hid (BL AA es b c k=Fo (AX Ah es) b EV (Ct b c p).1 (Ct b c p).2):=Lib.hid (by rw[Xx.out,if_pos rfl]);have CR:=M6 w2.drew _ AA b c p H2.drew.rd (by rw[S.AG];exact hc) (by rw[S.AM];exact hp3) (by rw[S.AO];exact hp3) (by have:=S.nl c;omega);obtain⟨e0,e1,e2,e3,e4,e5,e6,e7⟩:=H2.drew.cells;simp only at e0 e1 e2 e3 e4 e5 e6 e7;have zD:D<w2.drew.heap.size:=hbD.2;have zB:w.heap.size<w2.drew.heap.size:=l2;have g1':w2.drew.cell? ⟨w.heap.size,1,none⟩=some (.int .i64 (p:Int)):=g1;generalize Ct b c p=RG at CR HM;clear Xx;go_wp2
  go_region_held3 (fun w'=>w'.cell? ⟨D,0,none⟩=some (.slice (some ⟨bw,ow,none⟩) AA.length cW)/\w'.cell? ⟨D,1,none⟩=some vP/\w'.cell? ⟨D,2,none⟩=some vL/\w'.cell? ⟨D,3,none⟩=some vN/\w'.cell? ⟨D,4,none⟩=some vX/\w'.cell? ⟨D,5,none⟩=some vS/\w'.cell? ⟨D,6,none⟩=some vF/\w'.cell? ⟨D,7,none⟩=some vR/\w'.cell? ⟨w.heap.size,1,none⟩=some (.int .i64 (p:Int)))
   (first|go_keep|(go_split_ands;refine⟨?_,?_,?_,?_,?_,?_,?_,?_,?_⟩<;>(rw[kk.cell (by assumption)];assumption)))
   ((go_at_call 109;refine CR.mono ?_;rintro e wz ⟨rfl,kk⟩))
  all_goals
   have H3:=H2.drew.keep kk;have T3:=(T2.keep (AC.refl w2).drew).keep kk;have re3:=(re.keep (AC.refl w2).drew).keep kk;clear e0 e1 e2 e3 e4 e5 e6 e7 g0 g1 g2 g3 g1' CR;go_wp2_with fail
   refine (M7 _ m D _ nv rv bs N AA b _ es EV RG.1 RG.2 H3 re3 h12 hsn hfr).mono ?_;rintro e w4 ⟨rfl,H4,T4⟩;go_wp2;go_end0;exact⟨rfl,nv,rv,by rw[nu.out,HM.out];exact H4,T3.trans T4⟩
 ·
  by_cases hg:0<y3
  ·
   have HM:Hid (BL AA es b c k=Dn b p y2 EV):=Lib.hid (by rw[Xx.out,if_neg (by decide),if_neg (by decide),if_pos ⟨rfl,hg⟩]);clear Xx;go_wp2_with fail
   refine (Gw _ m D _ nv rv bs N AA b p y2 EV H2 (by rw[S.AM];exact hp3) (by rw[S.AO];exact hp3) (by rw[S.rws];exact hp3) (by have:=S.rl p;omega)).mono ?_;rintro e w4 ⟨rfl,rv',H4,T4⟩;go_wp2;go_end0;exact⟨rfl,nv,rv',by rw[nu.out,HM.out];exact H4,T2.trans T4⟩
  ·
   have HM:Hid (BL AA es b c k={ b with AG:=b.AG.set c (b.AG.getD c []++[((p:Int),y2,EV)]) }):=Lib.hid (by rw[Xx.out,if_neg (by decide),if_neg (by decide),if_neg (fun h=>hg h.2),if_pos rfl]);obtain⟨i0,hi,hz0,hz1,hz2⟩:=info_parts Tryz.jY;have hcn:c<b.AG.length:=by rw[S.AG];exact hc
   have hcv:c<nv.length:=by rw[H2.ln];exact hcn
   obtain⟨aN,ML,eN,hN⟩:=H2.drew.hN;rcases hN with h0|⟨gn,rfl,mJ,dn⟩
   . exfalso;rw[h0] at hcn;simp at hcn
   simp only at eN;subst eN;have d3:=dn c hcn;have c3:w2.drew.cell? ⟨D,3,none⟩=some (.slice (some ⟨gn,0,none⟩) b.AG.length ML):=H2.drew.cells.2.2.2.1;obtain⟨au,cu,hu⟩:=(H2.oN hcn).shape;have HU:=Lib.hid hu;rw[hu] at d3;have H3:=(H2.keep ((AC.refl w2).alloc (.cells #[.int .i64 (p:Int),.int .i64 y2,.int .i64 EV] 104))).drew;have T3:=T2.keep (((AC.refl w2).alloc (.cells #[.int .i64 (p:Int),.int .i64 y2,.int .i64 EV] 104)).drew);have o3:((w2.alloc (.cells #[.int .i64 (p:Int),.int .i64 y2,.int .i64 EV] 104)).drew).ownsRow m 104 3 (.slice au (b.AG.getD c []).length cu) (b.AG.getD c []).length ((b.AG.getD c []).flatMap cN):=by rw[<-hu];exact H3.oN hcn
   have s3:m<=((w2.alloc (.cells #[.int .i64 (p:Int),.int .i64 y2,.int .i64 EV] 104)).drew).heap.size:=by have:=H3.base;omega
   have nl:=S.nl c;have g1':w2.drew.cell? ⟨w.heap.size,1,none⟩=some (.int .i64 (p:Int)):=g1;have g2':w2.drew.cell? ⟨w.heap.size,2,none⟩=some (.int .i64 y2):=g2;have zD:D<w2.drew.heap.size:=hbD.2;have zB:w.heap.size<w2.drew.heap.size:=l2;have zN:gn<w2.drew.heap.size:=mJ;have zo:D<w2.heap.size:=hbD.2;have zN2:gn<w2.heap.size:=mJ;have j2:(c:Int)<(b.AG.length:Int):=by omega
   have hg0:¬((0:Int)<y3):=hg;obtain⟨Z,hZ⟩:∃Z,Z=b.AG.getD c []:=⟨_,rfl⟩;rw[<-hZ] at d3 o3 nl HM HU;clear hZ hu dn Xx;have c3w:w2.cell? ⟨D,3,none⟩=some (.slice (some ⟨gn,0,none⟩) b.AG.length ML):=c3;have d3w:w2.cell? ⟨gn,c,none⟩=some (.slice au Z.length cu):=d3;have m1:Z.length+1<=maxLen:=by unfold maxLen;omega
   have m2:(Z.length+1)*24<=140737488355328:=by omega
   have d3a:(w2.alloc (.cells #[.int .i64 (p:Int),.int .i64 y2,.int .i64 EV] 104)).drew.cell? ⟨gn,c,none⟩=some (.slice au Z.length cu):=((((AC.refl w2).alloc _).drew).cell zN2).trans d3;have d3b:(w2.alloc (.cells #[.int .i64 (p:Int),.int .i64 y2,.int .i64 EV] 104)).cell? ⟨gn,c,none⟩=some (.slice au Z.length cu):=d3a;have sJ:gn≠w.heap.size:=fun e=>NB ⟨.AG,trivial,by show some gn=_;rw[e]⟩
   have uj:∀(W:World),World.grownBy ((w2.alloc (.cells #[.int .i64 (p:Int),.int .i64 y2,.int .i64 EV] 104)).drew) W (Value.slice au Z.length cu).ownBlock->W.cell? ⟨D,3,none⟩=some (.slice (some ⟨gn,0,none⟩) b.AG.length ML)/\W.cell? ⟨w.heap.size,1,none⟩=some (.int .i64 (p:Int))/\W.cell? ⟨w.heap.size,2,none⟩=some (.int .i64 y2):=fun W hgrow=>by
    have ne:some w.heap.size≠(Value.slice au Z.length cu).ownBlock:=fun e=>NB ⟨.nt c,hcv,by show (nv.getD c AE).ownBlock=_;rw[HU.out,<-e]⟩
    have bk:=hgrow.block w.heap.size (Nat.lt_of_lt_of_le l2 (by simp)) ne;have kA:=((AC.refl w2).alloc (.cells #[.int .i64 (p:Int),.int .i64 y2,.int .i64 EV] 104)).drew;exact⟨(H3.stay (.nt c) hcv (by simp) (by show World.grownBy _ _ (nv.getD c AE).ownBlock;rw[HU.out];exact hgrow) 3).trans ((kA.cell hbD.2).trans c3),(World.cell?_of_block bk).trans ((kA.cell l2).trans g1),(World.cell?_of_block bk).trans ((kA.cell l2).trans g2)⟩
   have zDa:D<((w2.alloc (.cells #[.int .i64 (p:Int),.int .i64 y2,.int .i64 EV] 104)).drew).heap.size:=Nat.lt_of_lt_of_le zo (by simp);have c3a:(w2.alloc (.cells #[.int .i64 (p:Int),.int .i64 y2,.int .i64 EV] 104)).cell? ⟨D,3,none⟩=some (.slice (some ⟨gn,0,none⟩) b.AG.length ML):=(((AC.refl w2).alloc _).cell zo).trans c3
   have kC:Hid (∀(gg cap5:Nat) (w5:World),w5.ownsRow m 104 3 (.slice (some ⟨gg,0,none⟩) (Z.length+1) cap5) (Z.length+1) (Z.flatMap cN++[.int .i64 (p:Int),.int .i64 y2,.int .i64 EV])->World.grownBy ((w2.alloc (.cells #[.int .i64 (p:Int),.int .i64 y2,.int .i64 EV] 104)).drew) w5 (Value.slice au Z.length cu).ownBlock->((Value.slice au Z.length cu).ownBlock=some gg\/gg=w2.heap.size+1) ->
     (w5.cell? ⟨D,3,none⟩=some (.slice (some ⟨gn,0,none⟩) b.AG.length ML)/\w5.cell? ⟨w.heap.size,1,none⟩=some (.int .i64 (p:Int))/\w5.cell? ⟨w.heap.size,2,none⟩=some (.int .i64 y2)) /\
     ((w5.setCell ⟨gn,c,none⟩ (.slice (some ⟨gg,0,none⟩) (Z.length+1) cap5)).cell? ⟨D,3,none⟩=some (.slice (some ⟨gn,0,none⟩) b.AG.length ML)/\(w5.setCell ⟨gn,c,none⟩ (.slice (some ⟨gg,0,none⟩) (Z.length+1) cap5)).cell? ⟨w.heap.size,1,none⟩=some (.int .i64 (p:Int))/\(w5.setCell ⟨gn,c,none⟩ (.slice (some ⟨gg,0,none⟩) (Z.length+1) cap5)).cell? ⟨w.heap.size,2,none⟩=some (.int .i64 y2)) /\
     w5.cell? ⟨gn,c,none⟩=some (.slice au Z.length cu)/\w5.frozen? ⟨gn,c,none⟩=false /\
     ∃nv' rv',AR (w5.setCell ⟨gn,c,none⟩ (.slice (some ⟨gg,0,none⟩) (Z.length+1) cap5)) m D ⟨.slice (some ⟨bw,ow,none⟩) AA.length cW,vP,vL,.slice (some ⟨gn,0,none⟩) b.AG.length ML,vX,vS,vF,vR⟩ nv' rv' bs N AA (BL AA (AB AA) b c k)/\Ak w (w5.setCell ⟨gn,c,none⟩ (.slice (some ⟨gg,0,none⟩) (Z.length+1) cap5)) (Bp D ⟨.slice (some ⟨bw,ow,none⟩) AA.length cW,vP,vL,.slice (some ⟨gn,0,none⟩) b.AG.length ML,vX,vS,vF,vR⟩ nv rv) (Bp D ⟨.slice (some ⟨bw,ow,none⟩) AA.length cW,vP,vL,.slice (some ⟨gn,0,none⟩) b.AG.length ML,vX,vS,vF,vR⟩ nv' rv')):=Lib.hid (fun gg cap5 w5 hown5 hgrow hat=>by
    have HH:=H3.jU hcn (u:=(.slice (some ⟨gg,0,none⟩) (Z.length+1) cap5)) (ns:=Z++[((p:Int),y2,EV)]) (by rw[HU.out];exact hgrow) (by rw[HU.out];rcases hat with h|h;exact .inl h.symm;exact .inr (.inl (by rw[h];simp[Value.ownBlock]))) (Ju hown5) rfl;obtain⟨HO,hcell,hfr⟩:=HH;rw[HU.out] at hcell;refine⟨uj w5 hgrow,⟨HO.cells.2.2.2.1,(World.cell?_of_block (heap_setCell_other w5 ⟨gn,c,none⟩ w.heap.size _ (fun e=>sJ e.symm))).trans (uj w5 hgrow).2.1,(World.cell?_of_block (heap_setCell_other w5 ⟨gn,c,none⟩ w.heap.size _ (fun e=>sJ e.symm))).trans (uj w5 hgrow).2.2⟩,hcell,hfr,nv.set c (.slice (some ⟨gg,0,none⟩) (Z.length+1) cap5),rv,by rw[nu.out,HM.out];exact HO,?_⟩;refine ((T3.grown hgrow (fun g hg=>⟨.nt c,hcv,by show (nv.getD c AE).ownBlock=_;rw[HU.out];exact hg⟩)).grown (Ae _ gn c _) (fun g hg=>⟨.AG,trivial,hg⟩)).more (fun g hg=>?_);rcases Me hcv hg with h1|h1
    . exact .inl h1
    ·
     rcases hat with h2|h2
     . exact .inl ⟨.nt c,hcv,by show (nv.getD c AE).ownBlock=_;rw[HU.out,h2];exact h1⟩
     ·
      have e2:gg=g:=Option.some.inj h1;have:=T2.size
      right;omega)
   have g1a:(w2.alloc (.cells #[.int .i64 (p:Int),.int .i64 y2,.int .i64 EV] 104)).cell? ⟨w.heap.size,1,none⟩=some (.int .i64 (p:Int)):=(((AC.refl w2).alloc _).cell l2).trans g1;have HC0:w2.drew.cell? ⟨D,3,none⟩=some (.slice (some ⟨gn,0,none⟩) b.AG.length ML)/\w2.drew.cell? ⟨w.heap.size,1,none⟩=some (.int .i64 (p:Int))/\w2.drew.cell? ⟨w.heap.size,2,none⟩=some (.int .i64 y2):=⟨c3,g1',g2'⟩;have HC1:(w2.alloc (.cells #[.int .i64 (p:Int),.int .i64 y2,.int .i64 EV] 104)).drew.cell? ⟨D,3,none⟩=some (.slice (some ⟨gn,0,none⟩) b.AG.length ML)/\(w2.alloc (.cells #[.int .i64 (p:Int),.int .i64 y2,.int .i64 EV] 104)).drew.cell? ⟨w.heap.size,1,none⟩=some (.int .i64 (p:Int))/\(w2.alloc (.cells #[.int .i64 (p:Int),.int .i64 y2,.int .i64 EV] 104)).drew.cell? ⟨w.heap.size,2,none⟩=some (.int .i64 y2):=⟨((((AC.refl w2).alloc _).drew).cell zo).trans c3,((((AC.refl w2).alloc _).drew).cell l2).trans g1',((((AC.refl w2).alloc _).drew).cell l2).trans g2'⟩;clear uj HM HU T3 H3 S S' hn hc hb0 u1 u2 eB h12 nu hsn hfr hbase hbw hbd hk H2 T2 re hbD evr hgr hpl hp3 hg NB kD lD sJ hcn hcv nl mJ zD zB zN i1 i2 i3 i4;have j0:(0:Int)<=(c:Int):=Int.natCast_nonneg _;go_wp2_with fail
   clear g0 g3 hg0;refine wp_region_held_drew (S:=(fun w'=>w'.cell? ⟨D,3,none⟩=some (.slice (some ⟨gn,0,none⟩) b.AG.length ML)/\w'.cell? ⟨w.heap.size,1,none⟩=some (.int .i64 (p:Int))/\w'.cell? ⟨w.heap.size,2,none⟩=some (.int .i64 y2))) (by kernel_rfl) ?_ (fun hHeld=>?_)
   . exact HC0
   refine Ar 0 102 (v:=?_) ?_ ?_;rotate_left
   ·
    intro wx hSw;go_simp;with_reducible rfl
   refine Ar 1 103 (v:=?_) ?_ ?_;rotate_left
   ·
    intro wx hSw;go_simp;with_reducible rfl
   refine Ar 2 104 (v:=?_) ?_ ?_;rotate_left
   ·
    intro wx hSw;go_simp;with_reducible rfl
   refine Ar 3 105 (v:=?_) ?_ ?_;rotate_left
   ·
    intro wx hSw;go_simp;with_reducible rfl
   refine Ar 4 106 (v:=?_) ?_ ?_;rotate_left
   ·
    intro wx hSw;go_simp;with_reducible rfl
   refine Ar 5 107 (v:=?_) ?_ ?_;rotate_left
   ·
    intro wx hSw;go_simp;with_reducible rfl
   refine Ar 6 108 (v:=?_) ?_ ?_;rotate_left
   ·
    intro wx hSw;go_simp;with_reducible rfl
   refine Ar 7 109 (v:=?_) ?_ ?_;rotate_left
   ·
    intro wx hSw;go_simp;with_reducible rfl
   refine Ar 8 110 (v:=?_) ?_ ?_;rotate_left
   ·
    intro wx hSw;go_simp;with_reducible rfl
   refine Ar 9 111 (v:=?_) ?_ ?_;rotate_left
   ·
    intro wx hSw;go_simp;with_reducible rfl
   refine Ar 10 112 (v:=?_) ?_ ?_;rotate_left
   ·
    intro wx hSw;go_simp;with_reducible rfl
   refine Ar 12 114 (v:=?_) ?_ ?_;rotate_left
   ·
    intro wx hSw;go_simp;with_reducible rfl
   refine Ar 13 115 (v:=?_) ?_ ?_;rotate_left
   ·
    intro wx hSw;go_simp;with_reducible rfl
   refine Ar 14 116 (v:=?_) ?_ ?_;rotate_left
   ·
    intro wx hSw;go_simp;with_reducible rfl
   refine Ar 15 117 (v:=?_) ?_ ?_;rotate_left
   ·
    intro wx hSw;go_simp;with_reducible rfl
   refine Ar 16 118 (v:=?_) ?_ ?_;rotate_left
   ·
    intro wx hSw;go_simp;with_reducible rfl
   refine Ar 17 119 (v:=?_) ?_ ?_;rotate_left
   ·
    intro wx hSw;go_simp;with_reducible rfl
   simp only[Act.put,List.setIfInBounds_toArray,List.set_cons_zero,List.set_cons_succ];refine wpAnyH_ready (rs:=[11,18]) (by kernel_rfl) (by simp) ?_;refine AllReadyH.cons rfl (fun K hK=>?_) (AllReadyH.cons rfl (fun K hK=>?_) AllReadyH.nil)
   ·
    go_simp;refine hK.out _ _ ?_ (fun hHeld=>?_)
    . exact HC0
    clear hK K;refine wpAnyH_ready (rs:=[18]) (by kernel_rfl) (by simp) ?_;refine AllReadyH.cons rfl (fun K hK=>?_) AllReadyH.nil;go_simp;refine hK.out _ _ ?_ (fun hHeld=>?_)
    . exact HC1
    clear hK K;refine wpAnyH_ready (rs:=[19]) (by kernel_rfl) (by simp) ?_;refine AllReadyH.cons rfl (fun K hK=>?_) AllReadyH.nil;refine step_append_lies _ (by rfl) _ _ _ (by rfl) m 104 i0 _ 3 24 Tryz.underlying101 hi hz0 hz1 hz2 rfl (by omega) (.slice au Z.length cu) Z.length (Z.flatMap cN) (by rfl) o3 ⟨w2.heap.size,0,none⟩ 1 1 [.int .i64 (p:Int),.int .i64 y2,.int .i64 EV] (by rfl) (by rfl) (World.news_of_block (cs:=#[.int .i64 (p:Int),.int .i64 y2,.int .i64 EV]) (t:=104) (fr:=(0,0)) (heap_alloc_new w2 _)) (by simp[Value.oneCell']) (by omega) m1 m2 s3 (w2.heap.size+1) (by simp) ?_;intro gg cap5 w5 hown5 hgrow hat hlt5;obtain⟨HC,HC2,hcell,hfr,HO⟩:=kC.out gg cap5 w5 hown5 hgrow hat;have HO:=Lib.hid HO;clear hown5 hgrow hat hlt5;refine hK.out _ _ ?_ (fun hHeld=>?_)
    . exact HC
    clear hK K;simp only[Act.put,List.setIfInBounds_toArray];refine Ar 20 122 (v:=?_) ?_ ?_;rotate_left
    ·
     intro wx hSw;go_simp;with_reducible rfl
    simp only[Act.put];refine wpAnyH_ready (rs:=[21]) (by kernel_rfl) (by simp) ?_;refine AllReadyH.cons rfl (fun K hK=>?_) AllReadyH.nil;go_simp;refine hK.out _ _ ?_ (fun hHeld=>?_)
    . exact HC2
    clear hK K;refine wpAnyH_done (by kernel_rfl) ?_ _;clear HC HC2 hcell hfr hHeld;go_wp2;go_end0;exact⟨rfl,HO.out⟩
   ·
    go_simp;refine hK.out _ _ ?_ (fun hHeld=>?_)
    . exact HC1
    clear hK K;refine wpAnyH_ready (rs:=[11]) (by kernel_rfl) (by simp) ?_;refine AllReadyH.cons rfl (fun K hK=>?_) AllReadyH.nil;go_simp;refine hK.out _ _ ?_ (fun hHeld=>?_)
    . exact HC1
    clear hK K;refine wpAnyH_ready (rs:=[19]) (by kernel_rfl) (by simp) ?_;refine AllReadyH.cons rfl (fun K hK=>?_) AllReadyH.nil;refine step_append_lies _ (by rfl) _ _ _ (by rfl) m 104 i0 _ 3 24 Tryz.underlying101 hi hz0 hz1 hz2 rfl (by omega) (.slice au Z.length cu) Z.length (Z.flatMap cN) (by rfl) o3 ⟨w2.heap.size,0,none⟩ 1 1 [.int .i64 (p:Int),.int .i64 y2,.int .i64 EV] (by rfl) (by rfl) (World.news_of_block (cs:=#[.int .i64 (p:Int),.int .i64 y2,.int .i64 EV]) (t:=104) (fr:=(0,0)) (heap_alloc_new w2 _)) (by simp[Value.oneCell']) (by omega) m1 m2 s3 (w2.heap.size+1) (by simp) ?_;intro gg cap5 w5 hown5 hgrow hat hlt5;obtain⟨HC,HC2,hcell,hfr,HO⟩:=kC.out gg cap5 w5 hown5 hgrow hat;have HO:=Lib.hid HO;clear hown5 hgrow hat hlt5;refine hK.out _ _ ?_ (fun hHeld=>?_)
    . exact HC
    clear hK K;simp only[Act.put,List.setIfInBounds_toArray];refine Ar 20 122 (v:=?_) ?_ ?_;rotate_left
    ·
     intro wx hSw;go_simp;with_reducible rfl
    simp only[Act.put];refine wpAnyH_ready (rs:=[21]) (by kernel_rfl) (by simp) ?_;refine AllReadyH.cons rfl (fun K hK=>?_) AllReadyH.nil;go_simp;refine hK.out _ _ ?_ (fun hHeld=>?_)
    . exact HC2
    clear hK K;refine wpAnyH_done (by kernel_rfl) ?_ _;clear HC HC2 hcell hfr hHeld;go_wp2;go_end0;exact⟨rfl,HO.out⟩
 ·
  have HM:Hid (BL AA es b c k=Dn (Fo (AX Ah es) b EV (b.AM.getD p 0) (b.AO.getD p 0)) p y2 (EV+1)):=Lib.hid (by rw[Xx.out,if_neg (by decide),if_pos rfl]);have hpp:p<b.AM.length:=by rw[S.AM];exact hp3
  have hpl':p<b.AO.length:=by rw[S.AO];exact hp3
  obtain⟨gp,cp,eP,lp,dp,-⟩:=H2.drew.oP.lit hpp;obtain⟨gl,cl,eL,ll,dl,-⟩:=H2.drew.oL.lit hpl';simp only at eP eL;subst eP eL;have e1:w2.drew.cell? ⟨D,1,none⟩=some (.slice (some ⟨gp,0,none⟩) b.AM.length cp):=H2.drew.cells.2.1;have e2:w2.drew.cell? ⟨D,2,none⟩=some (.slice (some ⟨gl,0,none⟩) b.AO.length cl):=H2.drew.cells.2.2.1;have f1:=dp p hpp;have f2:=dl p hpl';have g1':w2.drew.cell? ⟨w.heap.size,1,none⟩=some (.int .i64 (p:Int)):=g1;have j1:(0:Int)<=(p:Int):=Int.natCast_nonneg _;have j2:(p:Int)<(b.AM.length:Int):=by omega
  have j3:(p:Int)<(b.AO.length:Int):=by omega
  have SE:=S.see EV (b.AM.getD p 0) (b.AO.getD p 0);rw[eB] at SE;obtain⟨xp,hxp⟩:∃x,x=b.AM.getD p 0:=⟨_,rfl⟩;obtain⟨xl,hxl⟩:∃x,x=b.AO.getD p 0:=⟨_,rfl⟩;rw[<-hxp] at f1 SE HM;rw[<-hxl] at f2 SE HM;have HXP:Hid (b.AM.getD p 0=xp):=Lib.hid hxp.symm;have HXL:Hid (b.AO.getD p 0=xl):=Lib.hid hxl.symm;clear hxp hxl;have CS:=fun (W:World) (hw:W=w2.drew)=>M7 W m D _ nv rv bs N AA b _ es EV xp xl (hw ▸ H2.drew) (hw ▸ re.keep (AC.refl w2).drew) h12 hsn hfr
  have CSE:∀(W:World),AR W m D ⟨.slice (some ⟨bw,ow,none⟩) AA.length cW,.slice (some ⟨gp,0,none⟩) b.AM.length cp,.slice (some ⟨gl,0,none⟩) b.AO.length cl,vN,vX,vS,vF,vR⟩ nv rv bs N AA (Fo (AX Ah es) b EV xp xl)->Ak w2.drew W (Bp D ⟨.slice (some ⟨bw,ow,none⟩) AA.length cW,.slice (some ⟨gp,0,none⟩) b.AM.length cp,.slice (some ⟨gl,0,none⟩) b.AO.length cl,vN,vX,vS,vF,vR⟩ nv rv) (Bp D ⟨.slice (some ⟨bw,ow,none⟩) AA.length cW,.slice (some ⟨gp,0,none⟩) b.AM.length cp,.slice (some ⟨gl,0,none⟩) b.AO.length cl,vN,vX,vS,vF,vR⟩ nv rv)->W.cell? ⟨D,1,none⟩=some (.slice (some ⟨gp,0,none⟩) b.AM.length cp)/\W.cell? ⟨D,2,none⟩=some (.slice (some ⟨gl,0,none⟩) b.AO.length cl)/\W.cell? ⟨gp,p,none⟩=some (.int .i64 xp)/\W.cell? ⟨gl,p,none⟩=some (.int .i64 xl)/\W.cell? ⟨w.heap.size,1,none⟩=some (.int .i64 (p:Int)):=fun W h1 t1=>by
   obtain⟨gp',cp',eP',-,dp',-⟩:=h1.oP.lit hpp;obtain⟨gl',cl',eL',-,dl',-⟩:=h1.oL.lit hpl';simp only[Value.slice.injEq,Option.some.injEq,Addr.mk.injEq,and_true] at eP' eL';obtain⟨rfl,-,rfl⟩:=eP';obtain⟨rfl,-,rfl⟩:=eL';exact⟨h1.cells.2.1,h1.cells.2.2.1,by rw[<-HXP.out];exact dp' p hpp,by rw[<-HXL.out];exact dl' p hpl',(t1.cell l2 NB).trans g1'⟩
  have jw:IntKind.i64.wrap (EV+1)=EV+1:=by rw[IntKind.wrap_i64];omega
  clear Xx dp dl;go_wp2;have zD:D<w2.drew.heap.size:=hbD.2;have zB:w.heap.size<w2.drew.heap.size:=l2
  go_region_held3 (fun w'=>w'.cell? ⟨D,1,none⟩=some (.slice (some ⟨gp,0,none⟩) b.AM.length cp)/\w'.cell? ⟨D,2,none⟩=some (.slice (some ⟨gl,0,none⟩) b.AO.length cl)/\w'.cell? ⟨gp,p,none⟩=some (.int .i64 xp)/\w'.cell? ⟨gl,p,none⟩=some (.int .i64 xl)/\w'.cell? ⟨w.heap.size,1,none⟩=some (.int .i64 (p:Int)))
   (first|go_keep|exact HC)
   ((go_at_call 110;refine (CS _ rfl).mono ?_;rintro e w3 ⟨rfl,H3,T3⟩;have HC:=CSE w3 H3 T3))
  all_goals
   have T3':=(T2.keep (AC.refl w2).drew).trans T3;have b1:w3.cell? ⟨w.heap.size,1,none⟩=some (.int .i64 (p:Int)):=(T3.cell l2 NB).trans g1';have b2:w3.cell? ⟨w.heap.size,2,none⟩=some (.int .i64 y2):=(T3.cell l2 NB).trans g2;clear e1 e2 f1 f2 g0 g1 g2 g3 g1';go_wp2_with fail
   refine (Gw _ m D _ nv rv bs N AA _ p y2 (EV+1) H3 (by rw[SE.AM];exact hp3) (by rw[SE.AO];exact hp3) (by rw[SE.rws];exact hp3) (by have:=SE.rl p;omega)).mono ?_;rintro e w4 ⟨rfl,rv',H4,T4⟩;go_wp2;go_end0;exact⟨rfl,nv,rv',by rw[nu.out,HM.out];exact H4,T3'.trans T4⟩
 ·
  have HM:Hid (BL AA es b c k=b):=Lib.hid (by rw[Xx.out,if_neg (by decide),if_neg (by decide),if_neg (fun h=>absurd h.1 (by decide)),if_neg (by decide)]);clear Xx;go_wp2;go_end0;exact⟨rfl,nv,rv,by rw[nu.out,HM.out];exact H2,T2⟩
theorem Zd {w:World}{m gq cap:Nat}{Z:List Nt}(o:B5 cN 104 3 w m (.slice (some ⟨gq,0,none⟩) Z.length cap) Z){x:Nt}{r:List Nt}(hz:Z=x::r):∀j u,(r.flatMap cN)[j]? = some u->w.cell? ((⟨gq,3,none⟩:Addr).add j)=some u:=by
 subst hz;intro j u hj
 have hl:(r.flatMap cN).length=r.length*3:=by
  clear hj o
  induction r with
  |nil=>rfl
  |cons y t ih=>rw[List.flatMap_cons,List.length_append,ih,EE,List.length_cons];omega
 have hjl:j<r.length*3:=by rw[<-hl];exact (List.getElem?_eq_some_iff.1 hj).1
 have h1:=World.ownsRow.cellAt o (3+j) (by rw[List.length_cons];omega);have e:(⟨gq,3,none⟩:Addr).add j=⟨gq,3+j,none⟩:=by simp[Addr.add]
 rw[e,h1,List.flatMap_cons,List.getElem?_append_right (by rw[EE];omega),EE];rw[show 3+j-3=j by omega];exact hj
theorem iI (r:List Nt):∀u∈r.flatMap cN,u.oneCell'=true:=fun u hu=>by
 obtain⟨x,_,hx⟩:=List.mem_flatMap.1 hu;simp only[cN,List.mem_cons,List.not_mem_nil,or_false] at hx;rcases hx with rfl|rfl|rfl<;>rfl
theorem iH (r:List Nt):(r.flatMap cN).length=r.length*3:=by
 induction r with
 |nil=>rfl
 |cons y t ih=>rw[List.flatMap_cons,List.length_append,ih,EE,List.length_cons];omega
theorem JL (w:World)(m D:Nat)(v:BV)(nv rv:List Value)(bs N:Nat)(AA:List (List Dd))(b:Bd)(n c:Nat)(x:Nt)(r:List Nt)(h:AR w m D v nv rv bs N AA b)(S:Di AA b n)(hn:n<=1000)(hc:c<AA.length)(hz:b.AG.getD c []=x::r)(hx:0<=x.1/\x.1<=2):
  Calls Tryz.prog 53 #[.pointer (some ⟨D,0,none⟩),.int .i64 (10+(c:Int))] w fun e w'=>e = .returned (.tuple #[])/\∃nv' rv',AR w' m D v nv' rv' bs N AA (BT b c)/\Ak w w' (Bp D v nv rv) (Bp D v nv' rv'):=by
 obtain⟨i0,hi,hz0,hz1,hz2⟩:=info_parts Tryz.jY;have hd3:AA.length<=3:=(Ay S.work).1;have hcn:c<b.AG.length:=by rw[S.AG];exact hc
 have hcv:c<nv.length:=by rw[h.ln];exact hcn
 have HM:Hid (BT b c=Dn { b with AG:=b.AG.set c r } x.1.toNat x.2.1 x.2.2):=Lib.hid (by unfold BT;rw[hz]);have hlr:r.length<=n:=by have:=S.nl c;rw[hz] at this;simp at this;omega
 have SL:=S.less c r hlr;obtain⟨vW,vP,vL,vN,vX,vS,vF,vR⟩:=v;obtain⟨aN,ML,eN,hN⟩:=h.hN;rcases hN with h0|⟨gn,rfl,mJ,dn⟩
 . exfalso;rw[h0] at hcn;simp at hcn
 simp only at eN;subst eN;have oq:=h.oN hcn;rw[hz] at oq
 obtain⟨gq,cq,hq,lgq⟩:∃gq cq,nv.getD c AE = .slice (some ⟨gq,0,none⟩) (x::r).length cq/\gq<w.heap.size:=by
  have hlt:=World.ownsRow.lt oq;rcases oq.2 with ⟨_,hz'⟩|⟨g,cap,cur,e,_⟩
  . simp at hz'
  . exact⟨g,cap,e,(hlt g (by rw[e];rfl)).2⟩
 have ql:(x::r).length<=cq:=by
  rcases oq.2 with ⟨_,hz'⟩|⟨g,cap,cur,e,_,_,hcap,_⟩
  . simp at hz'
  ·
   rw[hq] at e;simp only[Value.slice.injEq,true_and] at e;rw[e.2];exact hcap
 rw[hq] at oq;have HQ:=Lib.hid hq;have d3:=dn c hcn;rw[hq] at d3;have c3:w.cell? ⟨D,3,none⟩=some (.slice (some ⟨gn,0,none⟩) b.AG.length ML):=h.cells.2.2.2.1;obtain⟨x0,x1,x2⟩:=x;have q0:w.cell? ⟨gq,0,none⟩=some (.int .i64 x0):=World.ownsRow.cellAt oq 0 (by simp);have q1:w.cell? ⟨gq,1,none⟩=some (.int .i64 x1):=World.ownsRow.cellAt oq 1 (by simp;omega);have q2:w.cell? ⟨gq,2,none⟩=some (.int .i64 x2):=World.ownsRow.cellAt oq 2 (by simp;omega);simp only at hx;obtain⟨p,rfl⟩:=Int.eq_ofNat_of_zero_le hx.1;have hp3:p<3:=by omega
 have hbase:=h.base;have i1:IntKind.i64.wrap (10+(c:Int)-10)=(c:Int):=by rw[IntKind.wrap_i64];omega
 have i2:(0:Int)<=(c:Int):=Int.natCast_nonneg _;have i3:(c:Int)<(b.AG.length:Int):=by omega
 have i4:(10:Int)<=10+(c:Int):=by omega
 have i5:((r.length+1:Nat):Int)=(r.length:Int)+1:=by omega
 have RC:=Lib.hid (Zd oq rfl);clear dn hq hz;go_enter Tryz.func53,Tryz.ntmps53
 go_upto_region 3 with fail
 obtain⟨wN,rX⟩:∃W:World,W=w.alloc (.cells #[.int .i64 (p:Int),.int .i64 x1,.int .i64 x2] 104):=⟨_,rfl⟩;have kN:AC w wN:=by rw[rX];exact (AC.refl w).alloc _
 have lN:w.heap.size<wN.heap.size:=by rw[rX,AD];omega
 have BX:Hid (∀W:World,AC wN W->W.cell? ⟨w.heap.size,0,none⟩=some (.int .i64 (p:Int))/\W.cell? ⟨w.heap.size,1,none⟩=some (.int .i64 x1)/\W.cell? ⟨w.heap.size,2,none⟩=some (.int .i64 x2)):=Lib.hid (by
  rw[rX]
  exact fun W k=>⟨AU k 0,AU k 1,AU k 2⟩)
 rw[<-rX];clear rX;have NB:¬Bp D ⟨vW,vP,vL,.slice (some ⟨gn,0,none⟩) b.AG.length ML,vX,vS,vF,vR⟩ nv rv w.heap.size:=fun hB=>by have:=(h.blk _ hB).2.1;omega
 have H1:=(h.keep kN).drew;have T1:=((Ak.refl w (Bp D ⟨vW,vP,vL,.slice (some ⟨gn,0,none⟩) b.AG.length ML,vX,vS,vF,vR⟩ nv rv)).keep kN).keep (AC.refl wN).drew;have kA:AC w (wN.drew.alloc (.cells #[] 104)):=((kN.drew).alloc _);have OE:(wN.drew.alloc (.cells #[] 104)).ownsRow m 104 3 (.slice (some ⟨wN.heap.size,0,none⟩) 0 0) 0 []:=World.ownsRow_lit wN.drew #[] 0 (by have:=H1.base;omega) (by decide) (by simp);have s3:m<=(wN.drew.alloc (.cells #[] 104)).heap.size:=by have:=(H1.keep ((AC.refl _).alloc (.cells #[] 104))).base;omega
 have NW:∀j u,(r.flatMap cN)[j]? = some u->(wN.drew.alloc (.cells #[] 104)).cell? ((⟨gq,3,none⟩:Addr).add j)=some u:=fun j u hj=>by
  have:=RC.out j u hj;have e:(⟨gq,3,none⟩:Addr).add j=⟨gq,3+j,none⟩:=by simp[Addr.add]
  rw[e] at this ⊢;exact (kA.cell lgq).trans this
 have c4:wN.drew.cell? ⟨D,3,none⟩=some (.slice (some ⟨gn,0,none⟩) b.AG.length ML):=(kN.cell hbase.2).trans c3;have c5:(wN.drew.alloc (.cells #[] 104)).cell? ⟨D,3,none⟩=some (.slice (some ⟨gn,0,none⟩) b.AG.length ML):=(kA.cell hbase.2).trans c3;have c4w:wN.cell? ⟨D,3,none⟩=some (.slice (some ⟨gn,0,none⟩) b.AG.length ML):=c4;have c5w:(wN.alloc (.cells #[] 104)).cell? ⟨D,3,none⟩=some (.slice (some ⟨gn,0,none⟩) b.AG.length ML):=c5;have zD:D<wN.heap.size:=Nat.lt_of_lt_of_le hbase.2 kN.size
 have kC:Hid (∀(u:Value) (w5:World),w5.ownsRow m 104 3 u (0+r.length) ([]++r.flatMap cN)->World.grownBy (wN.drew.alloc (.cells #[] 104)) w5 (some wN.heap.size)->(u.ownBlock=some wN.heap.size\/u.ownBlock=some (wN.drew.alloc (.cells #[] 104)).heap.size) ->
   (∃a' c',u = .slice a' r.length c')/\w5.cell? ⟨D,3,none⟩=some (.slice (some ⟨gn,0,none⟩) b.AG.length ML)/\w5.cell? ⟨gn,c,none⟩=some (.slice (some ⟨gq,0,none⟩) (r.length+1) cq)/\w5.frozen? ⟨gn,c,none⟩=false /\
   ∃nv',AR (w5.setCell ⟨gn,c,none⟩ u) m D ⟨vW,vP,vL,.slice (some ⟨gn,0,none⟩) b.AG.length ML,vX,vS,vF,vR⟩ nv' rv bs N AA { b with AG:=b.AG.set c r }/\Ak w (w5.setCell ⟨gn,c,none⟩ u) (Bp D ⟨vW,vP,vL,.slice (some ⟨gn,0,none⟩) b.AG.length ML,vX,vS,vF,vR⟩ nv rv) (Bp D ⟨vW,vP,vL,.slice (some ⟨gn,0,none⟩) b.AG.length ML,vX,vS,vF,vR⟩ nv' rv) /\
    (w5.setCell ⟨gn,c,none⟩ u).cell? ⟨w.heap.size,0,none⟩=some (.int .i64 (p:Int))/\(w5.setCell ⟨gn,c,none⟩ u).cell? ⟨w.heap.size,1,none⟩=some (.int .i64 x1)/\(w5.setCell ⟨gn,c,none⟩ u).cell? ⟨w.heap.size,2,none⟩=some (.int .i64 x2)):=Lib.hid (fun u w5 hown hgrow hblk=>by
  rw[Nat.zero_add,List.nil_append] at hown;have kw:AC wN.drew w5:=((AC.refl wN.drew).alloc (.cells #[] 104)).grown hgrow (fun k hk=>by have:=Option.some.inj hk;show wN.heap.size<=k;omega)
  have hnew:∀k,u.ownBlock=some k->wN.drew.heap.size<=k:=fun k hk=>by
   rcases hblk with e|e
   . rw[e] at hk;have:=Option.some.inj hk;show wN.heap.size<=k;omega
   . rw[e,AD] at hk;have:=Option.some.inj hk;omega
  obtain⟨HO,hcell,hfr⟩:=H1.gW hcn (u:=u) (ns:=r) kw hnew hown rfl;rw[HQ.out] at hcell;obtain⟨a',c',e',-⟩:=B5.shape (show B5 cN 104 3 w5 m u r from hown) |>.elim (fun a h=>h.elim (fun c e=>(⟨a,c,e,trivial⟩:∃a c,u = .slice a r.length c/\True)));have hb5:=H1.base.2;have sJ:gn≠w.heap.size:=fun e=>NB ⟨.AG,trivial,by show some gn=_;rw[e]⟩
  have bx:=BX.out w5 (((AC.refl wN).drew).trans kw);have far:∀j,(w5.setCell ⟨gn,c,none⟩ u).cell? ⟨w.heap.size,j,none⟩=w5.cell? ⟨w.heap.size,j,none⟩:=fun j=>World.cell?_of_block (heap_setCell_other w5 ⟨gn,c,none⟩ w.heap.size _ (fun e=>sJ e.symm))
  refine⟨⟨a',c',e'⟩,(kw.cell hb5).trans c4,hcell,hfr,nv.set c u,HO,?_,(far 0).trans bx.1,(far 1).trans bx.2.1,(far 2).trans bx.2.2⟩;refine ((T1.keep kw).grown (Ae _ gn c _) (fun g hg=>⟨.AG,trivial,hg⟩)).more (fun g hg=>?_);rcases Me hcv hg with h1|h1
  . exact .inl h1
  ·
   have:=hnew g h1;have:wN.heap.size<=g:=this
   right;omega)
 have m1:0+r.length<=maxLen:=by unfold maxLen;omega
 have m2:(0+r.length)*24<=140737488355328:=by omega
 have j1:(1:Int)<=(r.length:Int)+1:=by omega
 have j2:(1:Int)<=(cq:Int):=by simp at ql;omega
 have QAA:r.length+1<=cq:=by simpa using ql
 have ONE:=iI r;have NL:=iH r;clear H1 T1 kA RC oq q0 q1 q2 c3 d3 h kN;by_cases hq1:cq=1
 ·
  have hr0:r.flatMap cN=[]:=by
   have:r.length=0:=by omega
   rw[List.eq_nil_of_length_eq_zero this];rfl
  replace NW:∀j u,(r.flatMap cN)[j]? = some u->(wN.drew.alloc (.cells #[] 104)).cell? ((⟨gq,0,none⟩:Addr).add j)=some u:=fun j u hj=>by rw[hr0] at hj;simp at hj
  clear hr0 j2;go_wp2_with fail
  go_region_law ((refine DF rfl (.tmp 29) (.tmp 31) 101 rfl m 104 i0 (.agg #[.int .i64 0,.int .i64 0,.int .i64 0]) 3 24 Tryz.underlying101 hi hz0 hz1 hz2 rfl (by decide) (.slice (some ⟨wN.heap.size,0,none⟩) 0 0) 0 [] rfl OE ⟨gq,0,none⟩ r.length 0 (r.flatMap cN) rfl NL NW ONE m1 m2 s3 ?_;intro u w5 hown5 hgrow hblk;obtain⟨⟨a',c',rfl⟩,hc3,hcell,hfr,HO⟩:=kC.out u w5 hown5 hgrow hblk;have HO:=Lib.hid HO;clear hown5 hgrow hblk))
  all_goals
   clear kC;obtain⟨nv',H6,T6,b0,b1,b2⟩:=HO.out;clear HO hcell hfr hc3 c4 c5 c4w c5w;go_wp2_with fail
   refine (Gw _ m D _ nv' rv bs N AA _ p x1 x2 H6 (by rw[SL.AM];exact hp3) (by rw[SL.AO];exact hp3) (by rw[SL.rws];exact hp3) (by have:=SL.rl p;omega)).mono ?_;rintro e w7 ⟨rfl,rv',H7,T7⟩;go_wp2
   (try simp only[Exit.inBlock,Exit.then])
   refine bodyPost_ret (results_none rfl _ _ _) rfl ?_;exact⟨rfl,nv',rv',by rw[HM.out];exact H7,T6.trans T7⟩
 ·
  go_wp2_with fail
  go_region_law ((refine DF rfl (.tmp 29) (.tmp 31) 101 rfl m 104 i0 (.agg #[.int .i64 0,.int .i64 0,.int .i64 0]) 3 24 Tryz.underlying101 hi hz0 hz1 hz2 rfl (by decide) (.slice (some ⟨wN.heap.size,0,none⟩) 0 0) 0 [] rfl OE ⟨gq,3,none⟩ r.length (cq-1) (r.flatMap cN) rfl NL NW ONE m1 m2 s3 ?_;intro u w5 hown5 hgrow hblk;obtain⟨⟨a',c',rfl⟩,hc3,hcell,hfr,HO⟩:=kC.out u w5 hown5 hgrow hblk;have HO:=Lib.hid HO;clear hown5 hgrow hblk))
  all_goals
   clear kC;obtain⟨nv',H6,T6,b0,b1,b2⟩:=HO.out;clear HO hcell hfr hc3 c4 c5 c4w c5w;go_wp2_with fail
   refine (Gw _ m D _ nv' rv bs N AA _ p x1 x2 H6 (by rw[SL.AM];exact hp3) (by rw[SL.AO];exact hp3) (by rw[SL.rws];exact hp3) (by have:=SL.rl p;omega)).mono ?_;rintro e w7 ⟨rfl,rv',H7,T7⟩;go_wp2
   (try simp only[Exit.inBlock,Exit.then])
   refine bodyPost_ret (results_none rfl _ _ _) rfl ?_;exact⟨rfl,nv',rv',by rw[HM.out];exact H7,T6.trans T7⟩
theorem gP {AA:List (List Dd)}{es:List Ev}{g:Int}{c k:Nat}{b:Bd}(h:g=0\/Ao (Aj AA es b c) c=(AA.getD c []).length\/BP AA c (Ao (Aj AA es b c) c)≠g):Ef AA es g c (k+1) b=Aj AA es b c:=by rw[Ef,if_pos h]
theorem gN {AA:List (List Dd)}{es:List Ev}{g:Int}{c k:Nat}{b:Bd}(h:¬(g=0\/Ao (Aj AA es b c) c=(AA.getD c []).length\/BP AA c (Ao (Aj AA es b c) c)≠g)):Ef AA es g c (k+1) b=Ef AA es g c k (Aj AA es b c):=by rw[Ef,if_neg h]
theorem iL {AA:List (List Dd)}{es:List Ev}{c k:Nat}{b:Bd}(hc:c<b.AL.length)(h:b.AL.getD c 0=(k:Int)):(Aj AA es b c).AL.getD c 0=((k+1:Nat):Int)/\Ao (Aj AA es b c) c=k+1:=by
 have e:(Aj AA es b c).AL.getD c 0=((k+1:Nat):Int):=by
  show (b.AL.set c (b.AL.getD c 0+1)).getD c 0=_;rw[BR _ _ _ _ hc,if_pos rfl,h];omega
 exact⟨e,by unfold Ao;rw[e,Int.toNat_natCast]⟩
structure ug (AA:List (List Dd))(es:List Ev)(g:Int)(c M n k0:Nat)(b:Bd)(q:Nat)(b':Bd):Prop where
 Xr:Di AA b' (n+q)
 nx:b'.AL.getD c 0=((k0+q:Nat):Int)
 lt:k0+q<M
 go:Ef AA es g c M b=Ef AA es g c (M-q) b'
theorem Tl (w:World)(m D:Nat)(v:BV)(nv rv:List Value)(bs N:Nat)(AA:List (List Dd))(b:Bd)(n c:Nat)(h:AR w m D v nv rv bs N AA b)(S:Di AA b n)(hn:n<=500)(hc:c<AA.length)(hx0:0<=b.AL.getD c 0)(hxl:Ao b c<(AA.getD c []).length):
  Calls Tryz.prog 53 #[.pointer (some ⟨D,0,none⟩),.int .i64 (c:Int)] w fun e w'=>e = .returned (.tuple #[])/\∃nv' rv',AR w' m D v nv' rv' bs N AA (Ef AA (AB AA) (BP AA c (Ao b c)) c (AA.getD c []).length b)/\Ak w w' (Bp D v nv rv) (Bp D v nv' rv'):=by
 have hd3:AA.length<=3:=(Ay S.work).1
 have hl5:(AA.getD c []).length<=5:=by
  have:=(Ay S.work).2 c hc;simp only[GI,Bool.and_eq_true,decide_eq_true_eq] at this;exact this.2
 have hcx:c<b.AL.length:=by rw[S.AL];exact hc
 obtain⟨vW,vP,vL,vN,vX,vS,vF,vR⟩:=v;obtain⟨gx,cx,eX,-,-,-⟩:=h.oX.lit hcx;simp only at eX;subst eX;have mX:=h.ge .AL trivial gx rfl;have hbase:=h.base;obtain⟨k0,hk0⟩:=Int.eq_ofNat_of_zero_le hx0;have hN0:Ao b c=k0:=by unfold Ao;rw[hk0,Int.toNat_natCast]
 rw[hN0] at hxl ⊢;have CN:=IG w _ AA b c h.rd ⟨hc,S.AL,hx0,by rw[hk0];omega,by omega⟩;have eD:S8 AA b c=Al AA c k0:=by unfold S8;rw[hN0,if_pos hxl]
 have eI:Xq AA b c=true:=by unfold Xq;rw[hN0,decide_eq_true hxl]
 rw[eD,eI] at CN;obtain⟨y0,y1,y2,y3,hy⟩:∃y0 y1 y2 y3:Int,Al AA c k0=(y0,y1,y2,y3):=⟨_,_,_,_,rfl⟩;have hg:BP AA c k0=y3:=by show (Al AA c k0).2.2.2=y3;rw[hy]
 rw[hy] at CN;rw[hg];have len':∃M,M=(AA.getD c []).length:=⟨_,rfl⟩;obtain⟨M,hM⟩:=len';rw[<-hM] at hxl hl5 ⊢;have HM:=Lib.hid hM;clear hM hg hy eD eI hN0;obtain⟨e0,e1,e2,e3,e4,e5,e6,e7⟩:=h.cells;simp only at e0 e1 e2 e3 e4 e5 e6 e7;have i1:(0:Int)<=(c:Int):=Int.natCast_nonneg _;have i2:(c:Int)<(b.AL.length:Int):=by omega
 have i3:¬((10:Int)<=(c:Int)):=by omega
 go_enter Tryz.func53,Tryz.ntmps53
 go_wp2_with fail
 refine CN.mono ?_;rintro e w1 ⟨rfl,k1⟩;clear e0 e1 e2 e3 e4 e5 e6 e7 CN;go_upto_region 6 with fail
 obtain⟨w2,hw2⟩:∃W:World,W=w1.alloc (.cells #[.int .i64 y0,.int .i64 y1,.int .i64 y2,.int .i64 y3] 65):=⟨_,rfl⟩;have kD:AC w1 w2:=by rw[hw2];exact (AC.refl w1).alloc _
 have lD:w1.heap.size<w2.heap.size:=by rw[hw2,AD];omega
 have BX:Hid (w2.cell? ⟨w1.heap.size,3,none⟩=some (.int .i64 y3)):=Lib.hid (by rw[hw2];exact AU (AC.refl _) 3);rw[<-hw2];clear hw2;have NB:¬Bp D ⟨vW,vP,vL,vN,.slice (some ⟨gx,0,none⟩) b.AL.length cx,vS,vF,vR⟩ nv rv w1.heap.size:=fun hB=>by have:=(h.blk _ hB).2.1;have:=k1.size;omega
 have H2:=(h.keep k1).keep kD;have T2:=((Ak.refl w (Bp D ⟨vW,vP,vL,vN,.slice (some ⟨gx,0,none⟩) b.AL.length cx,vS,vF,vR⟩ nv rv)).keep k1).keep kD;have I2:ug AA (AB AA) y3 c M n k0 b 0 b:=⟨S,by rw[hk0];rfl,hxl,rfl⟩;have SL:Hid (∀b' q,ug AA (AB AA) y3 c M n k0 b q b'->b'.AL.length=b.AL.length):=Lib.hid (fun b' q I=>by rw[I.Xr.AL,S.AL]);generalize w1.heap.size=BD at *;clear h S hx0 hk0 k1 kD;go_loopw [9] (fun _ wr=>∃(q:Nat) (b':Bd) (nv' rv':List Value),AR wr m D ⟨vW,vP,vL,vN,.slice (some ⟨gx,0,none⟩) b.AL.length cx,vS,vF,vR⟩ nv' rv' bs N AA b'/\ug AA (AB AA) y3 c M n k0 b q b'/\Ak w2 wr (Bp D ⟨vW,vP,vL,vN,.slice (some ⟨gx,0,none⟩) b.AL.length cx,vS,vF,vR⟩ nv rv) (Bp D ⟨vW,vP,vL,vN,.slice (some ⟨gx,0,none⟩) b.AL.length cx,vS,vF,vR⟩ nv' rv')) (fun _ wr=>M-(intOf ((wr.cell? ⟨gx,c,none⟩).getD undef)).toNat)
 case atStart=>exact⟨0,b,nv,rv,H2,I2,Ak.refl _ _⟩
 case round=>
  obtain⟨q,b',nv',rv',H,I,T⟩:=hrel;clear I2;have hlq:=I.lt;have hbl:=SL.out b' q I;have hcx':c<b'.AL.length:=by rw[hbl];exact hcx
  obtain⟨gx',cx',rA,-,dX,-⟩:=H.oX.lit hcx';simp only[Value.slice.injEq,Option.some.injEq,Addr.mk.injEq,and_true] at rA;obtain⟨rfl,-,rfl⟩:=rA;have d0:=dX c hcx';rw[I.nx] at d0;obtain⟨kq,hkq⟩:∃kq,kq=k0+q:=⟨_,rfl⟩;rw[<-hkq] at d0 hlq;have wU:=Lib.hid hkq;have rq:b'.AL.getD c 0=(kq:Int):=by rw[I.nx,hkq]
  have CD:=SA wr m D _ nv' rv' bs N AA b' (n+q) c kq H I.Xr (by omega) hc (by rw[<-HM.out];exact hlq);have c4:wr.cell? ⟨D,4,none⟩=some (.slice (some ⟨gx,0,none⟩) b.AL.length cx):=H.cells.2.2.2.2.1;have M0:Hid (M-(intOf ((wr.cell? ⟨gx,c,none⟩).getD undef)).toNat=M-kq):=Lib.hid (by rw[d0];simp[intOf]);clear hkq dX;go_wp2_with fail
  refine CD.mono ?_;rintro e w3 ⟨rfl,nv3,rv3,H3,T3⟩;clear CD c4 d0;have hdn:(BL AA (AB AA) b' c kq).AL=b'.AL:=Ml _ _ _ _ _;have hc3:c<(BL AA (AB AA) b' c kq).AL.length:=by rw[hdn];exact hcx'
  obtain⟨gx',cx',rA,lX,dX,fX⟩:=H3.oX.lit hc3;simp only[Value.slice.injEq,Option.some.injEq,Addr.mk.injEq,and_true] at rA;obtain⟨rfl,-,rfl⟩:=rA;have d3:=dX c hc3;rw[hdn,rq] at d3;have f3:=fX c;have c3:w3.cell? ⟨D,4,none⟩=some (.slice (some ⟨gx,0,none⟩) b.AL.length cx):=H3.cells.2.2.2.2.1;have jw:IntKind.i64.wrap ((kq:Int)+1)=(kq:Int)+1:=by rw[IntKind.wrap_i64];omega
  have hON:Hid (Aj AA (AB AA) b' c={ BL AA (AB AA) b' c kq with AL:=(BL AA (AB AA) b' c kq).AL.set c ((kq:Int)+1) }):=Lib.hid (by
   have e:Ao b' c=kq:=by unfold Ao;rw[rq,Int.toNat_natCast]
   rw[Aj,e,rq,hdn])
  have H4:=H3.drew.sZ (k:=c) (x:=(kq:Int)+1) (by show Value.slice _ _ _ = .slice _ _ _;rw[hdn,hbl]);rw[<-hON.out] at H4;have T4:=(T3.keep (AC.refl w3).drew).grown (Ae w3.drew gx c (.int .i64 ((kq:Int)+1))) (fun g hg=>⟨.AL,trivial,hg⟩);obtain⟨on1,on2⟩:=iL (AA:=AA) (es:=AB AA) hcx' rq;have S4:=I.Xr.one c;have CN:=IG _ _ AA _ c H4.rd ⟨hc,S4.AL,by rw[on1];omega,by rw[on1,<-HM.out];omega,by rw[<-HM.out];omega⟩;have eI:Xq AA (Aj AA (AB AA) b' c) c=decide (kq+1<M):=by unfold Xq;rw[on2,HM.out]
  have eD:kq+1<M->S8 AA (Aj AA (AB AA) b' c) c=Al AA c (kq+1):=fun hh=>by unfold S8;rw[on2,if_pos (by rw[<-HM.out];exact hh)]
  rw[eI] at CN;have HST:Hid (∀k,(y3=0\/kq+1=M\/BP AA c (kq+1)≠y3)->Ef AA (AB AA) y3 c (k+1) b'=Aj AA (AB AA) b' c):=Lib.hid (fun k hh=>gP (by rw[on2,<-HM.out];exact hh));have HMO:Hid (∀k,¬(y3=0\/kq+1=M\/BP AA c (kq+1)≠y3)->Ef AA (AB AA) y3 c (k+1) b'=Ef AA (AB AA) y3 c k (Aj AA (AB AA) b' c)):=Lib.hid (fun k hh=>gN (by rw[on2,<-HM.out];exact hh));have ul:Hid (Ef AA (AB AA) y3 c M b=Ef AA (AB AA) y3 c (M-q-1+1) b'):=Lib.hid (by rw[I.go];congr 1;have:=wU.out;omega);have NI:Hid (∀(hh:kq+1<M),(Ef AA (AB AA) y3 c (M-q-1+1) b'=Ef AA (AB AA) y3 c (M-q-1) (Aj AA (AB AA) b' c))->ug AA (AB AA) y3 c M n k0 b (q+1) (Aj AA (AB AA) b' c)):=Lib.hid (fun hh e=>⟨S4,by rw[on1,wU.out];congr 1,by have:=wU.out;omega,by rw[ul.out,e];congr 1⟩);have DX:Hid (∀hh:kq+1<M,(S8 AA (Aj AA (AB AA) b' c) c).2.2.2=BP AA c (kq+1)):=Lib.hid (fun hh=>by rw[eD hh])
  have n4:Hid ((w3.drew.setCell ⟨gx,c,none⟩ (.int .i64 ((kq:Int)+1))).cell? ⟨gx,c,none⟩=some (.int .i64 ((kq:Int)+1))):=Lib.hid (by
   obtain⟨g',c',e',-,dd,-⟩:=H4.oX.lit (k:=c) (by show c<(b'.AL.set c _).length;simpa using hcx');simp only[Value.slice.injEq,Option.some.injEq,Addr.mk.injEq,and_true] at e';obtain⟨rfl,-,rfl⟩:=e';have:=dd c (by show c<(b'.AL.set c _).length;simpa using hcx')
   rw[this,on1];rfl)
  generalize Aj AA (AB AA) b' c=b2 at *;generalize S8 AA b2 c=Y at *;clear eD eI dX fX H H3 S4 hON on1 on2 rq;go_upto_region 8 with (first|go_region|fail)
  obtain⟨w4,hw4⟩:∃W:World,W=(w3.setCell ⟨gx,c,none⟩ (.int .i64 ((kq:Int)+1))).drew:=⟨_,rfl⟩;have e4:w3.drew.setCell ⟨gx,c,none⟩ (.int .i64 ((kq:Int)+1))=w4:=by rw[hw4];rfl
  rw[e4] at H4 T4 CN n4;rw[<-hw4];clear hw4 e4 d3 f3 c3
  have NB':¬Bp D ⟨vW,vP,vL,vN,.slice (some ⟨gx,0,none⟩) b.AL.length cx,vS,vF,vR⟩ nv' rv' BD:=fun hB=>by
   rcases T.news BD hB with h1|h1
   . exact NB h1
   . omega
  have g4:w4.cell? ⟨BD,3,none⟩=some (.int .i64 y3):=(T4.cell (Nat.lt_of_lt_of_le lD T.size) NB').trans ((T.cell lD NB).trans BX.out);have lB4:BD<w4.heap.size:=Nat.lt_of_lt_of_le lD (Nat.le_trans T.size T4.size);obtain⟨e0,e1,e2,e3,e4,e5,e6,e7⟩:=H4.cells;simp only at e0 e1 e2 e3 e4 e5 e6 e7;obtain⟨z0,z1,z2,z3⟩:=Y;simp only at DX;go_wp2_with fail
  refine CN.mono ?_;rintro e w5 ⟨rfl,k5⟩;have H6:=(H4.keep k5).keep ((AC.refl w5).alloc (.cells #[.int .i64 z0,.int .i64 z1,.int .i64 z2,.int .i64 z3] 65));have k6:=k5.trans ((AC.refl w5).alloc (.cells #[.int .i64 z0,.int .i64 z1,.int .i64 z2,.int .i64 z3] 65));have TF:=(T2.trans T).trans (T4.keep k6);have TL:=T.trans (T4.keep k6);have g5:=(k5.cell lB4).trans g4;have lB5:BD<w5.heap.size:=Nat.lt_of_lt_of_le lB4 k5.size;have g6:(w5.alloc (.cells #[.int .i64 z0,.int .i64 z1,.int .i64 z2,.int .i64 z3] 65)).cell? ⟨BD,3,none⟩=some (.int .i64 y3):=(((AC.refl w5).alloc _).cell lB5).trans g5;have lx4:gx<w4.heap.size:=block_lt_of_cell n4.out;have n6:=Lib.hid ((k6.cell (b:=gx) (o:=c) lx4).trans n4.out);clear e0 e1 e2 e3 e4 e5 e6 e7 CN H4 n4 g4 g5;by_cases hy0:y3=0
  ·
   have Q9:y3=0\/kq+1=M\/BP AA c (kq+1)≠y3:= .inl hy0;have b0:(y3==0)=true:=by simp[hy0]
   clear hy0;go_wp2
   (try simp only[Exit.inBlock,Exit.then])
   refine bodyPost_ret (results_none rfl _ _ _) rfl ?_;exact⟨rfl,nv3,rv3,by rw[ul.out,HST.out _ Q9];exact H6,TF⟩
  ·
   have b0:(y3==0)=false:=by simp[hy0]
   by_cases hend:kq+1<M
   ·
    have bI:decide (kq+1<M)=true:=decide_eq_true hend;rw[bI];have hz:=DX.out hend;by_cases l8:z3=y3
    ·
     have HNS:¬(y3=0\/kq+1=M\/BP AA c (kq+1)≠y3):=by
      rintro (h1|h1|h1)
      . exact hy0 h1
      . omega
      . exact h1 (by rw[<-hz];exact l8)
     have I':=NI.out hend (HMO.out _ HNS);have bz:(z3 != y3)=false:=by simp[l8]
     have ZZ:z3=y3:=l8;clear hy0 hz bI l8 ZZ HNS;go_wp2;go_roundw;case rel=>exact⟨q+1,_,nv3,rv3,H6,I',TL⟩
     case measure=>
      rw[M0.out,n6.out];simp only[Option.getD_some,intOf];omega
    ·
     have Q9:y3=0\/kq+1=M\/BP AA c (kq+1)≠y3:= .inr (.inr (by rw[<-hz];exact l8));have bz:(z3 != y3)=true:=by simpa using l8
     clear hy0 hz bI l8;go_wp2
     (try simp only[Exit.inBlock,Exit.then])
     refine bodyPost_ret (results_none rfl _ _ _) rfl ?_;exact⟨rfl,nv3,rv3,by rw[ul.out,HST.out _ Q9];exact H6,TF⟩
   ·
    have Q9:y3=0\/kq+1=M\/BP AA c (kq+1)≠y3:= .inr (.inl (by omega));have bI:decide (kq+1<M)=false:=decide_eq_false hend;rw[bI];clear hy0 bI;go_wp2
    (try simp only[Exit.inBlock,Exit.then])
    refine bodyPost_ret (results_none rfl _ _ _) rfl ?_;exact⟨rfl,nv3,rv3,by rw[ul.out,HST.out _ Q9];exact H6,TF⟩
theorem TO {AA:List (List Dd)}{b:Bd}(h:AW AA b=true){c:Nat}(hc:c<AA.length){x:Nt}(hx:x∈b.AG.getD c []):0<=x.1/\x.1<=2:=by
 simp only[AW,Bool.and_eq_true] at h;have:=List.all_eq_true.1 h.2.2.2 c (List.mem_range.2 hc);simp only[Ln,Bool.and_eq_true,MH,List.all_eq_true] at this;have:=this.2.2 x hx;simp only[Tv,Bool.and_eq_true,decide_eq_true_eq] at this;exact this.1
theorem II (w:World)(m D:Nat)(v:BV)(nv rv:List Value)(bs N:Nat)(AA:List (List Dd))(b:Bd)(s:Int)(h:AR w m D v nv rv bs N AA b)(hb:AW AA b=true)(hs:Gv (Ad AA b) s=true):
  Calls Tryz.prog 53 #[.pointer (some ⟨D,0,none⟩),.int .i64 s] w fun e w'=>e = .returned (.tuple #[])/\∃nv' rv',AR w' m D v nv' rv' bs N AA (Am AA (AB AA) b s)/\Ak w w' (Bp D v nv rv) (Bp D v nv' rv'):=by
 have S:=Di.of hb;have hd3:AA.length<=3:=(Ay S.work).1;have hm:=Ih hs;unfold Ad at hm;rw[List.mem_append,List.mem_map,List.mem_map] at hm;rcases hm with ⟨c,hc,rfl⟩|⟨c,hc,rfl⟩
 ·
  rw[List.mem_filter,List.mem_range] at hc;have hcan:=hc.2;unfold Bh at hcan;simp only[Bool.and_eq_true,decide_eq_true_eq] at hcan
  have e:Am AA (AB AA) b (c:Int)=Ef AA (AB AA) (BP AA c (Ao b c)) c (AA.getD c []).length b:=by
   unfold Am;rw[if_neg (by omega),Int.toNat_natCast]
  rw[e];exact Tl w m D v nv rv bs N AA b 20 c h S (by omega) hc.1 (Fq hb hc.1).1 hcan.1
 ·
  rw[List.mem_filter,List.mem_range] at hc
  have e:Am AA (AB AA) b (10+(c:Int))=BT b c:=by
   unfold Am;rw[if_pos (by omega),show (10+(c:Int)-10).toNat=c by omega]
  rw[e]
  cases hz:b.AG.getD c [] with
  |nil=>rw[hz] at hc;simp at hc
  |cons x r=>
   exact JL w m D v nv rv bs N AA b 20 c x r h S (by omega) hc.1 hz (TO hb hc.1 (by rw[hz];simp))
theorem ZO (w:World)(v:Value)(zs:List Int)(h:Rd w v zs)(hn:zs.length<=1048576)(n:Int):
  Calls Tryz.prog 52 #[v,.int .i64 n] w fun e w'=>e = .returned (.bool (Gv zs n))/\w'=w:=by
 obtain⟨a,c,rfl,h⟩:=h;go_enter Tryz.func52,Tryz.ntmps52
 go_wp2;go_loop [5] (fun i=>∃k:Nat,k<=zs.length/\i = .int .i64 k/\Hid (∀i,i<k->zs.getD i 0≠n)) (fun i=>zs.length-(intOf i).toNat)
 case atStart=>exact⟨0,Nat.zero_le _,rfl,Lib.hid (fun i hi=>absurd hi (Nat.not_lt_zero _))⟩
 case round=>
  obtain⟨k,hk,rfl,hno⟩:=hrel;by_cases hlt:k<zs.length
  ·
   rcases h with h|⟨b,o,rfl,hb,hc⟩
   . exfalso;rw[h] at hlt;simp at hlt
   have d1:=hc k hlt;obtain⟨p,hp⟩:∃p,p=zs.getD k 0:=⟨_,rfl⟩;have HP:=Lib.hid hp;rw[<-hp] at d1;clear hc hp;by_cases he:p=n
   ·
    have hb:(p==n)=true:=by simp[he]
    have HE:Hid (Gv zs n=true):=Lib.hid (mH hlt (by rw[<-HP.out];exact he));clear he;go_wp2;go_ret;exact⟨by rw[HE.out];rfl,rfl⟩
   ·
    have hb:(p==n)=false:=by simp[he]
    have HE:Hid (∀i,i<k+1->zs.getD i 0≠n):=Lib.hid (fun i hi=>by
     by_cases e:i=k
     . subst e;rw[<-HP.out];exact he
     . exact hno.out i (by omega))
    clear he;go_wp2;go_round
    case rel=>exact⟨k+1,by omega,by go_num,HE⟩
    case measure=>simp[intOf];omega
  ·
   obtain rfl:k=zs.length:=by omega
   have HE:Hid (Gv zs n=false):=Lib.hid (ZJ hno.out);go_wp2;go_ret;exact⟨by rw[HE.out];rfl,rfl⟩
def Dw (AA:List (List Dd))(b:Bd)(s:Int):Bd:=if Gv (Ad AA b) s=true then Am AA (AB AA) b s else b
theorem Zm {AA:List (List Dd)}{b:Bd}(hb:AW AA b=true):(Ad AA b).length<=1048576:=by
 have PS:=VH hb;rw[<-LS,List.length_append];have:=Jz AA b AA.length;have:=QZ b AA.length;have:=PS.m;have:=(Ay (ED hb).1).1;omega
theorem Fw (w:World)(bv:BV)(AA:List (List Dd))(b:Bd)(s:Int)(h:CV w bv AA b)(hz:Gi AA b)(hb:AW AA b=true):
  Calls Tryz.prog 19 #[bv.agg,.int .i64 s] w fun e w'=>∃bv' nv rv bs N,e = .returned (.tuple #[BV.agg bv',.bool (Gv (Ad AA b) s)])/\BG w' w.heap.size bv' nv rv bs N AA (Dw AA b s)/\w.heap.size<=bs/\AC w w':=by
 have C:=fun (W:World) (kW:AC w W)=>En W bv AA b (h.keep kW) hz
 rw[hb] at C;have CC:=fun (W:World) (kW:AC w W)=>IE W bv AA b (h.keep kW) hb
 have CP:=fun (W:World) (kW:AC w W)=>Ei W bv AA b (h.keep kW) (VH hb)
 have hpl:=Zm hb;obtain⟨aW,aP,aL,aN,aX,aT,aF,aR,cW,cP,cL,cQ,cX,cT,cF,cR,rfl⟩:=h.shapes;go_enter Tryz.func19,Tryz.ntmps19
 go_upto_region 1 with fail
 obtain⟨w1,hw1⟩:∃W:World,W=(w.alloc (.cells #[.slice aW AA.length cW,.slice aP b.AM.length cP,.slice aL b.AO.length cL,.slice aN b.AG.length cQ,.slice aX b.AL.length cX,.slice aT b.sn.length cT,.slice aF b.fr.length cF,.slice aR b.rws.length cR] 36)).alloc (.cells #[AE,AE,AE,AE,AE,AE,AE,AE] 36):=⟨_,rfl⟩;have K1:AC w w1:=by rw[hw1];exact ((AC.refl w).alloc _).alloc _
 have s1:w1.heap.size=w.heap.size+1+1:=by rw[hw1,AD,AD]
 have hB1:w1.heap[w.heap.size]? = some (.cells #[.slice aW AA.length cW,.slice aP b.AM.length cP,.slice aL b.AO.length cL,.slice aN b.AG.length cQ,.slice aX b.AL.length cX,.slice aT b.sn.length cT,.slice aF b.fr.length cF,.slice aR b.rws.length cR] 36 (0,0)):=by rw[hw1];exact CX ((AC.refl _).alloc _)
 have hR1:w1.heap[w.heap.size+1]? = some (.cells #[AE,AE,AE,AE,AE,AE,AE,AE] 36 (0,0)):=by rw[hw1,<-AD w (.cells #[.slice aW AA.length cW,.slice aP b.AM.length cP,.slice aL b.AO.length cL,.slice aN b.AG.length cQ,.slice aX b.AL.length cX,.slice aT b.sn.length cT,.slice aF b.fr.length cF,.slice aR b.rws.length cR] 36)];exact heap_alloc_new _ _
 rw[<-hw1];clear hw1;have s2:w.heap.size+1<w1.heap.size:=by omega
 clear s1;go_wp2_with (first|refine wpList_load_row rfl 36 _ rfl w.heap.size rfl 36 _ (0,0) _ hB1 Tryz.underlying36 rfl AK ?_|fail)
 refine (C _ K1).mono ?_;rintro e w3 ⟨rfl,k3⟩;have hB3:=(Below.block k3 w.heap.size (by omega)).trans hB1;have hR3:=(Below.block k3 (w.heap.size+1) s2).trans hR1;have K3:=K1.trans k3;have s3:=k3.size;clear C hB1 hR1 k3;go_wp2_with (first|refine wpList_load_row rfl 36 _ rfl w.heap.size rfl 36 _ (0,0) _ hB3 Tryz.underlying36 rfl AK ?_|fail)
 refine (CC _ K3).mono ?_;rintro e w4 ⟨bv2,nv,rv,bs,N,rfl,hV,hbs,k4⟩;have s4:=k4.size;obtain⟨Xj,Xg,Xe,Xf,Xk,Xi,Xd,Xh,cW2,cP2,cL2,cQ2,cX2,cT2,cF2,cR2,rfl⟩:=(hV.box s4).rd.shapes;have H5:=hV.box s4;have hbs2:w.heap.size<=bs:=by omega
 have hB4:=(Below.block k4 w.heap.size (by omega)).trans hB3;have hR4:=(Below.block k4 (w.heap.size+1) (by omega)).trans hR3;clear hB3 hR3 CC;go_upto_region 4 with fail
 obtain⟨w5,hw5⟩:∃W:World,W=w4.alloc (.cells #[.slice Xj AA.length cW2,.slice Xg b.AM.length cP2,.slice Xe b.AO.length cL2,.slice Xf b.AG.length cQ2,.slice Xk b.AL.length cX2,.slice Xi b.sn.length cT2,.slice Xd b.fr.length cF2,.slice Xh b.rws.length cR2] 36):=⟨_,rfl⟩;have k5:AC w4 w5:=by rw[hw5];exact (AC.refl w4).alloc _
 replace H5:AR w5 w3.heap.size w4.heap.size ⟨.slice Xj AA.length cW2,.slice Xg b.AM.length cP2,.slice Xe b.AO.length cL2,.slice Xf b.AG.length cQ2,.slice Xk b.AL.length cX2,.slice Xi b.sn.length cT2,.slice Xd b.fr.length cF2,.slice Xh b.rws.length cR2⟩ nv rv bs N AA b:=by rw[hw5];exact H5
 rw[<-hw5];clear hw5 hV;have K5:=(K3.trans k4).trans k5;have hB5:=(Below.block k5 w.heap.size (by omega)).trans hB4;have hR5:=(Below.block k5 (w.heap.size+1) (by omega)).trans hR4;have m0:w.heap.size+1<w3.heap.size:=by omega
 have D0:w3.heap.size<=w4.heap.size:=s4;have s5:=k5.size;generalize w3.heap.size=m at *;generalize hD:w4.heap.size=D at *;clear hD hB4 hR4 k4 k5 K3 K1;go_wp2_with (first|refine wpList_load_row rfl 36 _ rfl w.heap.size rfl 36 _ (0,0) _ hB5 Tryz.underlying36 rfl AK ?_|fail)
 refine (CP _ K5).mono ?_;rintro e w6 ⟨vp,rfl,op,k6⟩;have H6:=H5.keep k6;have hR6:=(Below.block k6 (w.heap.size+1) (by omega)).trans hR5;have K6:=K5.trans k6;clear CP hB5 hR5 H5;obtain⟨ap,cp,rfl,-⟩:=id op.rd;go_wp2_with fail
 refine (ZO _ _ _ op.rd hpl s).mono ?_;rintro e w7 ⟨rfl,rfl⟩;clear op;cases hp:Gv (Ad AA b) s
 ·
  have HS:Hid (Dw AA b s=b):=Lib.hid (by unfold Dw;rw[hp];simp);have HP:=Lib.hid hp;clear hp;have Gs:=H6.JK;have Ur:=hR6;simp only[BV.arr] at Gs;have HG:=Lib.hid (Af w7 (w.heap.size+1) #[.slice Xj AA.length cW2,.slice Xg b.AM.length cP2,.slice Xe b.AO.length cL2,.slice Xf b.AG.length cQ2,.slice Xk b.AL.length cX2,.slice Xi b.sn.length cT2,.slice Xd b.fr.length cF2,.slice Xh b.rws.length cR2]);have HZ:=Lib.hid (setRow_heap w7 (w.heap.size+1) _ #[.slice Xj AA.length cW2,.slice Xg b.AM.length cP2,.slice Xe b.AO.length cL2,.slice Xf b.AG.length cQ2,.slice Xk b.AL.length cX2,.slice Xi b.sn.length cT2,.slice Xd b.fr.length cF2,.slice Xh b.rws.length cR2] _ _ Ur);have Tg:∀q,some (w.heap.size+1)=some q->q<m/\(q<bs\/N<=q):=fun q hq=>by have:=Option.some.inj hq;omega
  have HO:=Lib.hid (((H6.far HG.out Tg).val).Az (show w.heap.size<=m by omega));have HKK:=Lib.hid ((K6:AC w w7).grown HG.out (fun q hq=>by have:=Option.some.inj hq;omega));go_wp2_with (first|refine wpList_load_row rfl 36 _ rfl D rfl 36 _ (0,0) _ Gs Tryz.underlying36 rfl AK ?_|refine wpList_store_row rfl 36 _ _ rfl (w.heap.size+1) _ rfl rfl 36 _ Ur AK rfl (by simp[Value.oneCell']) ?_|fail)
  refine bodyPost_ret (As (by rfl) _ _ (w.heap.size+1) _ _ (0,0) _ (.bool false) rfl HZ.out rfl Tryz.underlying36 rfl AK) rfl ?_;exact⟨⟨.slice Xj AA.length cW2,.slice Xg b.AM.length cP2,.slice Xe b.AO.length cL2,.slice Xf b.AG.length cQ2,.slice Xk b.AL.length cX2,.slice Xi b.sn.length cT2,.slice Xd b.fr.length cF2,.slice Xh b.rws.length cR2⟩,_,_,bs,N,by rw[HP.out],by rw[HS.out];exact HO.out,hbs2,HKK.out⟩
 ·
  have HS:Hid (Dw AA b s=Am AA (AB AA) b s):=Lib.hid (by unfold Dw;rw[if_pos hp]);have HP:=Lib.hid hp;go_wp2_with fail
  refine (II _ m D _ nv rv bs N AA b s H6 hb hp).mono ?_;rintro e w8 ⟨rfl,nv8,rv8,H8,T8⟩;have TL:=T8.low (m:=m) (by have:=H6.base;omega) (fun g hg=>(H6.blk g hg).1);have K8:AC w w8:=Below.trans K6 (Below.mono TL (by omega));have hR8:=(Below.block TL (w.heap.size+1) (by omega)).trans hR6;clear H6 T8 TL K6 hR6 hp;obtain⟨nb,hnb⟩:∃nb,nb=Am AA (AB AA) b s:=⟨_,rfl⟩;rw[<-hnb] at H8;replace HS:Hid (Dw AA b s=nb):=Lib.hid (by rw[HS.out,hnb]);clear hnb;have Gs:=H8.JK;have Ur:=hR8;simp only[BV.arr] at Gs;have HG:=Lib.hid (Af w8 (w.heap.size+1) #[.slice Xj AA.length cW2,.slice Xg b.AM.length cP2,.slice Xe b.AO.length cL2,.slice Xf b.AG.length cQ2,.slice Xk b.AL.length cX2,.slice Xi b.sn.length cT2,.slice Xd b.fr.length cF2,.slice Xh b.rws.length cR2]);have HZ:=Lib.hid (setRow_heap w8 (w.heap.size+1) _ #[.slice Xj AA.length cW2,.slice Xg b.AM.length cP2,.slice Xe b.AO.length cL2,.slice Xf b.AG.length cQ2,.slice Xk b.AL.length cX2,.slice Xi b.sn.length cT2,.slice Xd b.fr.length cF2,.slice Xh b.rws.length cR2] _ _ Ur);have Tg:∀q,some (w.heap.size+1)=some q->q<m/\(q<bs\/N<=q):=fun q hq=>by have:=Option.some.inj hq;omega
  have HO:=Lib.hid (((H8.far HG.out Tg).val).Az (show w.heap.size<=m by omega));have HKK:=Lib.hid ((K8:AC w w8).grown HG.out (fun q hq=>by have:=Option.some.inj hq;omega));go_wp2_with (first|refine wpList_load_row rfl 36 _ rfl D rfl 36 _ (0,0) _ Gs Tryz.underlying36 rfl AK ?_|refine wpList_store_row rfl 36 _ _ rfl (w.heap.size+1) _ rfl rfl 36 _ Ur AK rfl (by simp[Value.oneCell']) ?_|fail)
  refine bodyPost_ret (As (by rfl) _ _ (w.heap.size+1) _ _ (0,0) _ (.bool true) rfl HZ.out rfl Tryz.underlying36 rfl AK) rfl ?_;exact⟨⟨.slice Xj AA.length cW2,.slice Xg b.AM.length cP2,.slice Xe b.AO.length cL2,.slice Xf b.AG.length cQ2,.slice Xk b.AL.length cX2,.slice Xi b.sn.length cT2,.slice Xd b.fr.length cF2,.slice Xh b.rws.length cR2⟩,_,_,bs,N,by rw[HP.out],by rw[HS.out];exact HO.out,hbs2,HKK.out⟩
def GZ (AA:List (List Dd))(b:Bd):List (List Dd):=if AW AA b=true then AA else []
def B7 (AA:List (List Dd))(b:Bd)(s:Int):Bd:=if AW AA b=true then Dw AA b s else MV
def Hi (AA:List (List Dd))(b:Bd)(s:Int):Bool:=AW AA b&&Gv (Ad AA b) s
def VM (AA:List (List Dd))(b:Bd)(c:Int):Bool:=decide (0<=c)&&decide (c<(AA.length:Int))&&Bh AA b c.toNat
def sw (AA:List (List Dd))(b:Bd)(c:Int):Bd:=if VM AA b c=true then Bf AA (AB AA) b c.toNat else b
def jc (AA:List (List Dd))(b:Bd):List (List Dd):=if AW AA b=true then AA else []
def Qh (AA:List (List Dd))(b:Bd)(c:Int):Bd:=if AW AA b=true then sw AA b c else MV
abbrev mK (Aq:List (List Int))(i:Nat):Nat:=(Aq.getD i []).length
abbrev Zz (V:Nat->Value)(Aq:List (List Int)):List (Value×Nat):=JO 1 V (mK Aq) Aq.length
structure US (w:World)(m M:Nat)(v:Value)(Aq:List (List Int)):Prop where
 rd:RJ w v Aq
 ex:∃V:Nat->Value,Xz w v V Aq.length (IV (Zz V Aq))/\(∀i,i<Aq.length->Xc (V i) (mK Aq i))/\RA w (Zz V Aq)/\∀x,IV (Zz V Aq) x->m<=x.block/\x.block<M
 hd:dJ v Aq.length m
theorem Jg {V:Nat->Value}{Aq:List (List Int)}{x:Addr}(h:IV (Zz V Aq) x):∃i,i<Aq.length/\IU (V i) (mK Aq i) x:=by
 obtain⟨r,hr,hx⟩:=h;obtain⟨i,hi,rfl⟩:=(PU 1 V (mK Aq) _ _).1 hr;exact⟨i,hi,by rw[Nat.one_mul] at hx;exact hx⟩
theorem DM.free {w:World}{m:Nat}{v:Value}{hs:List Value}{xss:List (List Int)}(h:DM 28 Bn w m v hs xss):US w m w.heap.size v xss:=by
 have o0:(EP 28 hs v).own w m:=h.Ai.own none trivial;have oi:∀i,i<xss.length->(Bn (xss.getD i []) (hs.getD i AE)).own w m:=fun i hi=>h.Ai.own (some i) (show i<hs.length by rw[h.len];exact hi)
 have ni:∀i,i<xss.length->Ek hs.length (some i):=fun i hi=>show i<hs.length by rw[h.len];exact hi
 have bl:∀i,i<xss.length->∀x,IU (hs.getD i AE) (mK xss i) x->Wb w x/\m<=x.block/\(hs.getD i AE).ownBlock=some x.block:=fun i hi x hx=>Rw.wb (oi i hi) (n:=mK xss i) (by show (xss.getD i []).length<=(xss.getD i []).length*1;omega) hx
 obtain⟨a,c,e,H⟩:=Bt o0;refine⟨⟨a,c,by rw[<-h.len];exact e,?_⟩,⟨fun i=>hs.getD i AE,⟨a,c,by rw[<-h.len];exact e,?_⟩,fun i hi=>Rw.Sj (oi i hi),⟨fun x hx=>?_,?_⟩,fun x hx=>?_⟩,?_⟩
 ·
  rcases H with H|⟨g,rfl,hg,hc⟩
  . exact .inl (List.eq_nil_of_length_eq_zero (by rw[<-h.len,H];rfl))
  . exact .inr ⟨g,0,rfl,hg,fun i hi=>⟨_,by rw[Nat.zero_add];exact hc i (by rw[h.len];exact hi),BM.rd (oi i hi)⟩⟩
 ·
  rcases H with H|⟨g,rfl,hg,hc⟩
  . exact .inl (by rw[<-h.len,H];rfl)
  ·
   refine .inr ⟨g,0,rfl,hg,fun i hi=>⟨by rw[Nat.zero_add];exact hc i (by rw[h.len];exact hi),fun hr=>?_⟩⟩;obtain⟨j,hj,hx⟩:=Jg hr;have q:=(bl j hj _ hx).2.2;rcases h.Ai.apart (some j) none (ni j hj) trivial (by simp) with h1|h1
   . rw[show (LJ 28 Bn v hs xss (some j)).v=hs.getD j AE from rfl,q] at h1;cases h1
   . exact h1 (by rw[show (LJ 28 Bn v hs xss (some j)).v=hs.getD j AE from rfl,q,show (LJ 28 Bn v hs xss none).v=v from rfl,e];rfl)
 ·
  obtain⟨i,hi,q⟩:=Jg hx;exact (bl i hi x q).1
 ·
  rw[show Zz (fun i=>hs.getD i AE) xss=(List.range xss.length).map (fun i=>(hs.getD i AE,1*mK xss i)) from LV 1 _ _ _,List.pairwise_map];refine (List.nodup_range (n:=xss.length)).imp_of_mem ?_;intro i j hi hj hne x hx hy;rw[Nat.one_mul] at hx hy;have hi:=List.mem_range.1 hi;have hj:=List.mem_range.1 hj;have q1:=(bl i hi x hx).2.2;have q2:=(bl j hj x hy).2.2;rcases h.Ai.apart (some i) (some j) (ni i hi) (ni j hj) (by simpa using hne) with h1|h1
  . rw[show (LJ 28 Bn v hs xss (some i)).v=hs.getD i AE from rfl,q1] at h1;cases h1
  . exact h1 (by rw[show (LJ 28 Bn v hs xss (some i)).v=hs.getD i AE from rfl,q1,show (LJ 28 Bn v hs xss (some j)).v=hs.getD j AE from rfl,q2])
 ·
  obtain⟨i,hi,q⟩:=Jg hx;have q1:=bl i hi x q;exact⟨q1.2.1,q1.1.lt⟩
 ·
  intro b o l c' e' hn;have:=h.Ai.lt (i:=none) trivial b (by show v.ownBlock=some b;rw[e'];rfl);exact this.1
theorem Nj (w:World)(v vo:Value)(Aq:List (List Int))(x:List Int)(h:RJ w v Aq)(hx:Rd w vo x)(hl:Aq.length<=1099511627776)(hm:∀i,i<Aq.length->(Aq.getD i []).length<=1048576):
  Calls Tryz.prog 15 #[v,vo] w fun e w'=>e = .returned (.bool (Jb Aq x))/\AC w w':=by
 obtain⟨a,c,rfl,h⟩:=h;go_enter Tryz.func15,Tryz.ntmps15
 go_wp2;go_loopw [5] (fun i wr=>∃k:Nat,k<=Aq.length/\i = .int .i64 k/\Hid (∀q,q<k->Aq.getD q []≠x)/\AC w wr) (fun i _=>Aq.length-(intOf i).toNat)
 case atStart=>exact⟨0,Nat.zero_le _,rfl,Lib.hid (fun q hq=>absurd hq (Nat.not_lt_zero _)),AC.refl _⟩
 case round=>
  obtain⟨k,hk,rfl,hno,hK⟩:=hrel;by_cases hlt:k<Aq.length
  ·
   rcases h with h|⟨b,o,rfl,hb,hc⟩
   . exfalso;rw[h] at hlt;simp at hlt
   obtain⟨vi,d1,rd⟩:=hc k hlt;have d1:=(hK.cell hb).trans d1;have CS:=Sf wr vi vo _ x (rd.keep hK) (hx.keep hK) (hm k hlt);have i1:(0:Int)<=(k:Int):=Int.natCast_nonneg _;have i2:(k:Int)<(Aq.length:Int):=by omega
   have HM:=Lib.hid hm;have HX:=Lib.hid hx;clear hc rd hm hx;go_wp2_with fail
   refine CS.mono ?_;rintro e wz ⟨rfl,kk⟩;clear CS;by_cases he:Aq.getD k []=x
   ·
    have HE:=Lib.hid (Rz hlt he);rw[decide_eq_true he];clear he;go_wp2;go_ret;exact⟨by rw[HE.out];rfl,hK.trans kk⟩
   ·
    have HE:=Lib.hid he;rw[decide_eq_false he];clear he;go_wp2;go_roundw
    case rel=>
     refine⟨k+1,by omega,by go_num,Lib.hid (fun q hq=>?_),hK.trans kk⟩;by_cases e:q=k
     . rw[e];exact HE.out
     . exact hno.out q (by omega)
    case measure=>simp[intOf];omega
  ·
   obtain rfl:k=Aq.length:=by omega
   have HE:=Lib.hid (PA hno.out);go_wp2;go_ret;exact⟨by rw[HE.out];rfl,hK⟩
theorem Pm (a:Int):0<=bits .and .i64 a 255/\bits .and .i64 a 255<=255:=by
 have e:bits .and .i64 a 255=IntKind.i64.wrap (((BitVec.ofInt 64 a &&& BitVec.ofInt 64 255).toNat:Nat):Int):=rfl
 have h:(BitVec.ofInt 64 a &&& BitVec.ofInt 64 255).toNat<=255:=by
  rw[BitVec.toNat_and];exact Nat.and_le_right
 rw[e,IntKind.wrap_i64];omega
def Q4 (w:World)(B:Nat)(a:Option Addr)(zs:List Int):Prop:=
 zs.length<=4096/\(zs=[]\/∃b off,a=some ⟨b,off,none⟩/\b<B/\b<w.heap.size/\∀i,i<zs.length->w.cell? ⟨b,off+i,none⟩=some (.int .u8 (zs.getD i 0))/\0<=zs.getD i 0/\zs.getD i 0<=255)
def Lj (w:World)(B g:Nat):Prop:=
 B<=g/\∃(a:Option Addr) (cap:Nat) (zs:List Int) (i:Nat) (h:Int),w.heap[g]? = some (.cells #[.slice a zs.length cap,.int .i64 i,.int .i64 h] 91 (0,0))/\i<=zs.length/\Q4 w B a zs
theorem Q4.kept {w w':World}{B:Nat}{a:Option Addr}{zs:List Int}{row:Option Nat}(h:Q4 w B a zs)(hg:w.grownBy w' row)(hr:∀k,row=some k->B<=k):Q4 w' B a zs:=by
 refine⟨h.1,?_⟩;rcases h.2 with h|⟨b,off,ha,hb,hbs,hc⟩
 . exact .inl h
 ·
  refine .inr ⟨b,off,ha,hb,Nat.lt_of_lt_of_le hbs hg.size,fun i hi=>⟨?_,(hc i hi).2⟩⟩;rw[World.cell?_of_block (w:=w) (hg.block b hbs (fun e=>by have:=hr b e.symm;omega))];exact (hc i hi).1
theorem Q4.up {w w':World}{a:Option Addr}{zs:List Int}(h:Q4 w w.heap.size a zs)(k:AC w w'):Q4 w' w'.heap.size a zs:=by
 have h':=h.kept k.grownBy (by simp);refine⟨h'.1,?_⟩;rcases h'.2 with e|⟨b,off,ha,hb,hbs,hc⟩
 . exact .inl e
 . exact .inr ⟨b,off,ha,hbs,hbs,hc⟩
theorem Lj.lt {w:World}{B g:Nat}(h:Lj w B g):g<w.heap.size:=by
 obtain⟨_,a,cap,zs,i,x,hh,_⟩:=h;exact (Array.getElem?_eq_some_iff.1 hh).1
theorem Lj.kept {w w':World}{B g:Nat}{row:Option Nat}(h:Lj w B g)(hg:w.grownBy w' row)(hne:row≠some g)(hr:∀k,row=some k->B<=k):Lj w' B g:=by
 have hlt:=h.lt;obtain⟨hB,a,cap,zs,i,x,hh,hi,hb⟩:=h;exact⟨hB,a,cap,zs,i,x,by rw[hg.block g hlt (fun e=>hne e.symm)];exact hh,hi,hb.kept hg hr⟩
theorem Lj.keep {w w':World}{B g:Nat}(h:Lj w B g)(k:AC w w'):Lj w' B g:=h.kept k.grownBy (by simp) (by simp)
def MA (w:World)(B g:Nat)(a:Option Addr)(cap:Nat)(zs:List Int)(i h:Int):Prop:=
 B<=g/\w.heap[g]? = some (.cells #[.slice a zs.length cap,.int .i64 i,.int .i64 h] 91 (0,0))/\Q4 w B a zs
theorem MA.cur {w:World}{B g:Nat}{a:Option Addr}{cap:Nat}{zs:List Int}{i h:Int}(c:MA w B g a cap zs i h)(h0:0<=i)(hi:i<=zs.length):Lj w B g:=by
 obtain⟨n,rfl⟩:=Int.eq_ofNat_of_zero_le h0;exact⟨c.1,a,cap,zs,n,h,c.2.1,by omega,c.2.2⟩
theorem Av (w:World)(g j:Nat)(v:Value):w.grownBy (w.setCell ⟨g,j,none⟩ v) (some g):=
 ⟨rfl,rfl,rfl,by simp,fun k _ hk=>heap_setCell_other w ⟨g,j,none⟩ k v (fun e=>hk (by simp[e]))⟩
theorem MA.tY {w:World}{B g:Nat}{a:Option Addr}{cap:Nat}{zs:List Int}{i h:Int}(c:MA w B g a cap zs i h)(y:Int):MA (w.setCell ⟨g,2,none⟩ (.int .i64 y)) B g a cap zs i y:=
 ⟨c.1,by rw[heap_setCell_same w g 2 _ _ _ c.2.1];rfl,c.2.2.kept (Av w g 2 _) (by intro k hk;simp at hk;subst hk;exact c.1)⟩
theorem MA.zi {w:World}{B g:Nat}{a:Option Addr}{cap:Nat}{zs:List Int}{i h:Int}(c:MA w B g a cap zs i h)(y:Int):MA (w.setCell ⟨g,1,none⟩ (.int .i64 y)) B g a cap zs y h:=
 ⟨c.1,by rw[heap_setCell_same w g 1 _ _ _ c.2.1];rfl,c.2.2.kept (Av w g 1 _) (by intro k hk;simp at hk;subst hk;exact c.1)⟩
theorem EX (w:World)(n:Nat)(row:Option Nat):w.grownBy (w.drewN n) row:=⟨rfl,rfl,rfl,Nat.le_refl _,fun _ _ _=>rfl⟩
theorem MA.drewN {w:World}{B g:Nat}{a:Option Addr}{cap:Nat}{zs:List Int}{i h:Int}(c:MA w B g a cap zs i h)(n:Nat):MA (w.drewN n) B g a cap zs i h:=
 ⟨c.1,c.2.1,c.2.2.kept (row:=none) (EX w n none) (by simp)⟩
theorem Hw (w:World)(B g:Nat)(hc:Lj w B g):
  Calls Tryz.prog 75 #[.pointer (some ⟨g,0,none⟩)] w fun e w'=>∃x,e = .returned (.int .i64 x)/\0<=x/\x<=255/\Lj w' B g/\w.grownBy w' (some g):=by
 obtain⟨hB,a,cap,zs,i,x,hh,hi,hb⟩:=hc;have C:MA w B g a cap zs i x:=⟨hB,hh,hb⟩;have c0:w.cell? ⟨g,0,none⟩=some (.slice a zs.length cap):=by rw[cell_of_row w g 0 _ _ (0,0) hh];rfl
 have c1:w.cell? ⟨g,1,none⟩=some (.int .i64 i):=by rw[cell_of_row w g 1 _ _ (0,0) hh];rfl
 have c2:w.cell? ⟨g,2,none⟩=some (.int .i64 x):=by rw[cell_of_row w g 2 _ _ (0,0) hh];rfl
 have f1:w.frozen? ⟨g,1,none⟩=false:=frozen_of_row w g 1 _ _ hh;have f2:w.frozen? ⟨g,2,none⟩=false:=frozen_of_row w g 2 _ _ hh;clear hh;have hzl:=hb.1;by_cases hlt:i<zs.length
 ·
  rcases hb.2 with h|⟨b,off,rfl,hbB,hbs,hcc⟩
  . exfalso;rw[h] at hlt;simp at hlt
  obtain⟨d1,d2,d3⟩:=hcc i hlt;have hbg:b≠g:=by omega
  obtain⟨q,hq⟩:∃q,q=zs.getD i 0:=⟨_,rfl⟩;rw[<-hq] at d1 d2 d3;clear hcc hq hb;go_enter Tryz.func75,Tryz.ntmps75
  go_wp2;go_quiet (fail)
  go_wp2;go_quiet (fail)
  go_wp2;go_quiet (fail)
  go_wp2;go_ret;exact⟨_,rfl,(Pm _).1,(Pm _).2,(((C.tY _).drewN _).zi _).cur (by omega) (by omega),BF (BF (Av w g 2 _) (EX _ _ _)) (Av _ g 1 _)⟩
 ·
  clear hb;go_enter Tryz.func75,Tryz.ntmps75
  go_wp2;go_quiet (fail)
  go_wp2;go_quiet (fail)
  go_wp2;go_ret;exact⟨_,rfl,(Pm _).1,(Pm _).2,(((C.tY _).drewN _).drewN _).cur (by omega) (by omega),BF (BF (Av w g 2 _) (EX _ _ _)) (EX _ _ _)⟩
theorem U7 (w:World)(a:Option Addr)(cap:Nat)(zs:List Int)(hb:Q4 w w.heap.size a zs):
  Calls Tryz.prog 33 #[.slice a zs.length cap] w fun e w'=>e = .returned (.pointer (some ⟨w.heap.size,0,none⟩))/\Lj w' w.heap.size w.heap.size/\AC w w':=by
 have hzl:=hb.1;go_enter Tryz.func33,Tryz.ntmps33
 go_wp2;go_loop [3,4] (fun x i=>∃(k:Nat) (h:Int),k<=zs.length/\i = .int .i64 k/\x = .int .i64 h) (fun _ i=>zs.length-(intOf i).toNat)
 case atStart=>exact⟨0,_,Nat.zero_le _,rfl,rfl⟩
 case round=>
  obtain⟨k,h,hk,rfl,rfl⟩:=hrel;by_cases hlt:k<zs.length
  ·
   rcases hb.2 with h|⟨b,off,rfl,hbB,hbs,hcc⟩
   . exfalso;rw[h] at hlt;simp at hlt
   obtain⟨d1,d2,d3⟩:=hcc k hlt;obtain⟨q,hq⟩:∃q,q=zs.getD k 0:=⟨_,rfl⟩;rw[<-hq] at d1 d2 d3;clear hcc hq;go_wp2;go_round
   case rel=>exact⟨k+1,_,by omega,by go_num,rfl⟩
   case measure=>simp[intOf];omega
  ·
   go_wp2;go_ret;refine⟨rfl,⟨Nat.le_refl _,a,cap,zs,0,h,heap_alloc_new w _,Nat.zero_le _,?_⟩,(AC.refl w).alloc _⟩;exact hb.kept (World.grownBy_alloc w _ none) (by simp)
theorem J5 {x n:Int}(h1:1<=n):0<=x % n/\x % n<n:=⟨Int.emod_nonneg x (by omega),Int.emod_lt_of_pos x (by omega)⟩
theorem BO (w:World)(B g:Nat)(n:Int)(hc:Lj w B g)(h1:1<=n):
  Calls Tryz.prog 37 #[.pointer (some ⟨g,0,none⟩),.int .i64 n] w fun e w'=>∃x,e = .returned (.int .i64 x)/\0<=x/\x<n/\Lj w' B g/\w.grownBy w' (some g):=by
 by_cases h2:n<=256
 ·
  go_enter Tryz.func37,Tryz.ntmps37
  go_wp2_with fail
  refine (Hw _ B g hc).mono ?_;rintro e w1 ⟨x,rfl,x0,x1,c1,g1⟩;go_wp2;go_ret;exact⟨_,rfl,(J5 h1).1,(J5 h1).2,c1,g1⟩
 ·
  go_enter Tryz.func37,Tryz.ntmps37
  go_wp2_with fail
  refine (Hw _ B g hc).mono ?_;rintro e w1 ⟨x,rfl,x0,x1,c1,g1⟩;go_wp2_with fail
  refine (Hw _ B g c1).mono ?_;rintro e w2 ⟨y,rfl,y0,y1,c2,g2⟩;go_wp2_with fail
  refine (Hw _ B g c2).mono ?_;rintro e w3 ⟨z,rfl,z0,z1,c3,g3⟩;go_wp2_with fail
  refine (Hw _ B g c3).mono ?_;rintro e w4 ⟨u,rfl,u0,u1,c4,g4⟩;go_wp2;go_ret;exact⟨_,rfl,(J5 h1).1,(J5 h1).2,c4,BF (BF (BF g1 g2) g3) g4⟩
theorem Fd (w:World)(B g:Nat)(n:Int)(hc:Lj w B g)(h1:1<=n):
  Calls Tryz.prog 35 #[.pointer (some ⟨g,0,none⟩),.int .i64 n] w fun e w'=>∃b:Bool,e = .returned (.bool b)/\Lj w' B g/\w.grownBy w' (some g):=by
 go_enter Tryz.func35,Tryz.ntmps35
 go_wp2_with fail
 refine (BO _ B g _ hc h1).mono ?_;rintro e w1 ⟨x,rfl,x0,x1,c1,g1⟩;go_wp2;go_ret;exact⟨_,rfl,c1,g1⟩
theorem QU {w1 w2:World}{e:TypeId}{row:Option Nat}(l:List Int)(hg:(w1.alloc (.cells (l.map (Value.int .i64)).toArray e)).grownBy w2 row)(hne:row≠some w1.heap.size)(j:Nat)(hj:j<l.length):
  ∃y,w2.cell? ⟨w1.heap.size,j,none⟩=some (.int .i64 y):=by
 refine⟨l[j],?_⟩;have h1:=heap_alloc_new w1 (.cells (l.map (Value.int .i64)).toArray e);rw[World.cell?_of_block (w:=w1.alloc (.cells (l.map (Value.int .i64)).toArray e)) (hg.block w1.heap.size (by simp) (fun e=>hne e.symm)),cell_of_row _ _ j _ _ _ h1];simp[hj]
theorem T0 {w:World}{a:Option Addr}{len cap:Nat}{ys:List Int}(hlen:len<=4096)
  (h:(a=none/\len=0/\cap=0/\ys=[])\/∃x,a=some x/\len<=cap/\cap<=maxLen/\ys.length=cap/\(∀i,i<ys.length->w.cell? (x.add i)=some (.int .u8 (ys.getD i 0)))/\∀n∈ys,(Lit.int .u8 n).wf=true):
  ∃zs:List Int,zs.length=len/\Q4 w w.heap.size a zs:=by
 rcases h with ⟨rfl,rfl,rfl,rfl⟩|⟨x,rfl,hl,hm,hy,hc,hw⟩
 . exact⟨[],rfl,by simp,.inl rfl⟩
 ·
  have hzl:(ys.take len).length=len:=by rw[List.length_take];omega
  refine⟨ys.take len,hzl,by omega,?_⟩;by_cases h0:len=0
  . left;subst h0;simp
  ·
   right;obtain⟨b,off,spot⟩:=x;have hc0:=hc 0 (by omega);have hspot:spot=none:=by simpa [Addr.add] using World.cell?_spot hc0
   subst hspot
   have hcc:∀i,i<(ys.take len).length->w.cell? ⟨b,off+i,none⟩=some (.int .u8 ((ys.take len).getD i 0))/\0<=(ys.take len).getD i 0/\(ys.take len).getD i 0<=255:=by
    intro i hi;have hi':i<ys.length:=by omega
    have h1:=hc i hi';have e1:(⟨b,off,none⟩:Addr).add i=⟨b,off+i,none⟩:=by unfold Addr.add;split<;>simp_all
    rw[e1] at h1
    have e2:(ys.take len).getD i 0=ys.getD i 0:=by
     rw[List.getD_eq_getElem?_getD,List.getD_eq_getElem?_getD,List.getElem?_take,if_pos (by omega)]
    rw[e2];refine⟨h1,?_⟩;have hm:ys.getD i 0∈ys:=by rw[List.getD_eq_getElem?_getD,List.getElem?_eq_getElem hi'];exact List.getElem_mem hi'
    have:=bounds_u8 (hw _ hm);omega
   refine⟨b,off,rfl,?_,?_,hcc⟩
   all_goals
    have h2:=(hcc 0 (by omega)).1;apply Classical.byContradiction;intro hnb;have h3:w.heap[b]? = none:=by simp;omega
    simp[World.cell?,h3] at h2
end Go.Proofs.YtnmelakgmgenjaaGreat
