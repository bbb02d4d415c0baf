/- Gathered texts. -/
import Derived.Test.YtflehmepjhikcaaGreatDoorNE
import Derived.Test.YtflehmepjhikcaaGreatDoorMF
import Derived.Deep.Cut
import Derived.Deep.AppendLies
import Derived.Maps.AppendAt
import Derived.BigRegion
set_option maxRecDepth 100000
set_option maxHeartbeats 8000000
namespace Go.Proofs.YtflehmepjhikcaaGreatDoor
open Go.ChangeShapes Go.WideShapes Go.ChangeAt Go.RowKit
theorem Qb (w:World)(a:Option Addr)(cap:Nat)(zs:List Int)(hb:Oi w w.heap.size a zs):
  Calls Tryz.prog 21 #[.slice a zs.length cap] w fun e w'=>∃v uR uV AA rs vs b,e = .returned (.tuple #[v,.agg #[uR,uV]])/\w.heap.size<b/\Ro w' b v AA/\(AA.length<=6/\∀i,i<AA.length->(AA.getD i []).length<=7)/\A8 w' b uR rs/\A8 w' b uV vs/\(rs.length<=4/\vs.length<=4)/\AC w w':=by
 have k0:AC w (w.alloc (Cp Ac Ac)):=(AC.refl w).alloc _;have s0:(w.alloc (Cp Ac Ac)).heap.size=w.heap.size+1:=AD _ _;have H0:(w.alloc (Cp Ac Ac)).heap[w.heap.size]? = some (Cp Ac Ac):=KAX w _;have hb0:Oi (w.alloc (Cp Ac Ac)) (w.alloc (Cp Ac Ac)).heap.size a zs:=Oi.up hb k0;go_enter Tryz.func21,Tryz.ntmps21
 go_wp2_with fail
 refine (Vm _ a cap zs hb0).mono ?_;rintro e w1 ⟨rfl,c1,k1⟩;have H1:=GC H0 k1.grownBy (by simp);have s1:=k1.size;rw[s0] at c1 s1;have hcl:=c1.lt;go_wp2_with fail
 refine (Jc _ _ _ c1).mono ?_;rintro e w2 ⟨v,AA,rfl,hR,hs,D2⟩;have H2:=GC H1 D2.2 (by simp);have K2:=D2.vU (k0.trans k1) (by omega);have l1:AA.length<=1048576:=by have:=hs.1;omega
 have l2:∀i,i<AA.length->(AA.getD i []).length<=1048576:=fun i hi=>by have:=hs.2 i hi;omega
 have HS:=AI hs;have CE:=Gq w2 v AA hR.rd l1 l2;have s2:=D2.2.size;have HX:=AI hR;obtain⟨av,cv,hv,-⟩:=hR.rd;have HV:=AI hv;clear hs l1 l2 hR hv;go_wp2_with fail
 refine CE.mono ?_;rintro e w3 ⟨ve,rfl,ae,k3⟩;have hn9:(AB AA).length<=1048576:=by have:=BO AA;omega
 have CR:=Cn w3 ve (AB AA) ae.rd hn9;obtain⟨ax,cx,rfl,-⟩:=ae.rd;clear CE ae hn9;go_wp2_with fail
 refine CR.mono ?_;rintro e w4 ⟨vr,rfl,wH,k4⟩;obtain⟨ay,cy,rfl,-⟩:=wH.rd;have hml:=Ew Af (AB AA);obtain⟨m,hm⟩:∃m,m=(AW Af (AB AA)).length:=⟨_,rfl⟩;rw[<-hm] at hml ⊢;have k34:=k3.trans k4;have H4:=GC H2 k34.grownBy (by simp);have X4:=AI (HX.out.keep k34);have C4:=D2.1.keep k34;have K4:=K2.trans k34;have s4:=k34.size;clear CR wH k3 k4 k34 hm H0 H1 H2 K2 HX;go_wp2_with fail
 refine (MH w4 _ _ C4 m (by omega) (by omega)).mono ?_;rintro e w5 ⟨uR,uV,rs,vs,rfl,oR,oV,lr,lv,D5⟩;have H5:=GC H4 D5.2 (by simp);have K5:=K4.grown D5.2 (fun q hq=>by have:=KAI hq;omega);have X5:=AI (X4.out.kept D5.2 (by omega));obtain⟨aR,cR,hR,-⟩:=oR.rd;obtain⟨aV,cV,hV,-⟩:=oV.rd;subst hR;subst hV;have S6:KL w5 w5 w.heap.size Ac Ac:=⟨H5,Du w5 0 _⟩;obtain⟨r0,r1⟩:=S6.cells;have g0:=S6.free 0;have g1:=S6.free 1;have hZ:=(S6.set0 (.slice aR rs.length cR)).set1 (.slice aV vs.length cV);have HR:=AI (X5.out.kept hZ.2 (by omega));have HF:=AI ((oR.BZ (D:=w.heap.size) (by omega) hZ.2).BK (base':=w1.heap.size) (by omega));have HO:=AI ((oV.BZ (D:=w.heap.size) (by omega) hZ.2).BK (base':=w1.heap.size) (by omega));have HB:Hid (w.heap.size<w1.heap.size):=AI (by omega);have HK:=AI (K5.grown hZ.2 (fun q hq=>by have:=KAI hq;omega));have HL:=AI (And.intro lr lv);have HZ:=AI hZ.1;clear hZ S6 oR oV D5 H4 H5 K4 K5 k0 k1 D2 C4 lr lv hb0;go_wp2;refine KA7 (Gn (by rfl) _ _ w.heap.size _ _ (0,0) _ v rfl HZ.out rfl Tryz.underlying27 rfl (by kernel_rfl)) rfl ?_;exact⟨v,_,_,AA,rs,vs,_,rfl,HB.out,HR.out,HS.out,HF.out,HO.out,HL.out,HK.out⟩
theorem V9 (w:World):Rd w Ac []:=⟨none,0,rfl,.inl rfl⟩
theorem M9 (w:World)(a:Option Addr)(cap:Nat)(zs:List Int)(hb:Oi w w.heap.size a zs):
  Calls Tryz.prog 6 #[.slice a zs.length cap] w fun e w'=>∃v uR uV AA rs vs,e = .returned (.tuple #[v,.agg #[uR,uV]])/\Fw w' v AA/\(AA.length<=6/\∀i,i<AA.length->(AA.getD i []).length<=7)/\Rd w' uR rs/\Rd w' uV vs/\(rs.length<=4/\vs.length<=4)/\AC w w':=by
 have k0:AC w (w.alloc (Cp Ac Ac)):=(AC.refl w).alloc _;have s0:(w.alloc (Cp Ac Ac)).heap.size=w.heap.size+1:=AD _ _;have H0:(w.alloc (Cp Ac Ac)).heap[w.heap.size]? = some (Cp Ac Ac):=KAX w _;have hb0:Oi (w.alloc (Cp Ac Ac)) (w.alloc (Cp Ac Ac)).heap.size a zs:=Oi.up hb k0;go_enter Tryz.func6,Tryz.ntmps6
 go_wp2_with fail
 refine (Qb _ a cap zs hb0).mono ?_;rintro e w1 ⟨v,uR,uV,AA,rs,vs,b,rfl,hbs,hW,hs,oR,oV,hl,k1⟩;have H1:=GC H0 k1.grownBy (by simp);rw[s0] at hbs;obtain⟨aR,cR,hR,-⟩:=oR.rd;obtain⟨aV,cV,hV,-⟩:=oV.rd;subst hR;subst hV;have S6:KL w1 w1 w.heap.size Ac Ac:=⟨H1,KBW _ _⟩;obtain⟨r0,r1⟩:=S6.cells;have g0:=S6.free 0;have g1:=S6.free 1;have hZ:=(S6.set0 (.slice aR rs.length cR)).set1 (.slice aV vs.length cV);have HR:=AI (hW.kept hZ.2 (by omega)).rd;have HF:=AI (oR.BZ (D:=w.heap.size) (by omega) hZ.2).rd;have HO:=AI (oV.BZ (D:=w.heap.size) (by omega) hZ.2).rd;have HK:=AI ((k0.trans k1).grown hZ.2 (fun q hq=>by have:=KAI hq;omega));have HL:=AI hl;have HS:=AI hs;have HZ:=AI hZ.1;clear hZ S6 oR oV H0 H1 k0 k1 hb0 hl hs hW s0 hbs;go_wp2;refine KA7 (Gn (by rfl) _ _ w.heap.size _ _ (0,0) _ v rfl HZ.out rfl Tryz.underlying27 rfl (by kernel_rfl)) rfl ?_;exact⟨v,_,_,AA,rs,vs,rfl,HR.out,HS.out,HF.out,HO.out,HL.out,HK.out⟩
theorem Je {P:Program}{fn:Func}{p u t':Tmp}{ty:TypeId}(h:fn.results=#[.tmp u,.cell p ty,.tmp t'])(tmps:Array Value)(w:World)(g:Nat)(t:TypeId)(cs:Array Value)(fr:Nat×Nat)(d:TypeDesc)(v z:Value)
  (hp:tmps.getD p undef = .pointer (some ⟨g,0,none⟩)) (hg:w.heap[g]? = some (.cells cs t fr)) (hv:tmps.getD u undef=v) (hz:tmps.getD t' undef=z)
  (hu:P.underlying ty=some d) (hd:(match d with | .struct _ | .array _ _=>true|_=>false)=true) (hi:(P.info? ty).map (·.size)=some cs.size):
  (results fn tmps).run P w = .ok (.tuple #[v,.agg cs,z]) w:=by
 have hp':tmps[p]?.getD undef = .pointer (some ⟨g,0,none⟩):=by simpa using hp
 have hv':tmps[u]?.getD undef=v:=by simpa using hv
 have hz':tmps[t']?.getD undef=z:=by simpa using hz
 simp[results,h,hp',hv',hz',asAddr,run_loadVar_row w g t ty cs fr d hg hu hd hi]
theorem Om (w:World)(a:Option Addr)(cap:Nat)(zs:List Int)(hb:Oi w w.heap.size a zs):
  Calls Tryz.prog 8 #[.slice a zs.length cap] w fun e w'=>∃v uR uV uO AA rs vs one,e = .returned (.tuple #[v,.agg #[uR,uV],uO])/\Fw w' v AA/\(AA.length<=6/\∀i,i<AA.length->(AA.getD i []).length<=7)/\Rd w' uR rs/\Rd w' uV vs/\(rs.length<=4/\vs.length<=4)/\Rd w' uO one/\one.length<=16/\AC w w':=by
 have k0:AC w (w.alloc (Cp Ac Ac)):=(AC.refl w).alloc _;have s0:(w.alloc (Cp Ac Ac)).heap.size=w.heap.size+1:=AD _ _;have H0:(w.alloc (Cp Ac Ac)).heap[w.heap.size]? = some (Cp Ac Ac):=KAX w _;have hb0:Oi (w.alloc (Cp Ac Ac)) (w.alloc (Cp Ac Ac)).heap.size a zs:=Oi.up hb k0;go_enter Tryz.func8,Tryz.ntmps8
 go_wp2_with fail
 refine (Vm _ a cap zs hb0).mono ?_;rintro e w1 ⟨rfl,c1,k1⟩;have H1:=GC H0 k1.grownBy (by simp);have s1:=k1.size;rw[s0] at c1 s1;have hcl:=c1.lt;go_wp2_with fail
 refine (Jc _ _ _ c1).mono ?_;rintro e w2 ⟨v,AA,rfl,hR,hs,D2⟩;have H2:=GC H1 D2.2 (by simp);have K2:=D2.vU (k0.trans k1) (by omega);have l1:AA.length<=1048576:=by have:=hs.1;omega
 have l2:∀i,i<AA.length->(AA.getD i []).length<=1048576:=fun i hi=>by have:=hs.2 i hi;omega
 have HS:=AI hs;have CE:=Gq w2 v AA hR.rd l1 l2;have s2:=D2.2.size;have HX:=AI hR;obtain⟨av,cv,hv,-⟩:=hR.rd;have HV:=AI hv;clear hs l1 l2 hR hv;go_wp2_with fail
 refine CE.mono ?_;rintro e w3 ⟨ve,rfl,ae,k3⟩;have hn9:(AB AA).length<=1048576:=by have:=BO AA;omega
 have CR:=Cn w3 ve (AB AA) ae.rd hn9;obtain⟨ax,cx,rfl,-⟩:=ae.rd;clear CE ae hn9;go_wp2_with fail
 refine CR.mono ?_;rintro e w4 ⟨vr,rfl,wH,k4⟩;obtain⟨ay,cy,rfl,-⟩:=wH.rd;have hml:=Ew Af (AB AA);obtain⟨m,hm⟩:∃m,m=(AW Af (AB AA)).length:=⟨_,rfl⟩;rw[<-hm] at hml ⊢;have k34:=k3.trans k4;have H4:=GC H2 k34.grownBy (by simp);have X4:=AI (HX.out.keep k34);have C4:=D2.1.keep k34;have K4:=K2.trans k34;have s4:=k34.size;clear CR wH k3 k4 k34 hm H0 H1 H2 K2 HX;go_wp2_with fail
 refine (MH w4 _ _ C4 m (by omega) (by omega)).mono ?_;rintro e w5 ⟨uR,uV,rs,vs,rfl,oR,oV,lr,lv,D5⟩;have H5:=GC H4 D5.2 (by simp);have K5:=K4.grown D5.2 (fun q hq=>by have:=KAI hq;omega);have X5:=AI (X4.out.kept D5.2 (by omega));obtain⟨aR,cR,hR,-⟩:=oR.rd;obtain⟨aV,cV,hV,-⟩:=oV.rd;subst hR;subst hV;go_upto_region 5 with fail
 obtain⟨w6,hw6⟩:∃W:World,W=w5.alloc (Cp (.slice aR rs.length cR) (.slice aV vs.length cV)):=⟨_,rfl⟩;have k6:AC w5 w6:=by rw[hw6];exact (AC.refl _).alloc _
 have B6:w6.heap[w5.heap.size]? = some (Cp (.slice aR rs.length cR) (.slice aV vs.length cV)):=by rw[hw6];exact KAX w5 _
 have s6:w5.heap.size<w6.heap.size:=by rw[hw6,AD];omega
 rw[show w5.alloc (.cells #[.slice aR rs.length cR,.slice aV vs.length cV] 27)=w6 from hw6.symm];have s5:=D5.2.size;obtain⟨D,hD⟩:∃D,D=w5.heap.size:=⟨_,rfl⟩;rw[<-hD] at B6 s6 ⊢;have H6:=GC H5 k6.grownBy (by simp);have X6:=AI (X5.out.keep k6);have OR6:=AI (oR.keep k6);have OV6:=AI (oV.keep k6);have K6:=AI (K5.trans k6);have HB6:=AI B6;have HH6:=AI H6;have DR6:Dr w6 w6 (w.heap.size+1) (w.heap.size+1):=Dr.refl (D5.1.keep k6);have hlt6:w.heap.size+1<w6.heap.size:=by omega
 have hD6:w.heap.size+1<D:=by omega
 have hlr:=AI (And.intro lr lv);clear hw6 hD H4 H5 K4 K5 k0 k1 D2 C4 X4 X5 oR oV D5 k6 B6 H6 lr lv hb0 s0 s5;obtain⟨i0,hi0,hz0,hz1,hz2⟩:=KA3 Tryz.FM;obtain⟨w7,hw7⟩:∃W:World,W=w6.alloc (.cells #[] 2):=⟨_,rfl⟩;have O7:A8 w7 w6.heap.size (.slice (some ⟨w6.heap.size,0,none⟩) 0 0) []:=by rw[hw7];exact KAo w6 #[] 0 (KAM _) (by decide) rfl
 have D7:Dr w6 w7 (w.heap.size+1) (w.heap.size+1):=by rw[hw7];exact DR6.Pj ((AC.refl w6).alloc _)
 go_upto_region 6 with fail
 rw[<-hw7];have X7:=AI (And.intro O7 D7);clear hw7 O7 D7 DR6;go_upto_region 7 with fail
 go_loopw [9,10] (fun s9 i wr=>∃(k:Nat) (u:Value) (one:List Int),u=s9/\i = .int .i64 k/\k<=m+3/\one.length<=k/\Hid (A8 wr w6.heap.size u one/\Dr w6 wr (w.heap.size+1) (w.heap.size+1))) (fun _ i _=>m+3-(intOf i).toNat)
 case atStart=>exact⟨0,_,[],rfl,rfl,by omega,by simp,X7⟩
 case round=>
  obtain⟨k,u,one,rfl,rfl,hk,hol,X⟩:=hrel;have hmw:IntKind.i64.wrap ((m:Int)+3)=(m:Int)+3:=by rw[KAk];omega
  by_cases hlt:k<m+3
  ·
   have i2:(k:Int)<(m:Int)+3:=by omega
   go_wp2_with fail
   refine (Al _ _ _ 2 X.out.2.1 (by omega)).mono ?_;rintro e w8 ⟨y,rfl,y0,y1,uK,g8⟩;have D8:=AI (X.out.2.step uK g8);have O8:=AI (X.out.1.BZ (D:=w.heap.size+1) hlt6 g8);clear X uK g8;have hN:=KAX w8 (.cells #[.int .i64 y] 2);obtain⟨wn,hwn⟩:∃W:World,W=w8.alloc (.cells #[.int .i64 y] 2):=⟨_,rfl⟩;have kn:AC w8 wn:=by rw[hwn];exact (AC.refl _).alloc _
   rw[<-hwn] at hN;have hrow:wn.ownsRow w6.heap.size 2 1 u one.length (one.map (Value.int .i64)):=O8.out.keep kn;have DN:=AI (D8.out.Pj kn);have hbs:w6.heap.size<=wn.heap.size:=DN.out.2.size;go_wp2_with ((at_builtin;rw[<-hwn];refine KAe _ rfl _ _ 25 rfl w6.heap.size 2 i0 (.int .i64 0) 1 8 Tryz.underlying25 hi0 hz0 hz1 hz2 rfl (by decide) _ _ _ rfl hrow ⟨w8.heap.size,0,none⟩ 1 1 [.int .i64 y] rfl rfl (KBd (cs:=#[.int .i64 y]) (t:=2) (fr:=(0,0)) hN) (by simp[Value.oneCell']) ?e3 ?e4 ?e5 ?_))
   case e3=>unfold maxLen;omega
   case e4=>omega
   case e5=>first|exact hbs|omega
   intro v9 w9 hown hgrow _ _;rw[<-hwn] at hgrow;have X9:Hid (A8 w9 w6.heap.size v9 (one++[y])/\Dr w6 w9 (w.heap.size+1) (w.heap.size+1)):=AI ⟨B8 hown,DN.out.jA hgrow (fun q hq=>(KAY hrow q hq).1) hlt6 (KAM _)⟩;clear hown hgrow hrow hN hwn kn hbs DN D8 O8;go_wp2;go_roundw;case rel=>exact⟨k+1,_,one++[y],rfl,by go_num,by omega,by simp;omega,X9⟩
   case measure=>simp[intOf];omega
  ·
   have i2:¬(k:Int)<(m:Int)+3:=by omega
   go_wp2_with fail
   refine (EU _ _ _ 8 X.out.2.1 (by omega)).mono ?_;rintro e w8 ⟨bb,rfl,uK,g8⟩;have X8:Hid (A8 w8 w6.heap.size u one/\Dr w6 w8 (w.heap.size+1) (w.heap.size+1)):=AI ⟨X.out.1.BZ (D:=w.heap.size+1) hlt6 g8,X.out.2.step uK g8⟩;clear X uK g8;cases bb
   ·
    have HB:=(X8.out.2.2.block D s6 (fun e=>by have:=KAI e;omega)).trans HB6.out;have HH:=(X8.out.2.2.block w.heap.size (by omega) (fun e=>by have:=KAI e;omega)).trans HH6.out;have S6:KL w8.drew w8.drew w.heap.size Ac Ac:=⟨HH,KBW _ _⟩;obtain⟨r0,r1⟩:=S6.cells;have g0:=S6.free 0;have g1:=S6.free 1;have q0:w8.cell? ⟨w.heap.size,0,none⟩=some Ac:=r0;have q1:w8.cell? ⟨w.heap.size,1,none⟩=some Ac:=r1;have q2:w8.frozen? ⟨w.heap.size,0,none⟩=false:=g0;have q3:w8.frozen? ⟨w.heap.size,1,none⟩=false:=g1;have S8:KL w8.drew w8.drew D (.slice aR rs.length cR) (.slice aV vs.length cV):=⟨HB,KBW _ _⟩;obtain⟨b0,b1⟩:=S8.cells;have p0:w8.cell? ⟨D,0,none⟩=some (.slice aR rs.length cR):=b0;have p1:w8.cell? ⟨D,1,none⟩=some (.slice aV vs.length cV):=b1;have hZ:=(S6.set0 (.slice aR rs.length cR)).set1 (.slice aV vs.length cV);have hg:w6.grownBy w8.drew (some (w.heap.size+1)):=Ak X8.out.2.2 (G6 w8 _);have HR:=AI ((X6.out.kept hg (by omega)).kept hZ.2 (by omega)).rd;have HF:=AI ((OR6.out.BZ (D:=w.heap.size+1) (by omega) hg).BZ (D:=w.heap.size) (by omega) hZ.2).rd;have HO:=AI ((OV6.out.BZ (D:=w.heap.size+1) (by omega) hg).BZ (D:=w.heap.size) (by omega) hZ.2).rd;have nO:=AI ((X8.out.1.keep (AC.refl w8).drew).BZ (D:=w.heap.size) (by omega) hZ.2).rd;have HK:=AI ((K6.out.grown hg (fun q hq=>by have:=KAI hq;omega)).grown hZ.2 (fun q hq=>by have:=KAI hq;omega));have HOL:Hid ((one).length<=16):=AI (by omega);have HZ:=AI hZ.1;obtain⟨ao,co,hov,-⟩:=X8.out.1.rd;obtain⟨no,hno⟩:∃n,n=(one).length:=⟨_,rfl⟩;rw[<-hno] at hov;clear hno hZ S6 S8 HB HH hg X8;subst hov;go_wp2_with fail
    go_region
    all_goals
     go_wp2;refine KA7 (Je (by rfl) _ _ w.heap.size _ _ (0,0) _ v (.slice ao no co) rfl HZ.out rfl rfl Tryz.underlying27 rfl (by kernel_rfl)) rfl ?_;exact⟨v,_,_,_,AA,rs,vs,one,rfl,HR.out,HS.out,HF.out,HO.out,hlr.out,nO.out,HOL.out,HK.out⟩
   ·
    have hN:=KAX w8 (.cells #[.int .i64 0] 2);obtain⟨wn,hwn⟩:∃W:World,W=w8.alloc (.cells #[.int .i64 0] 2):=⟨_,rfl⟩;have kn:AC w8 wn:=by rw[hwn];exact (AC.refl _).alloc _
    rw[<-hwn] at hN;have hrow:wn.ownsRow w6.heap.size 2 1 u one.length (one.map (Value.int .i64)):=X8.out.1.keep kn;have DN:=AI (X8.out.2.Pj kn);have hbs:w6.heap.size<=wn.heap.size:=DN.out.2.size;go_wp2_with ((at_builtin;rw[<-hwn];refine KAe _ rfl _ _ 25 rfl w6.heap.size 2 i0 (.int .i64 0) 1 8 Tryz.underlying25 hi0 hz0 hz1 hz2 rfl (by decide) _ _ _ rfl hrow ⟨w8.heap.size,0,none⟩ 1 1 [.int .i64 0] rfl rfl (KBd (cs:=#[.int .i64 0]) (t:=2) (fr:=(0,0)) hN) (by simp[Value.oneCell']) ?e6 ?e7 ?e8 ?_))
    case e6=>unfold maxLen;omega
    case e7=>omega
    case e8=>first|exact hbs|omega
    intro v9 w9 hown hgrow _ _;rw[<-hwn] at hgrow;have X9:Hid (A8 w9 w6.heap.size v9 (one++[0])/\Dr w6 w9 (w.heap.size+1) (w.heap.size+1)):=AI ⟨B8 hown,DN.out.jA hgrow (fun q hq=>(KAY hrow q hq).1) hlt6 (KAM _)⟩;clear hown hgrow hrow hN hwn kn hbs DN X8;have HB:=(X9.out.2.2.block D s6 (fun e=>by have:=KAI e;omega)).trans HB6.out;have HH:=(X9.out.2.2.block w.heap.size (by omega) (fun e=>by have:=KAI e;omega)).trans HH6.out;have S6:KL w9.drew w9.drew w.heap.size Ac Ac:=⟨HH,KBW _ _⟩;obtain⟨r0,r1⟩:=S6.cells;have g0:=S6.free 0;have g1:=S6.free 1;have q0:w9.cell? ⟨w.heap.size,0,none⟩=some Ac:=r0;have q1:w9.cell? ⟨w.heap.size,1,none⟩=some Ac:=r1;have q2:w9.frozen? ⟨w.heap.size,0,none⟩=false:=g0;have q3:w9.frozen? ⟨w.heap.size,1,none⟩=false:=g1;have S8:KL w9.drew w9.drew D (.slice aR rs.length cR) (.slice aV vs.length cV):=⟨HB,KBW _ _⟩;obtain⟨b0,b1⟩:=S8.cells;have p0:w9.cell? ⟨D,0,none⟩=some (.slice aR rs.length cR):=b0;have p1:w9.cell? ⟨D,1,none⟩=some (.slice aV vs.length cV):=b1;have hZ:=(S6.set0 (.slice aR rs.length cR)).set1 (.slice aV vs.length cV);have hg:w6.grownBy w9.drew (some (w.heap.size+1)):=Ak X9.out.2.2 (G6 w9 _);have HR:=AI ((X6.out.kept hg (by omega)).kept hZ.2 (by omega)).rd;have HF:=AI ((OR6.out.BZ (D:=w.heap.size+1) (by omega) hg).BZ (D:=w.heap.size) (by omega) hZ.2).rd;have HO:=AI ((OV6.out.BZ (D:=w.heap.size+1) (by omega) hg).BZ (D:=w.heap.size) (by omega) hZ.2).rd;have nO:=AI ((X9.out.1.keep (AC.refl w9).drew).BZ (D:=w.heap.size) (by omega) hZ.2).rd;have HK:=AI ((K6.out.grown hg (fun q hq=>by have:=KAI hq;omega)).grown hZ.2 (fun q hq=>by have:=KAI hq;omega));have HOL:Hid ((one++[0]).length<=16):=AI (by simp;omega);have HZ:=AI hZ.1;obtain⟨ao,co,hov,-⟩:=X9.out.1.rd;obtain⟨no,hno⟩:∃n,n=(one++[0]).length:=⟨_,rfl⟩;rw[<-hno] at hov;clear hno hZ S6 S8 HB HH hg X9;subst hov;go_wp2_with fail
    go_region
    all_goals
     go_wp2;refine KA7 (Je (by rfl) _ _ w.heap.size _ _ (0,0) _ v (.slice ao no co) rfl HZ.out rfl rfl Tryz.underlying27 rfl (by kernel_rfl)) rfl ?_;exact⟨v,_,_,_,AA,rs,vs,one++[0],rfl,HR.out,HS.out,HF.out,HO.out,hlr.out,nO.out,HOL.out,HK.out⟩
end Go.Proofs.YtflehmepjhikcaaGreatDoor
