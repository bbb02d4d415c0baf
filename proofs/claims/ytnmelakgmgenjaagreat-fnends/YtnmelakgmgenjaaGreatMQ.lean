/- Gathered texts. -/
import Derived.Test.YtnmelakgmgenjaaGreatMP
import Derived.BigRegion
import Derived.Deep.RegionLaw
set_option maxRecDepth 100000
set_option maxHeartbeats 8000000
namespace Go.Proofs.YtnmelakgmgenjaaGreat
open Go.ChangeShapes Go.WideShapes Go.ChangeAt Go.RowKit
open Go.RowKit
theorem Jj (w:World)(v:Value)(AA:List (List Dd))(h:JJ w v AA)(hb:AQ AA=true)(hx:AA.length<=1048576)(hm:∀i,i<AA.length->(AA.getD i []).length<=1048576):
  Calls Tryz.prog 17 #[v] w fun e w'=>∃bv nv rv bs N,e = .returned (.tuple #[BV.agg bv,.bool true])/\BG w' w.heap.size bv nv rv bs N AA (Cd AA)/\w.heap.size<=bs/\AC w w':=by
 have C:=fun (W:World) (kW:AC w W)=>DE W v AA (h.keep kW) hx hm
 rw[hb] at C;have CN:=fun (W:World) (kW:AC w W)=>M5 W v AA (h.keep kW) hb
 generalize hNM:Cd AA=nb at CN;have pX:=Lib.hid hNM;clear hNM;go_enter Tryz.func17,Tryz.ntmps17
 go_wp2_with fail
 refine (C _ ((AC.refl w).alloc _)).mono ?_;rintro e w1 ⟨rfl,k1⟩;have hR0:=CX k1;have K1:=((AC.refl w).alloc _).trans k1;have s1:=FM k1;clear C k1;go_wp2_with fail
 refine (CN _ K1).mono ?_;rintro e w2 ⟨bv,nv,rv,bs,N,rfl,hV,hbs,k2⟩;have s2:=k2.size;have hR2:=(Below.block k2 w.heap.size s1).trans hR0;have K2:=K1.trans k2;obtain⟨aW,aP,aL,aN,aX,aT,aF,aR,cW,cP,cL,cQ,cX,cT,cF,cR,rfl⟩:=(hV.box s2).rd.shapes;have HG:=Lib.hid (Af w2 w.heap.size #[.slice aW AA.length cW,.slice aP nb.AM.length cP,.slice aL nb.AO.length cL,.slice aN nb.AG.length cQ,.slice aX nb.AL.length cX,.slice aT nb.sn.length cT,.slice aF nb.fr.length cF,.slice aR nb.rws.length cR]);have HZ:=Lib.hid (setRow_heap w2 w.heap.size _ #[.slice aW AA.length cW,.slice aP nb.AM.length cP,.slice aL nb.AO.length cL,.slice aN nb.AG.length cQ,.slice aX nb.AL.length cX,.slice aT nb.sn.length cT,.slice aF nb.fr.length cF,.slice aR nb.rws.length cR] _ _ hR2);have HO:=Lib.hid ((hV.far HG.out (fun q hq=>by have:=Option.some.inj hq;omega)).Az (show w.heap.size<=w1.heap.size by omega));have HK:=Lib.hid (K2.grown HG.out (fun q hq=>by have:=Option.some.inj hq;omega));have hbs2:w.heap.size<=bs:=by omega
 clear hV K2 k2 CN;go_wp2_with (first|refine wpList_store_row rfl 36 _ _ rfl w.heap.size _ rfl rfl 36 _ hR2 AK rfl (by simp[Value.oneCell']) ?_|fail)
 refine bodyPost_ret (As (by rfl) _ _ w.heap.size _ _ (0,0) _ (.bool true) rfl HZ.out rfl Tryz.underlying36 rfl AK) rfl ?_;exact⟨⟨.slice aW AA.length cW,.slice aP nb.AM.length cP,.slice aL nb.AO.length cL,.slice aN nb.AG.length cQ,.slice aX nb.AL.length cX,.slice aT nb.sn.length cT,.slice aF nb.fr.length cF,.slice aR nb.rws.length cR⟩,nv,rv,bs,N,rfl,HO.out,hbs2,HK.out⟩
theorem Jk (w:World)(v:BV)(AA:List (List Dd))(b:Bd)(h:CV w v AA b)(hz:Gi AA b):
  Calls Tryz.prog 21 #[v.agg] w fun e w'=>∃v',e = .returned v'/\BM w' w.heap.size v' (Em AA b)/\AC w w':=by
 obtain⟨aW,aP,aL,aN,aX,aS,aF,aR,cW,cP,cL,cN,cX,cS,cF,cR,rfl⟩:=h.shapes;have CB:=fun (W:World) (kW:AC w W)=>En W _ AA b (h.keep kW) hz
 have HH:=Lib.hid h;have HD:Hid (Em AA b=if AW AA b=true then b.sn++b.AM else []):=Lib.hid rfl;have h1:=hz.AM;have h2:=hz.sn;clear h hz;go_enter Tryz.func21,Tryz.ntmps21
 go_wp2_with fail
 refine (CB _ ((AC.refl w).alloc _)).mono ?_;rintro e w1 ⟨rfl,k1⟩;have K1:=((AC.refl w).alloc _).trans k1;have c0:=AU k1 0;have c1:=AU k1 1;have c2:=AU k1 2;have c3:=AU k1 3;have c4:=AU k1 4;have c5:=AU k1 5;have c6:=AU k1 6;have c7:=AU k1 7;simp at c0 c1 c2 c3 c4 c5 c6 c7;clear CB;have s1:=K1.size;cases hb:AW AA b
 ·
  have HE:Hid (Em AA b=[]):=Lib.hid (by rw[HD.out,hb];rfl);have o1:BM (w1.alloc (.cells #[] 2)) w1.heap.size (.slice (some ⟨w1.heap.size,0,none⟩) 0 0) []:=World.ownsRow_lit w1 #[] 0 (Nat.le_refl _) (by decide) rfl;go_wp2;go_ret;exact⟨_,rfl,by rw[HE.out];exact BM.Az o1 s1,K1.alloc _⟩
 ·
  have HE:Hid (Em AA b=b.sn++b.AM):=Lib.hid (by rw[HD.out,hb];rfl);have u1:=(Vv hb).1;have CL:=KO w1 _ AA b (HH.out.keep K1) (by omega) h1 h2;clear u1 hb HD;go_wp2_with fail
  refine CL.mono ?_;rintro e w2 ⟨v2,rfl,o2,k2⟩;go_wp2;go_ret;exact⟨_,rfl,by rw[HE.out];exact o2.Az s1,K1.trans k2⟩
theorem Wl (AA:List (List Dd))(b:Bd):(B8 AA b).length<=1048576:=by
 unfold B8
 cases h:AW AA b with
 |false=>simp
 |true=>
  have h3:AA.length<=3:=(G7 (ED h).1).1;have e1:=Jz AA b AA.length;have e2:=QZ b AA.length;have:(Ad AA b).length=(Gj AA b AA.length).length+(Nu b AA.length).length:=by rw[<-LS,List.length_append]
  simp;omega
structure GR (AA:List (List Dd))(b:Bd)(k:Nat):Prop where
 run:dY AA b
 mes:DR AA b+k<=24
 ln:LN AA b
 nx:∀c,0<=b.AL.getD c 0
theorem GR.new {AA:List (List Dd)}(hb:AQ AA=true):GR AA (Cd AA) 0:=⟨dY.new hb,(KV hb).1,(KV hb).2.1,(KV hb).2.2⟩
theorem GR.step {AA:List (List Dd)}(hb:AQ AA=true){b:Bd}{k:Nat}(h:GR AA b k){s:Int}(hs:Gv (Ad AA b) s=true):GR AA (Am AA (AB AA) b s) (k+1):=by
 have hm:=IJ hb (es:=AB AA) h.ln h.nx hs;exact⟨h.run.step hb hs,by have:=h.mes;have:=hm.1;omega,hm.2.1,hm.2.2⟩
end Go.Proofs.YtnmelakgmgenjaaGreat
