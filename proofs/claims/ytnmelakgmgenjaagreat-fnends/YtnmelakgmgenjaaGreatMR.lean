/- Gathered texts. -/
import Derived.Laws.CopyOwn
import Derived.Deep.Cut
import Derived.Deep.RegionLaw
import Derived.Test.YtnmelakgmgenjaaGreatMJ
import Derived.BigRegion
import Derived.Lib.Hide
import Derived.Test.YtnmelakgmgenjaaGreatMF
import Derived.Deep.RegionHeld3
import Derived.Deep.QuietTactic
import Derived.BigQuiet
import Derived.Maps.AppendAt
import Derived.Laws.OwnMore
import Derived.OwnWalk
set_option maxRecDepth 100000
set_option maxHeartbeats 8000000
namespace Go.Proofs.YtnmelakgmgenjaaGreat
open Go.ChangeShapes Go.WideShapes Go.ChangeAt Go.RowKit
theorem Tryz.QA:(Tryz.prog.info? 2).map (·.size)=some 1:=by kernel_rfl
theorem L7 (w:World)(v:BV)(AA:List (List Dd))(b:Bd)(h:CV w v AA b)(hs:Pi b):
  Calls Tryz.prog 63 #[v.agg] w fun e w'=>e = .returned (Hg b)/\AC w w':=by
 obtain⟨aW,aP,aL,aN,aX,aS,aF,aR,cW,cP,cL,cN,cX,cS,cF,cR,rfl⟩:=h.shapes;obtain⟨W3,hW3⟩:∃W3,W3=(((w.alloc (.cells #[.slice aW AA.length cW,.slice aP b.AM.length cP,.slice aL b.AO.length cL,.slice aN b.AG.length cN,.slice aX b.AL.length cX,.slice aS b.sn.length cS,.slice aF b.fr.length cF,.slice aR b.rws.length cR] 36)).alloc (.cells #[.int .i64 0,.int .i64 0,.int .i64 0,.int .i64 0,.int .i64 0,.int .i64 0,.int .i64 0,.int .i64 0,.int .i64 0,.int .i64 0,.int .i64 0,.int .i64 0,.int .i64 0,.int .i64 0,.int .i64 0] 82)).alloc (.cells #[.int .i64 0,.int .i64 0,.int .i64 0,.int .i64 0,.int .i64 0,.int .i64 0,.int .i64 0,.int .i64 0,.int .i64 0,.int .i64 0,.int .i64 0,.int .i64 0,.int .i64 0,.int .i64 0,.int .i64 0] 82)):=⟨_,rfl⟩;have K3:AC w W3:=by rw[hW3];exact (((AC.refl w).alloc _).alloc _).alloc _
 have z3:W3.heap.size=w.heap.size+3:=by rw[hW3];simp
 have HB3:W3.heap[w.heap.size]? = some (.cells #[.slice aW AA.length cW,.slice aP b.AM.length cP,.slice aL b.AO.length cL,.slice aN b.AG.length cN,.slice aX b.AL.length cX,.slice aS b.sn.length cS,.slice aF b.fr.length cF,.slice aR b.rws.length cR] 36 (0,0)):=by rw[hW3];exact CX (((AC.refl _).alloc _).alloc _)
 have HR3:W3.heap[w.heap.size+1]? = some (.cells (jG.toArray) 82 (0,0)):=by
  have q:=heap_alloc_new (w.alloc (.cells #[.slice aW AA.length cW,.slice aP b.AM.length cP,.slice aL b.AO.length cL,.slice aN b.AG.length cN,.slice aX b.AL.length cX,.slice aS b.sn.length cS,.slice aF b.fr.length cF,.slice aR b.rws.length cR] 36)) (.cells jG.toArray 82);rw[AD] at q;rw[hW3];exact (Below.block ((AC.refl _).alloc _) _ (by rw[AD,AD];omega)).trans q
 have HS3:W3.heap[w.heap.size+1+1]? = some (.cells (jG.toArray) 82 (0,0)):=by
  have q:=heap_alloc_new ((w.alloc (.cells #[.slice aW AA.length cW,.slice aP b.AM.length cP,.slice aL b.AO.length cL,.slice aN b.AG.length cN,.slice aX b.AL.length cX,.slice aS b.sn.length cS,.slice aF b.fr.length cF,.slice aR b.rws.length cR] 36)).alloc (.cells jG.toArray 82)) (.cells jG.toArray 82);rw[AD,AD] at q;rw[hW3];exact q
 have XH:=Lib.hid h;have XK:=Lib.hid K3;have XR:=Lib.hid HR3;obtain⟨V0,hV0⟩:∃V0,V0=jG:=⟨_,rfl⟩;rw[<-hV0] at HS3;have XV0:=Lib.hid hV0;have e3:(3:Int).toNat=3:=rfl;clear h K3 HR3 hV0;go_enter Tryz.func63,Tryz.ntmps63
 go_upto_region 2 with fail
 rw[<-hW3];clear hW3;have l1:=hs.p;have cB1:(W3.drew).cell? ⟨w.heap.size,1,none⟩=some (.slice aP b.AM.length cP):=by rw[show (W3.drew).cell? ⟨w.heap.size,1,none⟩=(W3).cell? ⟨w.heap.size,1,none⟩ from rfl,cell_of_row _ _ 1 _ _ _ HB3];rfl
 have hc1:0<(b.AM.map (Value.int .i64)).length->∃ad,aP=some ad/\∀j u,(b.AM.map (Value.int .i64))[j]? = some u->(W3.drew).cell? (ad.add j)=some u:=Tz ((XH.out.P).keep ((XK.out).trans (AC.refl _).drew));have vl1:V0.length=15:=by rw[XV0.out];rfl
 have hm1:(b.AM.map (Value.int .i64)).length=Nat.min b.AM.length 3:=by rw[List.length_map];exact (Nat.min_eq_left l1).symm
 have hf1:0+(b.AM.map (Value.int .i64)).length<=V0.length:=by rw[vl1,List.length_map];omega
 obtain⟨xs1,hxs1⟩:∃xs,xs=b.AM.map (Value.int .i64):=⟨_,rfl⟩;rw[<-hxs1] at hc1 hm1 hf1;have ho1:∀u∈xs1,u.oneCell'=true:=by rw[hxs1];exact Kd _
 have XX1:=Lib.hid hxs1;clear hxs1;go_cut [] from 6 (fun wx=>∃V:List Value,Hid (V=splice V0 0 xs1)/\wx.heap[w.heap.size+1+1]? = some (.cells V.toArray 82 (0,0))/\Below (w.heap.size+1+1) W3 wx)
 case first=>
  go_wp2_with fail
  go_region_law ((refine step_copy_splice (by rfl) (.tmp 7) (.tmp 9) 28 28 (by rfl) 2 Tryz.underlying28 Tryz.QA (some ⟨w.heap.size+1+1,0,none⟩) aP 3 3 b.AM.length cP (by rfl) (by rfl) (w.heap.size+1+1) 0 V0 82 HS3 xs1 hm1 (fun hp=>⟨rfl,hc1 hp⟩) hf1 ho1 (w.heap.size+1+1) W3 ((Below.refl _ W3).drew) (Nat.le_refl _) ?_;intro U1 hg1 q1;have HS1:=hg1.out;clear hg1))
  all_goals
   go_wp2;go_meet;exact⟨_,Lib.hid rfl,HS1,q1⟩
 obtain⟨V1,xU,HS1,q1⟩:=hcut;have kk1:AC w wc:=Below.trans XK.out (q1.mono (by omega));obtain⟨U1,hU1⟩:∃U1,U1=wc:=⟨_,rfl⟩;rw[<-hU1] at HS1 q1 kk1 ⊢;clear hU1 cB1 hc1 hm1 hf1 ho1 HS3;go_upto_region 3 with fail
 have l2:=hs.x;have cB2:(U1.drew).cell? ⟨w.heap.size,4,none⟩=some (.slice aX b.AL.length cX):=by rw[show (U1.drew).cell? ⟨w.heap.size,4,none⟩=(U1).cell? ⟨w.heap.size,4,none⟩ from rfl,cell_of_row _ _ 4 _ _ _ (Below.block q1 w.heap.size (by omega) |>.trans HB3)];rfl
 have hc2:0<(b.AL.map (Value.int .i64)).length->∃ad,aX=some ad/\∀j u,(b.AL.map (Value.int .i64))[j]? = some u->(U1.drew).cell? (ad.add j)=some u:=Tz ((XH.out.X).keep ((kk1).trans (AC.refl _).drew));have vl2:V1.length=15:=by rw[xU.out,length_splice _ _ _ (by rw[vl1,XX1.out,List.length_map];omega)];exact vl1
 have hm2:(b.AL.map (Value.int .i64)).length=Nat.min b.AL.length 3:=by rw[List.length_map];exact (Nat.min_eq_left l2).symm
 have hf2:3+(b.AL.map (Value.int .i64)).length<=V1.length:=by rw[vl2,List.length_map];omega
 obtain⟨xs2,hxs2⟩:∃xs,xs=b.AL.map (Value.int .i64):=⟨_,rfl⟩;rw[<-hxs2] at hc2 hm2 hf2;have ho2:∀u∈xs2,u.oneCell'=true:=by rw[hxs2];exact Kd _
 have XX2:=Lib.hid hxs2;clear hxs2;go_cut [] from 6 (fun wx=>∃V:List Value,Hid (V=splice V1 3 xs2)/\wx.heap[w.heap.size+1+1]? = some (.cells V.toArray 82 (0,0))/\Below (w.heap.size+1+1) W3 wx)
 case first=>
  go_wp2_with fail
  go_region_law ((refine step_copy_splice (by rfl) (.tmp 12) (.tmp 14) 28 28 (by rfl) 2 Tryz.underlying28 Tryz.QA (some ⟨w.heap.size+1+1,3,none⟩) aX 3 3 b.AL.length cX (by rfl) (by rfl) (w.heap.size+1+1) 3 V1 82 HS1 xs2 hm2 (fun hp=>⟨rfl,hc2 hp⟩) hf2 ho2 (w.heap.size+1+1) W3 (q1.drew) (Nat.le_refl _) ?_;intro U2 hg2 q2;have HS2:=hg2.out;clear hg2))
  all_goals
   go_wp2;go_meet;exact⟨_,Lib.hid rfl,HS2,q2⟩
 obtain⟨V2,oI,HS2,q2⟩:=hcut;have kk2:AC w wc:=Below.trans XK.out (q2.mono (by omega));obtain⟨U2,hU2⟩:∃U2,U2=wc:=⟨_,rfl⟩;rw[<-hU2] at HS2 q2 kk2 ⊢;clear hU2 cB2 hc2 hm2 hf2 ho2 HS1;go_upto_region 4 with fail
 have l3:=hs.s;have cB3:(U2.drew).cell? ⟨w.heap.size,5,none⟩=some (.slice aS b.sn.length cS):=by rw[show (U2.drew).cell? ⟨w.heap.size,5,none⟩=(U2).cell? ⟨w.heap.size,5,none⟩ from rfl,cell_of_row _ _ 5 _ _ _ (Below.block q2 w.heap.size (by omega) |>.trans HB3)];rfl
 have hc3:0<(b.sn.map (Value.int .i64)).length->∃ad,aS=some ad/\∀j u,(b.sn.map (Value.int .i64))[j]? = some u->(U2.drew).cell? (ad.add j)=some u:=Tz ((XH.out.S).keep ((kk2).trans (AC.refl _).drew));have vl3:V2.length=15:=by rw[oI.out,length_splice _ _ _ (by rw[vl2,XX2.out,List.length_map];omega)];exact vl2
 have hm3:(b.sn.map (Value.int .i64)).length=Nat.min b.sn.length 6:=by rw[List.length_map];exact (Nat.min_eq_left l3).symm
 have hf3:9+(b.sn.map (Value.int .i64)).length<=V2.length:=by rw[vl3,List.length_map];omega
 obtain⟨xs3,hxs3⟩:∃xs,xs=b.sn.map (Value.int .i64):=⟨_,rfl⟩;rw[<-hxs3] at hc3 hm3 hf3;have ho3:∀u∈xs3,u.oneCell'=true:=by rw[hxs3];exact Kd _
 have XX3:=Lib.hid hxs3;clear hxs3;go_cut [] from 6 (fun wx=>∃V:List Value,Hid (V=splice V2 9 xs3)/\wx.heap[w.heap.size+1+1]? = some (.cells V.toArray 82 (0,0))/\Below (w.heap.size+1+1) W3 wx)
 case first=>
  go_wp2_with fail
  go_region_law ((refine step_copy_splice (by rfl) (.tmp 17) (.tmp 19) 28 28 (by rfl) 2 Tryz.underlying28 Tryz.QA (some ⟨w.heap.size+1+1,9,none⟩) aS 6 6 b.sn.length cS (by rfl) (by rfl) (w.heap.size+1+1) 9 V2 82 HS2 xs3 hm3 (fun hp=>⟨rfl,hc3 hp⟩) hf3 ho3 (w.heap.size+1+1) W3 (q2.drew) (Nat.le_refl _) ?_;intro U3 hg3 q3;have HS3:=hg3.out;clear hg3))
  all_goals
   go_wp2;go_meet;exact⟨_,Lib.hid rfl,HS3,q3⟩
 obtain⟨V3,XV3,HS3,q3⟩:=hcut;have kk3:AC w wc:=Below.trans XK.out (q3.mono (by omega));obtain⟨U3,hU3⟩:∃U3,U3=wc:=⟨_,rfl⟩;rw[<-hU3] at HS3 q3 kk3 ⊢;clear hU3 cB3 hc3 hm3 hf3 ho3 HS2;have HS:Hid (V3=(Z3 b 0).map (Value.int .i64)):=Lib.hid (by rw[XV3.out,oI.out,xU.out,XV0.out,XX1.out,XX2.out,XX3.out];exact Wu hs);rw[HS.out] at HS3;have cN3:U3.cell? ⟨w.heap.size,3,none⟩=some (.slice aN b.AG.length cN):=by rw[cell_of_row _ _ 3 _ _ _ ((Below.block q3 w.heap.size (by omega)).trans HB3)];rfl
 have XB3:=Lib.hid HB3;have ln:=hs.n;clear xU oI XV3 XX1 XX2 XX3 HS l1 l2 l3 kk1 kk2 vl1 vl2 vl3 HB3 q1 q2;go_wp2;clear cN3;go_loopw [4,5,24] (fun _ _ i wr=>∃k:Nat,k<=b.AG.length/\i = .int .i64 k/\wr.heap[w.heap.size+1+1]? = some (.cells ((Z3 b k).map (Value.int .i64)).toArray 82 (0,0))/\Below (w.heap.size+1+1) W3 wr) (fun _ _ i _=>b.AG.length-(intOf i).toNat)
 case atStart=>exact⟨0,Nat.zero_le _,rfl,HS3,q3⟩
 case round=>
  obtain⟨k,hk,rfl,hX,qr⟩:=hrel;clear HS3 q3 kk3;have kr:AC w wr:=Below.trans XK.out (qr.mono (by omega));by_cases hlt:k<b.AG.length
  ·
   obtain⟨a',c',e',hN⟩:=XH.out.N.keep kr;simp only[Value.slice.injEq,true_and] at e';obtain⟨rfl,rfl⟩:=e';rcases hN with h0|⟨bN,oN,rfl,hbN,jT⟩
   . exfalso;rw[h0] at hlt;simp at hlt
   obtain⟨vi,d1,dN⟩:=jT k hlt;obtain⟨ai,ci,rfl,-⟩:=id dN;obtain⟨m,hm⟩:∃m,m=(b.AG.getD k []).length:=⟨_,rfl⟩;rw[<-hm] at d1;have XM:=Lib.hid hm;have i1:(0:Int)<=(k:Int):=Int.natCast_nonneg _;have i2:(k:Int)<(b.AG.length:Int):=by omega
   have i3:(k:Int)<3:=by omega
   have d2:wr.cell? ⟨w.heap.size+1+1,6+k,none⟩=some (.int .i64 ((Z3 b k).getD (6+k) 0)):=by
    rw[cell_of_row _ _ (6+k) _ _ _ hX,List.getElem?_toArray,List.getElem?_map,List.getD_eq_getElem?_getD,List.getElem?_eq_getElem (by rw[ic hs];omega)];rfl
   have d3:=frozen_of_row wr (w.heap.size+1+1) (6+k) _ _ hX;have XX:=Lib.hid hX;clear jT dN hm hX;go_wp2;go_roundw
   case rel=>
    refine⟨k+1,by omega,by go_num,?_,Below.setCell qr (by simp) _⟩;rw[heap_setCell_same _ _ _ _ _ _ XX.out,<-ig hs hlt,List.map_set,XM.out];simp
   case measure=>simp[intOf];omega
  ·
   obtain rfl:k=b.AG.length:=by omega
   rw[iZ] at hX;replace hX:wr.heap[w.heap.size+1+1]? = some (.cells (UF b) 82 (0,0)):=hX;have hR:=(Below.block qr (w.heap.size+1) (by omega)).trans XR.out;have hsz:(Tryz.prog.info? 82).map (·.size)=some (UF b).size:=by unfold UF;rw[List.size_toArray,List.length_map,Qp hs];exact UK
   have hold:jG.toArray.size=(UF b).size:=by unfold UF;rw[List.size_toArray,List.size_toArray,List.length_map,Qp hs];rfl
   have dz:=Lib.hid (setRow_heap wr (w.heap.size+1) _ (UF b) _ _ hR);have XG:=Lib.hid (Af wr (w.heap.size+1) (UF b));go_wp2_with (first|refine wpList_load_row rfl 82 _ rfl (w.heap.size+1+1) rfl 82 _ (0,0) _ hX Tryz.underlying82 rfl hsz ?_|refine wpList_store_row rfl 82 _ _ rfl (w.heap.size+1) _ rfl rfl 82 _ hR hsz hold (iY b) ?_|fail)
   refine bodyPost_ret (BU (by rfl) _ _ (w.heap.size+1) 82 _ (0,0) _ rfl dz.out Tryz.underlying82 rfl hsz) rfl ?_;exact⟨rfl,kr.grown XG.out (fun q hq=>by have:=Option.some.inj hq;omega)⟩
def VF (vs:List BV)(bs:List Bd)(n:Nat):List (BV×Bd):=(List.range n).map (fun i=>(vs.getD i RY,bs.getD i MV))
theorem Zo (vs:List BV)(bs:List Bd)(n:Nat):VF vs bs (n+1)=VF vs bs n++[(vs.getD n RY,bs.getD n MV)]:=by
 unfold VF;rw[List.range_succ,List.map_append];rfl
theorem VG {vs:List BV}{bs:List Bd}{n:Nat}{p:BV×Bd}(h:p∈VF vs bs n)(hn:n<=bs.length):∃i,i<bs.length/\p=(vs.getD i RY,bs.getD i MV)/\bs.getD i MV∈bs:=by
 unfold VF at h;obtain⟨i,hi,rfl⟩:=List.mem_map.1 h;have hi:=List.mem_range.1 hi;exact⟨i,by omega,rfl,by rw[List.getD_eq_getElem?_getD,List.getElem?_eq_getElem (by omega)];exact List.getElem_mem _⟩
theorem aH (w:World)(g base:Nat)(es:Array MapEntry)(l:List (BV×Bd))(v:Value)(vs:List BV)(ds:List (List Dd))(bs:List Bd)(P:Nat->Prop){S:Sy}(Z:RK ds S)
  (h:Wv w g es l) (hl:∀p∈l,S.R p.2) (hb:∀b∈bs,S.R b) (hs:FJ w P base v vs ds bs) (hg:¬P g) (hgv:v.ownBlock≠some g) (hn:bs.length<=1048576):
  Calls Tryz.prog 66 #[.map (some g),v] w fun e w'=>e = .returned (.tuple #[])/\(∃es',Wv w' g es' (l++VF vs bs bs.length))/\w.grownBy w' (some g):=by
 have HL:=hs.len
 obtain⟨av,cv,rfl⟩:∃a c,v = .slice a bs.length c:=by
  rcases hs.row.2 with ⟨rfl,hz⟩|⟨q,cap,cur,rfl,_⟩
  . exact⟨none,0,by rw[hz]⟩
  . exact⟨_,_,rfl⟩
 have XS:=Lib.hid hs;have XZ:=Lib.hid Z;have hng:some g≠none:=by simp
 have glt:=h.lt;clear hs;go_enter Tryz.func66,Tryz.ntmps66
 go_wp2;go_loopw [5,8] (fun _ s8 wr=>∃(i:Nat) (es':Array MapEntry),i<=bs.length/\s8 = .int .i64 i/\Wv wr g es' (l++VF vs bs i)/\w.grownBy wr (some g)) (fun _ s8 _=>bs.length-(intOf s8).toNat)
 case atStart=>exact⟨0,es,Nat.zero_le _,rfl,by rw[show VF vs bs 0=[] from rfl,List.append_nil];exact h,World.grownBy.refl _ _⟩
 case round=>
  obtain⟨i,es',hi,rfl,hW,G⟩:=hrel;have XW:=Lib.hid hW;have XG:=Lib.hid G;have zr:=G.size;clear h hW;by_cases hlt:i<bs.length
  ·
   have hsr:=XS.out.kept G (fun q hq=>by have:=Option.some.inj hq;subst this;exact⟨hg,hgv⟩);rcases hsr.row.2 with ⟨_,hz⟩|⟨gv,cap,cur,e,y9,hgl,hc,hm,hsz,ht⟩
   . omega
   simp only[Value.slice.injEq,true_and] at e;obtain⟨rfl,rfl⟩:=e;have hcl:=fun j (hj:j<8)=>(World.ownsRow.cellAt hsr.row (i*8+j) (by omega)).trans (YY vs i j (by omega) hj)
   have hel:=hsr.each i hlt;have hmem:bs.getD i MV∈bs:=by rw[List.getD_eq_getElem?_getD,List.getElem?_eq_getElem hlt];exact List.getElem_mem hlt
   have HB:=Lib.hid (show l++VF vs bs (i+1)=(l++VF vs bs i)++[(vs.getD i RY,bs.getD i MV)] by rw[Zo,List.append_assoc]);have hRb:=hb _ hmem
   have hall:∀p∈l++VF vs bs i,S.R p.2:=fun p hp=>by
    rcases List.mem_append.1 hp with q|q
    . exact hl p q
    ·
     obtain⟨j,_,rfl,hj⟩:=VG q (by omega);exact hb _ hj
   generalize vs.getD i RY=bv at hcl hel HB;generalize bs.getD i MV=b at hel hRb HB;obtain⟨bW,bP,bL,bN,bX,bS,bF,bR,dW,dP,dL,dN,dX,dS,dF,dR,rfl⟩:=hel.rd.shapes;have x0:=hcl 0 (by omega);have x1:=hcl 1 (by omega);have x2:=hcl 2 (by omega);have x3:=hcl 3 (by omega);have x4:=hcl 4 (by omega);have x5:=hcl 5 (by omega);have x6:=hcl 6 (by omega);have x7:=hcl 7 (by omega);simp only[cB,List.getElem?_cons_zero,List.getElem?_cons_succ,Nat.add_zero] at x0 x1 x2 x3 x4 x5 x6 x7;have i1:(0:Int)<=(i:Int):=Int.natCast_nonneg _;have i2:(i:Int)<(bs.length:Int):=by omega
   have XH:=Lib.hid (And.intro hel (And.intro hRb hall));clear hcl hsr hel hRb hall hmem ht y9 hm hsz;go_upto_region 3 with fail
   obtain⟨w2,hw2⟩:∃W:World,W=wr.alloc (.cells #[.slice bW ds.length dW,.slice bP b.AM.length dP,.slice bL b.AO.length dL,.slice bN b.AG.length dN,.slice bX b.AL.length dX,.slice bS b.sn.length dS,.slice bF b.fr.length dF,.slice bR b.rws.length dR] 36):=⟨_,rfl⟩;have k2:AC wr w2:=by rw[hw2];exact (AC.refl wr).alloc _
   have hD:w2.heap[wr.heap.size]? = some (.cells #[.slice bW ds.length dW,.slice bP b.AM.length dP,.slice bL b.AO.length dL,.slice bN b.AG.length dN,.slice bX b.AL.length dX,.slice bS b.sn.length dS,.slice bF b.fr.length dF,.slice bR b.rws.length dR] 36 (0,0)):=by rw[hw2];exact heap_alloc_new _ _
   have s2:wr.heap.size<w2.heap.size:=by rw[hw2,AD];omega
   rw[<-hw2];clear hw2 x0 x1 x2 x3 x4 x5 x6 x7;have kd:AC wr w2.drew:=k2.drew;have c0:(w2.drew).cell? ⟨wr.heap.size,0,none⟩=some (.slice bW ds.length dW):=by rw[show (w2.drew).cell? ⟨wr.heap.size,0,none⟩=w2.cell? ⟨wr.heap.size,0,none⟩ from rfl,cell_of_row _ _ 0 _ _ _ hD];rfl
   have c1:(w2.drew).cell? ⟨wr.heap.size,1,none⟩=some (.slice bP b.AM.length dP):=by rw[show (w2.drew).cell? ⟨wr.heap.size,1,none⟩=w2.cell? ⟨wr.heap.size,1,none⟩ from rfl,cell_of_row _ _ 1 _ _ _ hD];rfl
   have c2:(w2.drew).cell? ⟨wr.heap.size,2,none⟩=some (.slice bL b.AO.length dL):=by rw[show (w2.drew).cell? ⟨wr.heap.size,2,none⟩=w2.cell? ⟨wr.heap.size,2,none⟩ from rfl,cell_of_row _ _ 2 _ _ _ hD];rfl
   have c3:(w2.drew).cell? ⟨wr.heap.size,3,none⟩=some (.slice bN b.AG.length dN):=by rw[show (w2.drew).cell? ⟨wr.heap.size,3,none⟩=w2.cell? ⟨wr.heap.size,3,none⟩ from rfl,cell_of_row _ _ 3 _ _ _ hD];rfl
   have c4:(w2.drew).cell? ⟨wr.heap.size,4,none⟩=some (.slice bX b.AL.length dX):=by rw[show (w2.drew).cell? ⟨wr.heap.size,4,none⟩=w2.cell? ⟨wr.heap.size,4,none⟩ from rfl,cell_of_row _ _ 4 _ _ _ hD];rfl
   have c5:(w2.drew).cell? ⟨wr.heap.size,5,none⟩=some (.slice bS b.sn.length dS):=by rw[show (w2.drew).cell? ⟨wr.heap.size,5,none⟩=w2.cell? ⟨wr.heap.size,5,none⟩ from rfl,cell_of_row _ _ 5 _ _ _ hD];rfl
   have c6:(w2.drew).cell? ⟨wr.heap.size,6,none⟩=some (.slice bF b.fr.length dF):=by rw[show (w2.drew).cell? ⟨wr.heap.size,6,none⟩=w2.cell? ⟨wr.heap.size,6,none⟩ from rfl,cell_of_row _ _ 6 _ _ _ hD];rfl
   have c7:(w2.drew).cell? ⟨wr.heap.size,7,none⟩=some (.slice bR b.rws.length dR):=by rw[show (w2.drew).cell? ⟨wr.heap.size,7,none⟩=w2.cell? ⟨wr.heap.size,7,none⟩ from rfl,cell_of_row _ _ 7 _ _ _ hD];rfl
   go_wp2_with fail
   go_region_law ((go_simp;refine (L7 _ _ ds b ((XH.out.1.on (Au.Bq kd)).rd) (XZ.out.one XH.out.2.1).st).mono ?_;rintro e wz ⟨rfl,kk⟩;obtain⟨w4,es4,hrun,hW4,hg4⟩:=((XW.out.keep kd).keep kk).put (((XW.out.keep kd).keep kk).room XZ.out XH.out.2.2) (ZN (XZ.out.one XH.out.2.1)) ⟨.slice bW ds.length dW,.slice bP b.AM.length dP,.slice bL b.AO.length dL,.slice bN b.AG.length dN,.slice bX b.AL.length dX,.slice bS b.sn.length dS,.slice bF b.fr.length dF,.slice bR b.rws.length dR⟩;have d0:=(kk.cell (show wr.heap.size<(w2.drew).heap.size from s2)).trans c0;have d1:=(kk.cell (show wr.heap.size<(w2.drew).heap.size from s2)).trans c1;have d2:=(kk.cell (show wr.heap.size<(w2.drew).heap.size from s2)).trans c2;have d3:=(kk.cell (show wr.heap.size<(w2.drew).heap.size from s2)).trans c3;have d4:=(kk.cell (show wr.heap.size<(w2.drew).heap.size from s2)).trans c4;have d5:=(kk.cell (show wr.heap.size<(w2.drew).heap.size from s2)).trans c5;have d6:=(kk.cell (show wr.heap.size<(w2.drew).heap.size from s2)).trans c6;have d7:=(kk.cell (show wr.heap.size<(w2.drew).heap.size from s2)).trans c7;have XQ:=Lib.hid (And.intro hW4 (And.intro hg4 kk));clear hW4 hg4 kk))
   all_goals
    have XF:Hid ((∃es4,Wv w4 g es4 (l++VF vs bs (i+1)))/\w.grownBy w4 (some g)):=Lib.hid ⟨⟨es4,by rw[HB.out];exact XQ.out.1⟩,⟨XQ.out.2.1.os.trans (((kd.trans XQ.out.2.2).grownBy).os.trans XG.out.os),XQ.out.2.1.tape.trans (((kd.trans XQ.out.2.2).grownBy).tape.trans XG.out.tape),XQ.out.2.1.output.trans (((kd.trans XQ.out.2.2).grownBy).output.trans XG.out.output),Nat.le_trans XG.out.size (Nat.le_trans (kd.trans XQ.out.2.2).size XQ.out.2.1.size),fun q hq hne=>(XQ.out.2.1.block q (Nat.lt_of_lt_of_le hq (Nat.le_trans XG.out.size (kd.trans XQ.out.2.2).size)) hne).trans ((Below.block (kd.trans XQ.out.2.2) q (Nat.lt_of_lt_of_le hq XG.out.size)).trans (XG.out.block q hq hne))⟩⟩;clear c0 c1 c2 c3 c4 c5 c6 c7 d0 d1 d2 d3 d4 d5 d6 d7 hD;go_wp2;go_roundw
    case rel=>
     obtain⟨⟨es5,W5⟩,G5⟩:=XF.out;exact⟨i+1,es5,by omega,by go_num,W5,G5⟩
    case measure=>simp[intOf];omega
  ·
   obtain rfl:i=bs.length:=by omega
   go_wp2;go_end0;exact⟨rfl,⟨es',XW.out⟩,XG.out⟩
theorem BH (lo x hi:Int)(w:World):
  Calls Tryz.prog 103 #[.int .i64 lo,.int .i64 x,.int .i64 hi] w fun e w'=>e = .returned (.bool (Cj x lo hi))/\w'=w:=by
 go_enter Tryz.func103,Tryz.ntmps103
 go_wp2
 all_goals
  go_ret;exact⟨Bl (by rw[Bool.eq_iff_iff];unfold Cj;simp;omega),rfl⟩
def U5 (k:Int):Int:=if k=1\/k=2\/k=3 then 2 else 0
def U6 (k:Int):Int:=if k=2\/k=3 then 9 else 0
def QQ (k:Int):Int:=if k=2\/k=3 then 1 else 0
def U4 (k:Int):Int:=if k=1\/k=2 then 9 else 0
theorem Tq (k:Int)(w:World):
  Calls Tryz.prog 173 #[.int .i64 k] w fun e w'=>e = .returned (.tuple #[Fr 1 0 (QQ k) 0,Fr 4 (U5 k) (U6 k) (U4 k)])/\AC w w':=by
 have hk:k=1\/k=2\/k=3\/(¬k=1/\¬k=2/\¬k=3):=by omega
 rcases hk with rfl|rfl|rfl|⟨h1,h2,h3⟩
 all_goals
  go_enter Tryz.func173,Tryz.ntmps173
  go_wp2;go_region
  go_wp2;refine bodyPost_ret (Ql (by rfl) _ _ _ _ _ _ _ _ _ _ _ rfl (by simp only[Bw,A7,AD];repeat (first|exact if_pos rfl|exact if_pos trivial|rw[if_neg (by omega)])) rfl (by simp only[Bw,A7,AD];repeat (first|exact if_pos rfl|exact if_pos trivial|rw[if_neg (by omega)])) Tryz.underlying65 rfl (by kernel_rfl) (by kernel_rfl)) rfl ?_;refine⟨?_,(((((AC.refl w).alloc _).alloc _).alloc _).alloc _).drew⟩;first|rfl|simp[Fr,QQ,U5,U6,U4,h1,h2,h3]
theorem TS (k p v g:Int):D8 k p v g=(Cj k 1 4&&Cj p 0 (U5 k)&&Cj v (QQ k) (U6 k)&&Cj g 0 (U4 k)):=by
 have hk:k=1\/k=2\/k=3\/k=4\/¬(1<=k/\k<=4):=by omega
 rw[Bool.eq_iff_iff];rcases hk with rfl|rfl|rfl|rfl|h
 all_goals
  simp[D8,Cj,U5,U6,QQ,U4];omega
theorem IC (k p v g:Int)(w:World):
  Calls Tryz.prog 169 #[Fr k p v g] w fun e w'=>e = .returned (.bool (D8 k p v g))/\AC w w':=by
 rw[TS];unfold Fr;go_enter Tryz.func169,Tryz.ntmps169
 go_wp2_with fail
 refine (Tq _ _).mono ?_;rintro e w1 ⟨rfl,k1⟩;have hs:=FM k1;have c0:w1.cell? ⟨w.heap.size,0,none⟩=some (.int .i64 k):=AU k1 0;have c1:w1.cell? ⟨w.heap.size,1,none⟩=some (.int .i64 p):=AU k1 1;have c2:w1.cell? ⟨w.heap.size,2,none⟩=some (.int .i64 v):=AU k1 2;have c3:w1.cell? ⟨w.heap.size,3,none⟩=some (.int .i64 g):=AU k1 3;have K1:AC w w1:=((AC.refl w).alloc _).trans k1;clear k1;go_wp2_with (go_at_call 103;refine (BH _ _ _ _).mono ?_;rintro e w' ⟨rfl,rfl⟩)
 all_goals
  go_ret;exact⟨Bl (by simp[*]),(K1.alloc _).alloc _⟩
abbrev Wk:Value:= .iface 9 (.string { data:=#[116,104,105,115,32,99,97,110,39,116,32,98,101] })
abbrev PN:Ending:= .panicked [{ v:=Wk,recovered:=false }]
def KX (t:Bool):Ending:=if t=true then .returned (.tuple #[]) else PN
theorem Aw {t:Bool}(h:t=true):KX t = .returned (.tuple #[]):=if_pos h
theorem Ag {t:Bool}(h:t=false):KX t=PN:=if_neg (by rw[h];simp)
theorem DB (w:World):Calls Tryz.prog 111 #[.bool true] w fun e w'=>e = .returned (.tuple #[])/\w'=w:=by
 go_enter Tryz.func111,Tryz.ntmps111
 go_wp2;go_end0;exact⟨rfl,rfl⟩
theorem Gz (w:World):Calls Tryz.prog 111 #[.bool false] w fun e w'=>e=PN/\w'=w:=by
 go_enter Tryz.func111,Tryz.ntmps111
 go_wp2;exact⟨rfl,rfl,rfl⟩
theorem Du (t:Bool)(w:World):Calls Tryz.prog 111 #[.bool t] w fun e w'=>e=KX t/\w'=w:=by
 cases t
 . exact Gz w
 . exact DB w
theorem Dt (w:World)(v:Value)(zs:List Int)(n lo hi:Int)(h:Rd w v zs)(hl:zs.length<=1048576):
  Calls Tryz.prog 119 #[v,.int .i64 n,.int .i64 lo,.int .i64 hi] w fun e w'=>e=KX (FZ zs n lo hi)/\w'=w:=by
 obtain⟨a,c,rfl,h⟩:=h;have HD:Hid (FZ zs n lo hi=(decide ((zs.length:Int)=n)&&Mz zs lo hi)):=Lib.hid rfl;by_cases hn:(zs.length:Int)=n
 ·
  subst hn;have HT:Hid (FZ zs zs.length lo hi=Mz zs lo hi):=Lib.hid (by rw[HD.out,decide_eq_true rfl];rfl);clear HD;go_enter Tryz.func119,Tryz.ntmps119
  go_wp2_with fail
  refine (DB _).mono ?_;rintro e w2 ⟨rfl,rfl⟩;go_wp2;go_loopw [9,17] (fun _ i wr=>∃k:Nat,k<=zs.length/\i = .int .i64 k/\Hid (∀j,j<k->Cj (zs.getD j 0) lo hi=true)/\wr=w2) (fun _ i _=>zs.length-(intOf i).toNat)
  case atStart=>exact⟨0,Nat.zero_le _,rfl,Lib.hid (fun j hj=>absurd hj (Nat.not_lt_zero _)),rfl⟩
  case round=>
   obtain⟨k,hk,rfl,hno,rfl⟩:=hrel;by_cases hlt:k<zs.length
   ·
    rcases h with h|⟨b,off,rfl,hb,hc⟩
    . exfalso;rw[h] at hlt;simp at hlt
    have d:=hc k hlt;clear hc;cases hq:Cj (zs.getD k 0) lo hi
    ·
     have HE:Hid (FZ zs zs.length lo hi=false):=Lib.hid (by rw[HT.out];exact Ry hlt hq);clear hno HT;generalize zs.getD k 0=x at *;go_wp2_with fail
     refine (BH _ _ _ _).mono ?_;rintro e w3 ⟨rfl,rfl⟩;rw[hq];go_wp2_with fail
     refine (Gz _).mono ?_;rintro e w3 ⟨rfl,rfl⟩;go_wp2;exact⟨rfl,by rw[Ag HE.out],rfl⟩
    ·
     have HN:Hid (∀j,j<k+1->Cj (zs.getD j 0) lo hi=true):=Lib.hid (fun j hj=>by
      by_cases e:j=k
      . rw[e];exact hq
      . exact hno.out j (by omega))
     clear hno;generalize zs.getD k 0=x at *;go_wp2_with fail
     refine (BH _ _ _ _).mono ?_;rintro e w3 ⟨rfl,rfl⟩;rw[hq];go_wp2_with fail
     refine (DB _).mono ?_;rintro e w3 ⟨rfl,rfl⟩;go_wp2;go_roundw;case rel=>exact⟨k+1,by omega,rfl,HN,trivial⟩
     case measure=>simp[intOf];omega
   have HE:Hid (FZ zs zs.length lo hi=true):=Lib.hid (by rw[HT.out];exact Fz 0 (fun j hj=>hno.out j (by omega)));obtain rfl:k=zs.length:=by omega
   clear hno HT;go_wp2;go_end0;exact⟨by rw[Aw HE.out],rfl⟩
 ·
  have HT:Hid (FZ zs n lo hi=false):=Lib.hid (by rw[HD.out,decide_eq_false hn];rfl);clear HD;go_enter Tryz.func119,Tryz.ntmps119
  go_wp2_with fail
  refine (Du _ _).mono ?_;rintro e w2 ⟨rfl,rfl⟩;rw[Ag (by simp[hn])];go_wp2;exact⟨rfl,by rw[Ag HT.out],rfl⟩
theorem SM (w:World)(v:Value)(zs:List Int)(last:Int)(h:Rd w v zs)(hl:zs.length<=1048576):
  Calls Tryz.prog 148 #[v,.int .i64 last] w fun e w'=>e=KX (JF last zs)/\w'=w:=by
 have C:=Dt w v zs zs.length 0 last h hl;obtain⟨a,c,rfl,-⟩:=h;have HD:Hid (JF last zs=(decide (zs.length<=20)&&FZ zs zs.length 0 last)):=Lib.hid rfl;by_cases hn:zs.length<=20
 ·
  have HT:Hid (JF last zs=FZ zs zs.length 0 last):=Lib.hid (by rw[HD.out,decide_eq_true hn];rfl);clear HD;go_enter Tryz.func148,Tryz.ntmps148
  go_wp2_with fail
  refine (Du _ _).mono ?_;rintro e w2 ⟨rfl,rfl⟩;rw[Aw (by simp;omega)];go_wp2_with fail
  refine C.mono ?_;rintro e w3 ⟨rfl,rfl⟩;rw[<-HT.out];cases hb:JF last zs
  ·
   rw[Ag rfl];go_wp2;exact⟨rfl,by rw[Ag hb],rfl⟩
  ·
   rw[Aw rfl];go_wp2;go_end0;exact⟨by rw[Aw hb],rfl⟩
 ·
  have HT:Hid (JF last zs=false):=Lib.hid (by rw[HD.out,decide_eq_false hn];rfl);clear HD;go_enter Tryz.func148,Tryz.ntmps148
  go_wp2_with fail
  refine (Du _ _).mono ?_;rintro e w2 ⟨rfl,rfl⟩;rw[Ag (by simp;omega)];go_wp2;exact⟨rfl,by rw[Ag HT.out],rfl⟩
theorem Wc (last:Int)(x:Nt):(Cj x.1 0 2=false/\U9 last x=false)\/(Cj x.1 0 2=true/\Cj x.2.1 0 9=false/\U9 last x=false)\/(Cj x.1 0 2=true/\Cj x.2.1 0 9=true/\Cj x.2.2 0 last=false/\U9 last x=false)\/(Cj x.1 0 2=true/\Cj x.2.1 0 9=true/\Cj x.2.2 0 last=true/\U9 last x=true):=by
 unfold U9;cases Cj x.1 0 2<;>cases Cj x.2.1 0 9<;>cases Cj x.2.2 0 last<;>simp
theorem OB (w:World)(v:Value)(ns:List Nt)(last:Int)(h:jK w v ns)(hl:ns.length<=1048576):
  Calls Tryz.prog 149 #[v,.int .i64 last] w fun e w'=>e=KX (ON last ns)/\AC w w':=by
 obtain⟨a,c,rfl,h⟩:=h;have HD:Hid (ON last ns=(decide (ns.length<=8)&&ns.all (U9 last))):=Lib.hid rfl;by_cases hn:ns.length<=8
 ·
  have HT:Hid (ON last ns=ns.all (U9 last)):=Lib.hid (by rw[HD.out,decide_eq_true hn];rfl);clear HD;go_enter Tryz.func149,Tryz.ntmps149
  go_wp2_with fail
  refine (Du _ _).mono ?_;rintro e w2 ⟨rfl,rfl⟩;rw[Aw (by simp;omega)];go_wp2;go_loopw [12] (fun i wr=>∃k:Nat,k<=ns.length/\i = .int .i64 k/\Hid (∀j,j<k->U9 last (ns.getD j zN)=true)/\AC w2 wr) (fun i _=>ns.length-(intOf i).toNat)
  case atStart=>exact⟨0,Nat.zero_le _,rfl,Lib.hid (fun j hj=>absurd hj (Nat.not_lt_zero _)),AC.refl _⟩
  case round=>
   obtain⟨k,hk,rfl,hno,hK⟩:=hrel;by_cases hlt:k<ns.length
   ·
    rcases h with h|⟨b,off,rfl,hb,hc⟩
    . exfalso;rw[h] at hlt;simp at hlt
    obtain⟨g0,g1,g2⟩:=qQ (hc k _ (Ir hlt));have q0:=(hK.cell hb).trans g0;have q1:=(hK.cell hb).trans g1;have q2:=(hK.cell hb).trans g2;have CS:=Wc last (ns.getD k zN);have HF:U9 last (ns.getD k zN)=false->Hid (ON last ns=false):=fun e=>Lib.hid (by rw[HT.out];exact Hs zN hlt e)
    have HN:U9 last (ns.getD k zN)=true->Hid (∀j,j<k+1->U9 last (ns.getD j zN)=true):=fun hq=>Lib.hid (fun j hj=>by
     by_cases e:j=k
     . rw[e];exact hq
     . exact hno.out j (by omega))
    have i1:(0:Int)<=(k:Int):=Int.natCast_nonneg _;have i2:(k:Int)<(ns.length:Int):=by omega
    have hbw:b<wr.heap.size:=Nat.lt_of_lt_of_le hb hK.size;clear hno hc g0 g1 g2 HT;generalize ns.getD k zN=y at *;obtain⟨y0,y1,y2⟩:=y;simp only at q0 q1 q2 CS;rcases CS with ⟨t0,e⟩|⟨t0,t1,e⟩|⟨t0,t1,t2,e⟩|⟨t0,t1,t2,e⟩
    ·
     have HE:=HF e;clear HF HN e;go_wp2_with fail
     refine (BH _ _ _ _).mono ?_;rintro e w3 ⟨rfl,rfl⟩;rw[t0];go_wp2_with fail
     refine (Gz _).mono ?_;rintro e w3 ⟨rfl,rfl⟩;go_wp2;exact⟨rfl,by rw[Ag HE.out],hK.alloc _⟩
    ·
     have HE:=HF e;clear HF HN e;go_wp2_with fail
     refine (BH _ _ _ _).mono ?_;rintro e w3 ⟨rfl,rfl⟩;rw[t0];go_wp2_with fail
     refine (DB _).mono ?_;rintro e w3 ⟨rfl,rfl⟩;go_wp2_with fail
     refine (BH _ _ _ _).mono ?_;rintro e w3 ⟨rfl,rfl⟩;rw[t1];go_wp2_with fail
     refine (Gz _).mono ?_;rintro e w3 ⟨rfl,rfl⟩;go_wp2;exact⟨rfl,by rw[Ag HE.out],hK.alloc _⟩
    ·
     have HE:=HF e;clear HF HN e;go_wp2_with fail
     refine (BH _ _ _ _).mono ?_;rintro e w3 ⟨rfl,rfl⟩;rw[t0];go_wp2_with fail
     refine (DB _).mono ?_;rintro e w3 ⟨rfl,rfl⟩;go_wp2_with fail
     refine (BH _ _ _ _).mono ?_;rintro e w3 ⟨rfl,rfl⟩;rw[t1];go_wp2_with fail
     refine (DB _).mono ?_;rintro e w3 ⟨rfl,rfl⟩;go_wp2_with fail
     refine (BH _ _ _ _).mono ?_;rintro e w3 ⟨rfl,rfl⟩;rw[t2];go_wp2_with fail
     refine (Gz _).mono ?_;rintro e w3 ⟨rfl,rfl⟩;go_wp2;exact⟨rfl,by rw[Ag HE.out],hK.alloc _⟩
    ·
     have HE:=HN e;clear HF HN e;go_wp2_with fail
     refine (BH _ _ _ _).mono ?_;rintro e w3 ⟨rfl,rfl⟩;rw[t0];go_wp2_with fail
     refine (DB _).mono ?_;rintro e w3 ⟨rfl,rfl⟩;go_wp2_with fail
     refine (BH _ _ _ _).mono ?_;rintro e w3 ⟨rfl,rfl⟩;rw[t1];go_wp2_with fail
     refine (DB _).mono ?_;rintro e w3 ⟨rfl,rfl⟩;go_wp2_with fail
     refine (BH _ _ _ _).mono ?_;rintro e w3 ⟨rfl,rfl⟩;rw[t2];go_wp2_with fail
     refine (DB _).mono ?_;rintro e w3 ⟨rfl,rfl⟩;go_wp2;go_roundw;case rel=>exact⟨k+1,by omega,rfl,HE,hK.alloc _⟩
     case measure=>simp[intOf];omega
   have HE:Hid (ON last ns=true):=Lib.hid (by rw[HT.out];exact Fz zN (fun j hj=>hno.out j (by omega)));obtain rfl:k=ns.length:=by omega
   clear hno HT;go_wp2;go_end0;exact⟨by rw[Aw HE.out],hK⟩
 ·
  have HT:Hid (ON last ns=false):=Lib.hid (by rw[HD.out,decide_eq_false hn];rfl);clear HD;go_enter Tryz.func149,Tryz.ntmps149
  go_wp2_with fail
  refine (Du _ _).mono ?_;rintro e w2 ⟨rfl,rfl⟩;rw[Ag (by simp;omega)];go_wp2;exact⟨rfl,by rw[Ag HT.out],AC.refl _⟩
theorem L6 (s t:Int)(w:World):
  Calls Tryz.prog 162 #[.int .i64 s,.int .i64 t] w fun e w'=>e = .returned (.int .i64 (bits .and .i64 s t))/\w'=w:=by
 go_enter Tryz.func162,Tryz.ntmps162
 go_wp2;go_ret;exact⟨rfl,rfl⟩
theorem UI (s t:Int)(w:World):
  Calls Tryz.prog 158 #[.int .i64 s,.int .i64 t] w fun e w'=>e = .returned (.int .i64 (bits .or .i64 s t))/\w'=w:=by
 go_enter Tryz.func158,Tryz.ntmps158
 go_wp2;go_ret;exact⟨rfl,rfl⟩
theorem DG (a:Option Addr)(n c:Nat)(w:World):
  Calls Tryz.prog 140 #[.slice a n c] w fun e w'=>e = .returned (.int .i64 (n:Int))/\w'=w:=by
 go_enter Tryz.func140,Tryz.ntmps140
 go_wp2;go_ret;exact⟨rfl,rfl⟩
theorem WH (d:Dd):(d.1=3/\TW d=2)\/(d.1=1/\TW d=1)\/(d.1=2/\TW d=1)\/(¬d.1=3/\¬d.1=1/\¬d.1=2/\TW d=0):=by
 unfold TW
 repeat' split
 all_goals omega
theorem TY (w:World)(v:Value)(ds:List Dd)(h:MC w v ds)(hx:ds.length<=1048576):
  Calls Tryz.prog 141 #[v] w fun e w'=>e = .returned (.int .i64 (Oo ds ds.length))/\AC w w':=by
 obtain⟨a,c,rfl,h⟩:=h;go_enter Tryz.func141,Tryz.ntmps141
 go_wp2;go_loopw [3,8] (fun n i wr=>∃k:Nat,∃m:Int,k<=ds.length/\n = .int .i64 m/\i = .int .i64 k/\Hid (m=Oo ds k)/\0<=m/\m<=2*k/\AC w wr) (fun _ i _=>ds.length-(intOf i).toNat)
 case atStart=>exact⟨0,0,Nat.zero_le _,rfl,rfl,Lib.hid rfl,by omega,by omega,AC.refl _⟩
 case round=>
  obtain⟨k,m,hk,rfl,rfl,hm,m0,m1,hK⟩:=hrel;by_cases hlt:k<ds.length
  ·
   rcases h with h|⟨b,o,rfl,hb,hc⟩
   . exfalso;rw[h] at hlt;simp at hlt
   obtain⟨A0,A1,A2,A3⟩:=(hc k hlt).keep hb hK;clear hc;have HE:Hid (m+TW (ds.getD k zD)=Oo ds (k+1)):=Lib.hid (by rw[Oo,hm.out]);have CS:=WH (ds.getD k zD);clear hm;obtain⟨d,hd⟩:∃d,d=ds.getD k zD:=⟨_,rfl⟩;rw[<-hd] at A0 A1 A2 A3 HE CS;clear hd;obtain⟨x0,x1,x2,x3⟩:=d;simp only at A0 A1 A2 A3 CS;have hbw:b<wr.heap.size:=Nat.lt_of_lt_of_le hb hK.size;have i1:(0:Int)<=(k:Int):=Int.natCast_nonneg _;have i2:(k:Int)<(ds.length:Int):=by omega
   rcases CS with ⟨rfl,e⟩|⟨rfl,e⟩|⟨rfl,e⟩|⟨n3,n1,n2,e⟩
   ·
    rw[e] at HE;clear e;go_wp2;go_roundw;case rel=>exact⟨k+1,m+2,by omega,by go_num,by go_num,HE,by omega,by omega,hK.alloc _⟩
    case measure=>simp[intOf];omega
   ·
    rw[e] at HE;clear e;go_wp2;go_roundw;case rel=>exact⟨k+1,m+1,by omega,by go_num,by go_num,HE,by omega,by omega,hK.alloc _⟩
    case measure=>simp[intOf];omega
   ·
    rw[e] at HE;clear e;go_wp2;go_roundw;case rel=>exact⟨k+1,m+1,by omega,by go_num,by go_num,HE,by omega,by omega,hK.alloc _⟩
    case measure=>simp[intOf];omega
   ·
    rw[e,Int.add_zero] at HE;clear e;have e3:(x0==3)=false:=by simp[n3]
    have e1:(x0==1)=false:=by simp[n1]
    have e2:(x0==2)=false:=by simp[n2]
    clear n3 n1 n2;go_wp2;go_roundw;case rel=>exact⟨k+1,m,by omega,by go_num,by go_num,HE,by omega,by omega,hK.alloc _⟩
    case measure=>simp[intOf];omega
  ·
   obtain rfl:k=ds.length:=by omega
   go_wp2;go_ret;exact⟨by rw[hm.out];rfl,hK⟩
theorem FP (w:World)(v:Value)(ds:List Dd)(h:MC w v ds)(hx:ds.length<=1048576):
  Calls Tryz.prog 159 #[v] w fun e w'=>e = .returned (.int .i64 (gC ds))/\AC w w':=by
 obtain⟨a,c,rfl,h⟩:=h;go_enter Tryz.func159,Tryz.ntmps159
 go_wp2;go_loopw [3,8] (fun n i wr=>∃k:Nat,∃m:Int,k<=ds.length/\n = .int .i64 m/\i = .int .i64 k/\Hid (m=gK ds k)/\AC w wr) (fun _ i _=>ds.length-(intOf i).toNat)
 case atStart=>exact⟨0,0,Nat.zero_le _,rfl,rfl,Lib.hid rfl,AC.refl _⟩
 case round=>
  obtain⟨k,m,hk,rfl,rfl,hm,hK⟩:=hrel;by_cases hlt:k<ds.length
  ·
   rcases h with h|⟨b,o,rfl,hb,hc⟩
   . exfalso;rw[h] at hlt;simp at hlt
   obtain⟨A0,A1,A2,A3⟩:=(hc k hlt).keep hb hK;clear hc;have HE:Hid (gK ds (k+1)=if Pz (ds.getD k zD)=0 then m else ME m (Pz (ds.getD k zD))):=Lib.hid (by rw[gK,hm.out]);clear hm;obtain⟨d,hd⟩:∃d,d=ds.getD k zD:=⟨_,rfl⟩;rw[<-hd] at A0 A1 A2 A3 HE;clear hd;obtain⟨x0,x1,x2,x3⟩:=d;unfold Pz at HE;simp only at A0 A1 A2 A3 HE;have hbw:b<wr.heap.size:=Nat.lt_of_lt_of_le hb hK.size;have i1:(0:Int)<=(k:Int):=Int.natCast_nonneg _;have i2:(k:Int)<(ds.length:Int):=by omega
   by_cases h0:x3=0
   ·
    subst h0;go_wp2;go_roundw;case rel=>exact⟨k+1,m,by omega,by go_num,by go_num,Lib.hid (by rw[HE.out,if_pos rfl]),hK.alloc _⟩
    case measure=>simp[intOf];omega
   ·
    have e0:(x3 != 0)=true:=by simp[h0]
    have HF:Hid (gK ds (k+1)=ME m x3):=Lib.hid (by rw[HE.out,if_neg h0]);clear h0 HE;go_wp2_with fail
    refine (aY _ _ _).mono ?_;rintro e wz ⟨rfl,rfl⟩;go_wp2;go_roundw;case rel=>exact⟨k+1,_,by omega,rfl,by go_num,Lib.hid HF.out.symm,hK.alloc _⟩
    case measure=>simp[intOf];omega
  ·
   obtain rfl:k=ds.length:=by omega
   go_wp2;go_ret;exact⟨by rw[hm.out];rfl,hK⟩
theorem Vq {α:Type}{f:α->Bool}{l:List α}{k:Nat}(z:α)(h:k<l.length)(h1:(l.take k).all f=true)(h2:f (l.getD k z)=true):(l.take (k+1)).all f=true:=by
 rw[List.take_add_one,List.getElem?_eq_getElem h,List.all_append,h1];rw[List.getD_eq_getElem?_getD,List.getElem?_eq_getElem h] at h2
 simpa using h2
theorem E0 (w:World)(v:Value)(ds:List Dd)(h:MC w v ds)(hx:ds.length<=1048576):
  Calls Tryz.prog 160 #[v] w fun e w'=>e = .returned (.bool (ds.all Fm))/\AC w w':=by
 obtain⟨a,c,rfl,h⟩:=h;go_enter Tryz.func160,Tryz.ntmps160
 go_wp2;go_loopw [7] (fun i wr=>∃k:Nat,k<=ds.length/\i = .int .i64 k/\Hid ((ds.take k).all Fm=true)/\AC w wr) (fun i _=>ds.length-(intOf i).toNat)
 case atStart=>exact⟨0,Nat.zero_le _,rfl,Lib.hid (by simp),AC.refl _⟩
 case round=>
  obtain⟨k,hk,rfl,hm,hK⟩:=hrel;by_cases hlt:k<ds.length
  ·
   rcases h with h|⟨b,o,rfl,hb,hc⟩
   . exfalso;rw[h] at hlt;simp at hlt
   obtain⟨A0,A1,A2,A3⟩:=(hc k hlt).keep hb hK;clear hc;have HT:Fm (ds.getD k zD)=true->Hid ((ds.take (k+1)).all Fm=true):=fun e=>Lib.hid (Vq zD hlt hm.out e)
   have HF:Fm (ds.getD k zD)=false->Hid (ds.all Fm=false):=fun e=>Lib.hid (Pl zD k hlt e)
   clear hm;obtain⟨d,hd⟩:∃d,d=ds.getD k zD:=⟨_,rfl⟩;rw[<-hd] at A0 A1 A2 A3 HT HF;clear hd;obtain⟨x0,x1,x2,x3⟩:=d;simp only at A0 A1 A2 A3;have hbw:b<wr.heap.size:=Nat.lt_of_lt_of_le hb hK.size;have i1:(0:Int)<=(k:Int):=Int.natCast_nonneg _;have i2:(k:Int)<(ds.length:Int):=by omega
   cases hd:D8 x0 x1 x2 x3
   ·
    have HE:=HF hd;clear HT HF;go_wp2_with fail
    refine (IC _ _ _ _ _).mono ?_;rintro e wz ⟨rfl,kk⟩;go_wp2;go_ret;exact⟨by rw[HE.out];rfl,(hK.alloc _).trans kk⟩
   ·
    have HE:=HT hd;clear HT HF;go_wp2_with fail
    refine (IC _ _ _ _ _).mono ?_;rintro e wz ⟨rfl,kk⟩;go_wp2;go_roundw;case rel=>exact⟨k+1,by omega,by go_num,HE,(hK.alloc _).trans kk⟩
    case measure=>simp[intOf];omega
  ·
   obtain rfl:k=ds.length:=by omega
   rw[List.take_length] at hm;go_wp2;go_ret;exact⟨by rw[hm.out];rfl,hK⟩
abbrev Vx (x0 x1 x2 x3:Int):Obj:= .cells #[.int .i64 x0,.int .i64 x1,.int .i64 x2,.int .i64 x3] 65
theorem MC.cut {w:World}{b o:Nat}{ds:List Dd}{c k:Nat}(hk:k<=ds.length)(hb:b<w.heap.size)(hc:∀i,i<ds.length->af w b (o+i*4) (ds.getD i zD)):
  MC w (.slice (some ⟨b,o,none⟩) k (ds.length+c)) (ds.take k):=by
 refine⟨some ⟨b,o,none⟩,ds.length+c-k,?_,.inr ⟨b,o,rfl,hb,fun i hi=>?_⟩⟩
 ·
  rw[List.length_take,Nat.min_eq_left hk]
  congr 1
  omega
 ·
  rw[List.length_take] at hi;rw[PX ds k i zD (by omega)];exact hc i (by omega)
theorem UO {ds:List Dd}{k:Nat}(h:Fk ds k=true)(hp:IR ds k=false):Fk ds (k+1)=true:=by rw[Fk,h,hp];rfl
theorem jE {ds:List Dd}{k:Nat}(hk:k<ds.length)(hp:IR ds k=true):Fk ds ds.length=false:=by
 refine Nn (k:=k+1) ?_ _ hk;rw[Fk,hp];simp
theorem Ee (w:World)(v:Value)(ds:List Dd)(h:MC w v ds)(hx:ds.length<=1048576):
  Calls Tryz.prog 161 #[v] w fun e w'=>e = .returned (.bool (Fk ds ds.length))/\AC w w':=by
 obtain⟨a,c,rfl,h⟩:=h;go_enter Tryz.func161,Tryz.ntmps161
 go_wp2;go_loopw [3,7] (fun j i wr=>∃k:Nat,k<=ds.length/\i = .int .i64 k/\Hid (Fk ds k=true)/\AC w wr) (fun _ i _=>ds.length-(intOf i).toNat)
 case atStart=>exact⟨0,Nat.zero_le _,rfl,Lib.hid rfl,AC.refl _⟩
 case round=>
  obtain⟨k,hk,rfl,hm,hK⟩:=hrel;by_cases hlt:k<ds.length
  ·
   rcases h with h|⟨b,o,rfl,hb,hc⟩
   . exfalso;rw[h] at hlt;simp at hlt
   obtain⟨A0,A1,A2,A3⟩:=(hc k hlt).keep hb hK;have hbw:b<wr.heap.size:=Nat.lt_of_lt_of_le hb hK.size;have i1:(0:Int)<=(k:Int):=Int.natCast_nonneg _;have i2:(k:Int)<(ds.length:Int):=by omega
   have HP:Hid (IR ds k=(decide (0<k)&&(Pz (ds.getD k zD) != Pz (ds.getD (k-1) zD))&&FT (gK ds k) (Pz (ds.getD k zD)))):=Lib.hid rfl;by_cases h0:k=0
   ·
    have HT:=Lib.hid (UO hm.out (by rw[HP.out];simp[h0]));have d0:decide (0<k)=false:=by simp[h0]
    clear hm HP hc;obtain⟨d,hd⟩:∃d,d=ds.getD k zD:=⟨_,rfl⟩;rw[<-hd] at A0 A1 A2 A3;clear hd h0;obtain⟨x0,x1,x2,x3⟩:=d;simp only at A0 A1 A2 A3;go_wp2;go_quiet (fail)
    go_wp2;go_roundw;case rel=>exact⟨k+1,by omega,by go_num,HT,(hK.alloc _).drewN _⟩
    case measure=>simp[intOf];omega
   ·
    obtain⟨r,rfl⟩:∃r:Nat,k=r+1:=⟨k-1,by omega⟩;rw[Nat.add_sub_cancel] at HP;have B3:=((hc r (by omega)).keep hb hK).2.2.2;have RT:MC w (.slice (some ⟨b,o,none⟩) (r+1) (ds.length+c)) (ds.take (r+1)):=MC.cut (by omega) hb hc;have HG:=Lib.hid (gL ds (r+1) (by omega));have HL:=Lib.hid (show (ds.take (r+1)).length=r+1 by rw[List.length_take];omega);clear hc;have j1:(0:Int)<=(r:Int):=Int.natCast_nonneg _;have j2:(r:Int)<(ds.length:Int):=by omega
    have d2:(r:Int)+1<(ds.length:Int):=by omega
    have d5:(r:Int)+1<=(ds.length:Int)+(c:Int):=by omega
    have d6:(0:Int)<=(r:Int)+1:=by omega
    have d7:((r+1:Nat):Int)<=((ds.length+c:Nat):Int):=by omega
    have d3:IntKind.i64.wrap (r:Int)=(r:Int):=by rw[IntKind.wrap_i64];omega
    have d4:wrap64 (r:Int)=(r:Int):=Dy _ (by omega) (by omega);obtain⟨d,hd⟩:∃d,d=ds.getD (r+1) zD:=⟨_,rfl⟩;rw[<-hd] at A0 A1 A2 A3 HP;clear hd;obtain⟨p,hp⟩:∃p,p=(ds.getD r zD).2.2.2:=⟨_,rfl⟩;rw[<-hp] at B3;have HQ:Hid (Pz (ds.getD r zD)=p):=Lib.hid (by rw[hp];rfl);clear hp;rw[HQ.out] at HP;clear HQ;obtain⟨x0,x1,x2,x3⟩:=d;unfold Pz at HP;simp only at A0 A1 A2 A3 HP;by_cases he:x3=p
    ·
     subst he;have HT:=Lib.hid (UO hm.out (by rw[HP.out];simp));have ne:(x3 != x3)=false:=by simp
     clear HP hm;go_wp2;go_quiet (fail)
     go_wp2;go_roundw;case rel=>exact⟨r+1+1,by omega,by go_num,HT,(hK.alloc _).drewN _⟩
     case measure=>simp[intOf];omega
    ·
     have ne:(x3 != p)=true:=by simp[he]
     clear he;cases hin:FT (gK ds (r+1)) x3
     ·
      have HT:=Lib.hid (UO hm.out (by rw[HP.out,hin];simp));clear HP hm;go_wp2;have KK:AC w ((wr.alloc (Vx x0 x1 x2 x3)).drew):=(hK.alloc _).drew;have z1:wr.heap.size<((wr.alloc (Vx x0 x1 x2 x3)).drew).heap.size:=by rw[A7,AD];omega
      have z2:b<((wr.alloc (Vx x0 x1 x2 x3)).drew).heap.size:=by rw[A7,AD];omega
      go_region_held3 (fun w'=>w'.cell? ⟨wr.heap.size,3,none⟩=some (.int .i64 x3)/\w'.cell? ⟨b,o+r*4+3,none⟩=some (.int .i64 p))
       (first|go_keep|(go_split_ands;refine⟨?_,?_⟩<;>(rw[kk.cell (by assumption)];assumption)))
       ((first
        | (go_at_call 159;refine (FP _ _ _ (RT.keep KK) (by rw[HL.out];omega)).mono ?_;rw[HG.out];rintro e wz ⟨rfl,kk⟩;have KK:=KK.trans kk;have z1:=Nat.lt_of_lt_of_le z1 kk.size;have z2:=Nat.lt_of_lt_of_le z2 kk.size)
        | (go_at_call 170;refine (Us _ _ _).mono ?_;rintro e wy ⟨rfl,rfl⟩)))
      all_goals
       go_wp2;go_roundw;case rel=>exact⟨r+1+1,by omega,by go_num,HT,KK⟩
       case measure=>simp[intOf];omega
     ·
      have HT:=Lib.hid (jE hlt (by rw[HP.out,hin,ne];simp));clear HP hm;go_wp2;have KK:AC w ((wr.alloc (Vx x0 x1 x2 x3)).drew):=(hK.alloc _).drew;have z1:wr.heap.size<((wr.alloc (Vx x0 x1 x2 x3)).drew).heap.size:=by rw[A7,AD];omega
      have z2:b<((wr.alloc (Vx x0 x1 x2 x3)).drew).heap.size:=by rw[A7,AD];omega
      go_region_held3 (fun w'=>w'.cell? ⟨wr.heap.size,3,none⟩=some (.int .i64 x3)/\w'.cell? ⟨b,o+r*4+3,none⟩=some (.int .i64 p))
       (first|go_keep|(go_split_ands;refine⟨?_,?_⟩<;>(rw[kk.cell (by assumption)];assumption)))
       ((first
        | (go_at_call 159;refine (FP _ _ _ (RT.keep KK) (by rw[HL.out];omega)).mono ?_;rw[HG.out];rintro e wz ⟨rfl,kk⟩;have KK:=KK.trans kk;have z1:=Nat.lt_of_lt_of_le z1 kk.size;have z2:=Nat.lt_of_lt_of_le z2 kk.size)
        | (go_at_call 170;refine (Us _ _ _).mono ?_;rintro e wy ⟨rfl,rfl⟩)))
      all_goals
       go_wp2;go_ret;exact⟨by rw[HT.out];rfl,KK⟩
  ·
   obtain rfl:k=ds.length:=by omega
   go_wp2;go_ret;exact⟨by rw[hm.out];rfl,hK⟩
abbrev qi (v:Value)(t:Int):Obj:= .cells #[v,.int .i64 t] 155
theorem UB {ds:List Dd}{t:Int}(h5:ds.length<=5)(ha:ds.all Fm=true)(ht:Fk ds ds.length=true)(h0:(bits .and .i64 (gC ds) t==0)=true):Cn ds t=true:=by
 rw[Cn,decide_eq_true h5,ha,ht,h0];rfl
theorem Lu (w:World)(v:Value)(t:Int)(ds:List Dd)(h:MC w v ds)(hx:ds.length<=1048576):
  Calls Tryz.prog 139 #[.agg #[v,.int .i64 t]] w fun e w'=>e = .returned (.bool (Cn ds t))/\AC w w':=by
 have KK:AC w ((w.alloc (qi v t)).drew):=((AC.refl w).alloc _).drew;have z1:w.heap.size<((w.alloc (qi v t)).drew).heap.size:=by rw[A7,AD];omega
 obtain⟨a,c,hv,-⟩:=id h;subst hv;by_cases h5:ds.length<=5
 ·
  have e5:decide (ds.length<=5)=true:=decide_eq_true h5;have e5':decide ((ds.length:Int)<=5)=true:=decide_eq_true (by omega);have g5:(ds.length:Int)<=5:=by omega
  cases ha:ds.all Fm
  ·
   have HE:Hid (Cn ds t=false):=Lib.hid (by rw[Cn,ha];simp);go_enter Tryz.func139,Tryz.ntmps139
   go_wp2;refine wp_region_held_drew (S:=(fun w'=>w'.cell? ⟨w.heap.size,0,none⟩=some (.slice a ds.length (ds.length+c))/\w'.cell? ⟨w.heap.size,1,none⟩=some (.int .i64 t))) (by kernel_rfl) ?_ (fun hHeld=>?_)
   . go_keep
   refine Ar 0 3 (v:=?_) ?_ ?_;rotate_left
   ·
    intro wx hSw;go_simp;with_reducible rfl
   refine Ar 1 4 (v:=?_) ?_ ?_;rotate_left
   ·
    intro wx hSw;go_simp;with_reducible rfl
   simp only[Act.put,List.setIfInBounds_toArray,List.set_cons_zero,List.set_cons_succ];refine wpAnyH_ready (rs:=[2]) (by kernel_rfl) (by simp) ?_;refine AllReadyH.cons rfl (fun K hK=>?_) AllReadyH.nil;go_simp;refine (DG _ _ _ _).mono ?_;rintro e wz ⟨rfl,rfl⟩;go_wp2_with fail
   refine hK.out _ _ ?_ (fun hHeld=>?_)
   . exact hHeld
   clear hK K;refine Ar 3 6 (v:=?_) ?_ ?_;rotate_left
   ·
    intro wx hSw;go_simp;with_reducible rfl
   refine Ar 4 7 (v:=?_) ?_ ?_;rotate_left
   ·
    intro wx hSw;go_simp;with_reducible rfl
   refine Ar 5 8 (v:=?_) ?_ ?_;rotate_left
   ·
    intro wx hSw;go_simp;with_reducible rfl
   refine Ar 6 9 (v:=?_) ?_ ?_;rotate_left
   ·
    intro wx hSw;go_simp;with_reducible rfl
   simp only[Act.put,List.setIfInBounds_toArray,List.set_cons_zero,List.set_cons_succ];refine wpAnyH_ready (rs:=[7]) (by kernel_rfl) (by simp) ?_;refine AllReadyH.cons rfl (fun K hK=>?_) AllReadyH.nil;go_simp;refine (E0 _ _ _ (h.keep KK) hx).mono ?_;rw[ha];rintro e wz1 ⟨rfl,kk⟩;have z0:=z1;have KK:=KK.trans kk;have z1:=Nat.lt_of_lt_of_le z1 kk.size;go_wp2_with fail
   refine hK.out _ _ ?_ (fun hHeld=>?_)
   . exact⟨(kk.cell z0).trans hHeld.1,(kk.cell z0).trans hHeld.2⟩
   clear hK K;refine Ar 8 11 (v:=?_) ?_ ?_;rotate_left
   ·
    intro wx hSw;go_simp;with_reducible rfl
   refine Ar 9 12 (v:=?_) ?_ ?_;rotate_left
   ·
    intro wx hSw;go_simp;with_reducible rfl
   simp only[Act.put,List.setIfInBounds_toArray,List.set_cons_zero,List.set_cons_succ];refine Ea 10 13 rfl rfl (by kernel_rfl) (by kernel_rfl) (by kernel_rfl) (fun _ _ _ h=>h) (by rfl) (by assumption) ?_;simp only[Act.put,List.setIfInBounds_toArray,List.set_cons_zero,List.set_cons_succ];refine Ea 11 14 rfl rfl (by kernel_rfl) (by kernel_rfl) (by kernel_rfl) (fun _ _ _ h=>h) (by rfl) (by assumption) ?_;simp only[Act.put,List.setIfInBounds_toArray,List.set_cons_zero,List.set_cons_succ];refine Ea 12 15 rfl rfl (by kernel_rfl) (by kernel_rfl) (by kernel_rfl) (fun _ _ _ h=>h) (by rfl) (by assumption) ?_;refine Ar 13 16 (v:=?_) ?_ ?_;rotate_left
   ·
    intro wx hSw;go_simp;with_reducible rfl
   refine Ar 14 17 (v:=?_) ?_ ?_;rotate_left
   ·
    intro wx hSw;go_simp;with_reducible rfl
   simp only[Act.put,List.setIfInBounds_toArray,List.set_cons_zero,List.set_cons_succ];refine Ea 15 18 rfl rfl (by kernel_rfl) (by kernel_rfl) (by kernel_rfl) (fun _ _ _ h=>h) (by rfl) (by assumption) ?_;simp only[Act.put,List.setIfInBounds_toArray,List.set_cons_zero,List.set_cons_succ];refine Ea 16 19 rfl rfl (by kernel_rfl) (by kernel_rfl) (by kernel_rfl) (fun _ _ _ h=>h) (by rfl) (by assumption) ?_;simp only[Act.put,List.setIfInBounds_toArray,List.set_cons_zero,List.set_cons_succ];refine Ea 17 20 rfl rfl (by kernel_rfl) (by kernel_rfl) (by kernel_rfl) (fun _ _ _ h=>h) (by rfl) (by assumption) ?_;simp only[Act.put,List.setIfInBounds_toArray,List.set_cons_zero,List.set_cons_succ];refine Ea 18 21 rfl rfl (by kernel_rfl) (by kernel_rfl) (by kernel_rfl) (fun _ _ _ h=>h) (by rfl) (by assumption) ?_;simp only[Act.put,List.setIfInBounds_toArray,List.set_cons_zero,List.set_cons_succ];refine Ea 19 22 rfl rfl (by kernel_rfl) (by kernel_rfl) (by kernel_rfl) (fun _ _ _ h=>h) (by rfl) (by assumption) ?_;simp only[Act.put,List.setIfInBounds_toArray,List.set_cons_zero,List.set_cons_succ];refine Ea 20 23 rfl rfl (by kernel_rfl) (by kernel_rfl) (by kernel_rfl) (fun _ _ _ h=>h) (by rfl) (by assumption) ?_;simp only[Act.put,List.setIfInBounds_toArray,List.set_cons_zero,List.set_cons_succ];refine Ea 21 24 rfl rfl (by kernel_rfl) (by kernel_rfl) (by kernel_rfl) (fun _ _ _ h=>h) (by rfl) (by assumption) ?_;refine Ar 22 25 (v:=?_) ?_ ?_;rotate_left
   ·
    intro wx hSw;go_simp;with_reducible rfl
   refine Ar 23 2 (v:=?_) ?_ ?_;rotate_left
   ·
    intro wx hSw;go_simp;with_reducible rfl
   simp only[Act.put,List.setIfInBounds_toArray,List.set_cons_zero,List.set_cons_succ];refine wpAnyH_done (by kernel_rfl) ?_ _;go_wp2;go_ret;exact⟨by rw[HE.out];rfl,KK⟩
  ·
   cases ht:Fk ds ds.length
   ·
    have HE:Hid (Cn ds t=false):=Lib.hid (by rw[Cn,ht];simp);go_enter Tryz.func139,Tryz.ntmps139
    go_wp2;refine wp_region_held_drew (S:=(fun w'=>w'.cell? ⟨w.heap.size,0,none⟩=some (.slice a ds.length (ds.length+c))/\w'.cell? ⟨w.heap.size,1,none⟩=some (.int .i64 t))) (by kernel_rfl) ?_ (fun hHeld=>?_)
    . go_keep
    refine Ar 0 3 (v:=?_) ?_ ?_;rotate_left
    ·
     intro wx hSw;go_simp;with_reducible rfl
    refine Ar 1 4 (v:=?_) ?_ ?_;rotate_left
    ·
     intro wx hSw;go_simp;with_reducible rfl
    simp only[Act.put,List.setIfInBounds_toArray,List.set_cons_zero,List.set_cons_succ];refine wpAnyH_ready (rs:=[2]) (by kernel_rfl) (by simp) ?_;refine AllReadyH.cons rfl (fun K hK=>?_) AllReadyH.nil;go_simp;refine (DG _ _ _ _).mono ?_;rintro e wz ⟨rfl,rfl⟩;go_wp2_with fail
    refine hK.out _ _ ?_ (fun hHeld=>?_)
    . exact hHeld
    clear hK K;refine Ar 3 6 (v:=?_) ?_ ?_;rotate_left
    ·
     intro wx hSw;go_simp;with_reducible rfl
    refine Ar 4 7 (v:=?_) ?_ ?_;rotate_left
    ·
     intro wx hSw;go_simp;with_reducible rfl
    refine Ar 5 8 (v:=?_) ?_ ?_;rotate_left
    ·
     intro wx hSw;go_simp;with_reducible rfl
    refine Ar 6 9 (v:=?_) ?_ ?_;rotate_left
    ·
     intro wx hSw;go_simp;with_reducible rfl
    simp only[Act.put,List.setIfInBounds_toArray,List.set_cons_zero,List.set_cons_succ];refine wpAnyH_ready (rs:=[7]) (by kernel_rfl) (by simp) ?_;refine AllReadyH.cons rfl (fun K hK=>?_) AllReadyH.nil;go_simp;refine (E0 _ _ _ (h.keep KK) hx).mono ?_;rw[ha];rintro e wz1 ⟨rfl,kk⟩;have z0:=z1;have KK:=KK.trans kk;have z1:=Nat.lt_of_lt_of_le z1 kk.size;go_wp2_with fail
    refine hK.out _ _ ?_ (fun hHeld=>?_)
    . exact⟨(kk.cell z0).trans hHeld.1,(kk.cell z0).trans hHeld.2⟩
    clear hK K;refine Ar 8 11 (v:=?_) ?_ ?_;rotate_left
    ·
     intro wx hSw;go_simp;with_reducible rfl
    refine Ar 9 12 (v:=?_) ?_ ?_;rotate_left
    ·
     intro wx hSw;go_simp;with_reducible rfl
    refine Ar 10 13 (v:=?_) ?_ ?_;rotate_left
    ·
     intro wx hSw;go_simp;with_reducible rfl
    refine Ar 11 14 (v:=?_) ?_ ?_;rotate_left
    ·
     intro wx hSw;go_simp;with_reducible rfl
    simp only[Act.put,List.setIfInBounds_toArray,List.set_cons_zero,List.set_cons_succ];refine wpAnyH_ready (rs:=[12]) (by kernel_rfl) (by simp) ?_;refine AllReadyH.cons rfl (fun K hK=>?_) AllReadyH.nil;go_simp;refine (Ee _ _ _ (h.keep KK) hx).mono ?_;rw[ht];rintro e wz2 ⟨rfl,kk⟩;have z0:=z1;have KK:=KK.trans kk;have z1:=Nat.lt_of_lt_of_le z1 kk.size;go_wp2_with fail
    refine hK.out _ _ ?_ (fun hHeld=>?_)
    . exact⟨(kk.cell z0).trans hHeld.1,(kk.cell z0).trans hHeld.2⟩
    clear hK K;refine Ar 13 16 (v:=?_) ?_ ?_;rotate_left
    ·
     intro wx hSw;go_simp;with_reducible rfl
    refine Ar 14 17 (v:=?_) ?_ ?_;rotate_left
    ·
     intro wx hSw;go_simp;with_reducible rfl
    simp only[Act.put,List.setIfInBounds_toArray,List.set_cons_zero,List.set_cons_succ];refine Ea 15 18 rfl rfl (by kernel_rfl) (by kernel_rfl) (by kernel_rfl) (fun _ _ _ h=>h) (by rfl) (by assumption) ?_;simp only[Act.put,List.setIfInBounds_toArray,List.set_cons_zero,List.set_cons_succ];refine Ea 16 19 rfl rfl (by kernel_rfl) (by kernel_rfl) (by kernel_rfl) (fun _ _ _ h=>h) (by rfl) (by assumption) ?_;simp only[Act.put,List.setIfInBounds_toArray,List.set_cons_zero,List.set_cons_succ];refine Ea 17 20 rfl rfl (by kernel_rfl) (by kernel_rfl) (by kernel_rfl) (fun _ _ _ h=>h) (by rfl) (by assumption) ?_;simp only[Act.put,List.setIfInBounds_toArray,List.set_cons_zero,List.set_cons_succ];refine Ea 18 21 rfl rfl (by kernel_rfl) (by kernel_rfl) (by kernel_rfl) (fun _ _ _ h=>h) (by rfl) (by assumption) ?_;simp only[Act.put,List.setIfInBounds_toArray,List.set_cons_zero,List.set_cons_succ];refine Ea 19 22 rfl rfl (by kernel_rfl) (by kernel_rfl) (by kernel_rfl) (fun _ _ _ h=>h) (by rfl) (by assumption) ?_;simp only[Act.put,List.setIfInBounds_toArray,List.set_cons_zero,List.set_cons_succ];refine Ea 20 23 rfl rfl (by kernel_rfl) (by kernel_rfl) (by kernel_rfl) (fun _ _ _ h=>h) (by rfl) (by assumption) ?_;simp only[Act.put,List.setIfInBounds_toArray,List.set_cons_zero,List.set_cons_succ];refine Ea 21 24 rfl rfl (by kernel_rfl) (by kernel_rfl) (by kernel_rfl) (fun _ _ _ h=>h) (by rfl) (by assumption) ?_;refine Ar 22 25 (v:=?_) ?_ ?_;rotate_left
    ·
     intro wx hSw;go_simp;with_reducible rfl
    refine Ar 23 2 (v:=?_) ?_ ?_;rotate_left
    ·
     intro wx hSw;go_simp;with_reducible rfl
    simp only[Act.put,List.setIfInBounds_toArray,List.set_cons_zero,List.set_cons_succ];refine wpAnyH_done (by kernel_rfl) ?_ _;go_wp2;go_ret;exact⟨by rw[HE.out];rfl,KK⟩
   ·
    cases h0:(bits .and .i64 (gC ds) t==0)
    ·
     have HE:Hid (Cn ds t=false):=Lib.hid (by rw[Cn,h0];simp);go_enter Tryz.func139,Tryz.ntmps139
     go_wp2
     go_region_held3 (fun w'=>w'.cell? ⟨w.heap.size,0,none⟩=some (.slice a ds.length (ds.length+c))/\w'.cell? ⟨w.heap.size,1,none⟩=some (.int .i64 t))
      (first|go_keep|(go_split_ands;refine⟨?_,?_⟩<;>(rw[kk.cell (by assumption)];assumption)))
      ((first
       | (go_at_call 140;refine (DG _ _ _ _).mono ?_;rintro e wz ⟨rfl,rfl⟩)
       | (go_at_call 160;refine (E0 _ _ _ (h.keep KK) hx).mono ?_;rintro e wz ⟨rfl,kk⟩;have KK:=KK.trans kk;have z1:=Nat.lt_of_lt_of_le z1 kk.size)
       | (go_at_call 161;refine (Ee _ _ _ (h.keep KK) hx).mono ?_;rintro e wz ⟨rfl,kk⟩;have KK:=KK.trans kk;have z1:=Nat.lt_of_lt_of_le z1 kk.size)
       | (go_at_call 159;refine (FP _ _ _ (h.keep KK) hx).mono ?_;rintro e wz ⟨rfl,kk⟩;have KK:=KK.trans kk;have z1:=Nat.lt_of_lt_of_le z1 kk.size)
       | (go_at_call 162;refine (L6 _ _ _).mono ?_;rintro e wz ⟨rfl,rfl⟩)))
     all_goals
      go_wp2;go_ret;exact⟨by rw[HE.out];rfl,KK⟩
    ·
     have HE:Hid (Cn ds t=true):=Lib.hid (UB h5 ha ht h0);go_enter Tryz.func139,Tryz.ntmps139
     go_wp2
     go_region_held3 (fun w'=>w'.cell? ⟨w.heap.size,0,none⟩=some (.slice a ds.length (ds.length+c))/\w'.cell? ⟨w.heap.size,1,none⟩=some (.int .i64 t))
      (first|go_keep|(go_split_ands;refine⟨?_,?_⟩<;>(rw[kk.cell (by assumption)];assumption)))
      ((first
       | (go_at_call 140;refine (DG _ _ _ _).mono ?_;rintro e wz ⟨rfl,rfl⟩)
       | (go_at_call 160;refine (E0 _ _ _ (h.keep KK) hx).mono ?_;rintro e wz ⟨rfl,kk⟩;have KK:=KK.trans kk;have z1:=Nat.lt_of_lt_of_le z1 kk.size)
       | (go_at_call 161;refine (Ee _ _ _ (h.keep KK) hx).mono ?_;rintro e wz ⟨rfl,kk⟩;have KK:=KK.trans kk;have z1:=Nat.lt_of_lt_of_le z1 kk.size)
       | (go_at_call 159;refine (FP _ _ _ (h.keep KK) hx).mono ?_;rintro e wz ⟨rfl,kk⟩;have KK:=KK.trans kk;have z1:=Nat.lt_of_lt_of_le z1 kk.size)
       | (go_at_call 162;refine (L6 _ _ _).mono ?_;rintro e wz ⟨rfl,rfl⟩)))
     all_goals
      go_wp2;go_ret;exact⟨by rw[HE.out];rfl,KK⟩
 ·
  have e5:decide (ds.length<=5)=false:=decide_eq_false h5;have e5':decide ((ds.length:Int)<=5)=false:=decide_eq_false (by omega);have HE:Hid (Cn ds t=false):=Lib.hid (by rw[Cn,e5];rfl);go_enter Tryz.func139,Tryz.ntmps139
  go_wp2;go_quiet ((go_at_call 140;exact Calls.quiet_of_same (DG _ _ _ _)))
  go_wp2;go_ret;exact⟨by rw[HE.out];rfl,((AC.refl w).alloc _).drewN _⟩
theorem Tryz.rZ:(Tryz.prog.info? 155).map (fun i=>(i.zero,i.size,i.bytes))=some (some (.agg #[.slice none 0 0,.int .i64 0]),2,32):=by kernel_rfl
abbrev jN (v:Value)(t:Int):Obj:= .cells #[v,.int .i64 t] 155
def RdC (w:World)(v:Value)(AA:List (List Dd)):Prop:=
 ∃(a:Option Addr) (cap:Nat),v = .slice a AA.length cap /\
  (AA=[]\/∃b,a=some ⟨b,0,none⟩/\b<w.heap.size/\∀i,i<AA.length->∃vi,w.cell? ⟨b,i*2,none⟩=some vi/\MC w vi (AA.getD i [])/\w.cell? ⟨b,i*2+1,none⟩=some (.int .i64 (Gd AA i)))
def J1 (V:Nat->Value)(AA:List (List Dd))(k:Nat):List Value:=(List.range k).flatMap fun i=>[V i,.int .i64 (Gd AA i)]
theorem JU (V:Nat->Value)(AA:List (List Dd))(k:Nat):J1 V AA (k+1)=J1 V AA k++[V k,.int .i64 (Gd AA k)]:=by
 unfold J1;rw[List.range_succ,List.flatMap_append];simp
theorem Ku (V:Nat->Value)(AA:List (List Dd)):∀k,(J1 V AA k).length=k*2
 | 0=>rfl
 |k+1=>by rw[JU,List.length_append,Ku V AA k];simp;omega
theorem Mh (V:Nat->Value)(AA:List (List Dd)):∀k i,i<k->(J1 V AA k)[i*2]? = some (V i)/\(J1 V AA k)[i*2+1]? = some (.int .i64 (Gd AA i))
 | 0,i,h=>by omega
 |k+1,i,h=>by
  rw[JU];by_cases e:i<k
  ·
   have ih:=Mh V AA k i e;have hl:=Ku V AA k;rw[List.getElem?_append_left (by omega),List.getElem?_append_left (by omega)];exact ih
  ·
   obtain rfl:i=k:=by omega
   have hl:=Ku V AA i;rw[List.getElem?_append_right (by omega),List.getElem?_append_right (by omega),hl];simp
theorem nA {w0 w:World}{base:Nat}{v:Value}{V:Nat->Value}{AA:List (List Dd)}(h:w.ownsRow base 155 2 v AA.length (J1 V AA AA.length))(k:AC w0 w)(hV:∀i,i<AA.length->MC w0 (V i) (AA.getD i [])):RdC w v AA:=by
 have h2:=h;have hlt:=World.ownsRow.lt h;rcases h.2 with ⟨rfl,hn⟩|⟨g,cap,cur,rfl,hb,hg,_,_,hs,_⟩
 ·
  have:AA=[]:=List.eq_nil_of_length_eq_zero hn;subst this;exact⟨none,0,rfl,.inl rfl⟩
 ·
  refine⟨_,_,rfl,.inr ⟨g,rfl,(hlt g rfl).2,fun i hi=>?_⟩⟩;have hc:=Mh V AA AA.length i hi;have c1:=World.ownsRow.cellAt h2 (i*2) (by omega);have c2:=World.ownsRow.cellAt h2 (i*2+1) (by omega);exact⟨V i,by rw[c1,hc.1],(hV i hi).keep k,by rw[c2,hc.2]⟩
theorem J2 (w0 w:World)(kw:AC w0 w)(v:Value)(AA:List (List Dd))(h:JJ w0 v AA)(hx:AA.length<=3)(hm:∀i,i<AA.length->(AA.getD i []).length<=1048576):
  Calls Tryz.prog 138 #[v] w fun e w'=>∃v',e = .returned v'/\(∃V:Nat->Value,w'.ownsRow w.heap.size 155 2 v' AA.length (J1 V AA AA.length)/\∀i,i<AA.length->MC w0 (V i) (AA.getD i []))/\AC w w':=by
 obtain⟨a,c,rfl,h⟩:=h;have start:(w.alloc (.cells #[] 155)).ownsRow w.heap.size 155 2 (.slice (some ⟨w.heap.size,0,none⟩) 0 0) 0 []:=World.ownsRow_lit w #[] 0 (Nat.le_refl _) (by decide) rfl;obtain⟨i0,hi,hz0,hz1,hz2⟩:=info_parts Tryz.rZ
 obtain⟨V,hV⟩:∃V:Nat->Value,∀i,i<AA.length->MC w0 (V i) (AA.getD i [])/\∀b o,a=some ⟨b,o,none⟩->b<w0.heap.size/\w0.cell? ⟨b,o+i,none⟩=some (V i):=by
  rcases h with h|⟨b,o,rfl,hb,hc⟩
  . exact⟨fun _=>Value.bool false,fun i hi=>by rw[h] at hi;simp at hi⟩
  ·
   obtain⟨V,hV⟩:=Deep.choose_lt hc;refine⟨V,fun i hi=>⟨(hV i hi).2,fun b' o' e=>?_⟩⟩;simp only[Option.some.injEq,Addr.mk.injEq,and_true] at e;obtain⟨rfl,rfl⟩:=e;exact⟨hb,(hV i hi).1⟩
 have hA:AA.length=0\/∃b o,a=some ⟨b,o,none⟩:=by
  rcases h with h|⟨b,o,rfl,hb,hc⟩
  . left;rw[h];rfl
  . exact .inr ⟨b,o,rfl⟩
 clear h;go_enter Tryz.func138,Tryz.ntmps138
 go_wp2;go_loopw [3,4,11] (fun x t i wr=>∃k:Nat,k<=AA.length/\i = .int .i64 k/\t = .int .i64 (Gd AA k)/\wr.ownsRow w.heap.size 155 2 x k (J1 V AA k)/\AC w wr) (fun _ _ i _=>AA.length-(intOf i).toNat)
 case atStart=>exact⟨0,Nat.zero_le _,rfl,rfl,start,(AC.refl w).alloc _⟩
 case round=>
  obtain⟨k,hk,rfl,rfl,ho,hK⟩:=hrel;clear start;by_cases hlt:k<AA.length
  ·
   obtain⟨b,o,rfl⟩:∃b o,a=some ⟨b,o,none⟩:=hA.resolve_left (by omega);obtain⟨hR,hC⟩:=hV k hlt;obtain⟨hb,hC⟩:=hC b o rfl;have hmk:=hm k hlt;have HM:=Lib.hid (JU V AA k);have HT:Hid (Gd AA (k+1)=bits .or .i64 (Gd AA k) (gC (AA.getD k []))):=Lib.hid rfl;have HV:=Lib.hid hV;clear hV hm hA;obtain⟨ds,hds⟩:∃ds,ds=AA.getD k []:=⟨_,rfl⟩;rw[<-hds] at hR hmk HT;clear hds;generalize Gd AA k=t at HM HT;have hK0:=kw.trans hK;have d1:=(hK0.cell hb).trans hC;have R1:=hR.keep hK0;obtain⟨u,hu⟩:∃u,u=V k:=⟨_,rfl⟩;rw[<-hu] at d1 R1 HM;have R0:=hR;rw[<-hu] at R0;clear hu hC hR;obtain⟨ai,ci,rfl,-⟩:=id R1;have hbw:b<wr.heap.size:=Nat.lt_of_lt_of_le hb hK0.size;have hsz:=hK.size;have i1:(0:Int)<=(k:Int):=Int.natCast_nonneg _;have i2:(k:Int)<(AA.length:Int):=by omega
   have ho2:=World.ownsRow.kept ho (((AC.refl wr).alloc (jN (.slice ai ds.length (ds.length+ci)) t)).alloc (.cells #[.slice ai ds.length (ds.length+ci),.int .i64 t] 155)).grownBy (by cases u3.ownBlock<;>simp);go_wp2_with (at_builtin;refine wpList_append_own_at _ rfl _ _ 150 rfl w.heap.size 155 i0 (.agg #[.slice none 0 0,.int .i64 0]) 2 32 Tryz.underlying150 hi hz0 hz1 hz2 rfl (by decide) _ _ _ rfl ho2 ⟨_,0,none⟩ 1 1 [.slice ai ds.length (ds.length+ci),.int .i64 t] rfl rfl ?c1 ?c2 ?c3 ?c4 ?c5 ?_)
   case c1=>
    intro j u hj
    match j,hj with
    | 0,hj=>simp at hj;subst hj;simp[Addr.add]
    | 1,hj=>simp at hj;subst hj;simp[Addr.add]
    |n+2,hj=>simp at hj
   case c2=>intro u hu;simp at hu;rcases hu with rfl|rfl<;>rfl
   case c3=>unfold maxLen;first|omega|(simp;omega)
   case c4=>first|omega|(simp;omega)
   case c5=>first|omega|(simp;omega)
   intro v' w2 hown' hgrow _ _;rw[<-HM.out] at hown';have hK2:AC w w2:=((hK.alloc _).alloc _).grown hgrow (fun g hg=>(World.ownsRow.lt ho g hg).1)
   have rJ:w2.heap[wr.heap.size]? = some (jN (.slice ai ds.length (ds.length+ci)) t):=
    (hgrow.block wr.heap.size (by rw[AD,AD];omega) (fun e=>by have:=(World.ownsRow.lt ho _ e.symm).2;omega)).trans (by rw[Bw,if_neg (by rw[AD];omega),Bw,if_pos rfl])
   have b0:w2.cell? ⟨wr.heap.size,0,none⟩=some (.slice ai ds.length (ds.length+ci)):=by rw[cell_of_row w2 _ 0 _ _ (0,0) rJ];rfl
   have R2:=R0.keep (kw.trans hK2);clear hgrow rJ;go_wp2_with fail
   refine (FP _ _ _ R2 hmk).mono ?_;rintro e w3 ⟨rfl,k3⟩;have ho3:=World.ownsRow.kept hown' k3.grownBy (by cases v'.ownBlock<;>simp);go_wp2_with fail
   refine (UI _ _ _).mono ?_;rintro e w4 ⟨rfl,rfl⟩;go_wp2;go_roundw;case rel=>exact⟨k+1,by omega,by go_num,by rw[HT.out],ho3,hK2.trans k3⟩
   case measure=>simp[intOf];omega
  ·
   obtain rfl:k=AA.length:=by omega
   go_wp2;go_ret;exact⟨_,rfl,⟨V,ho,fun i hi=>(hV i hi).1⟩,hK⟩
theorem Pr (w:World)(v:Value)(AA:List (List Dd))(h:JJ w v AA)(hx:AA.length<=3)(hm:∀i,i<AA.length->(AA.getD i []).length<=1048576):
  Calls Tryz.prog 138 #[v] w fun e w'=>∃v',e = .returned v'/\RdC w' v' AA/\AC w w':=
 (J2 w w (AC.refl w) v AA h hx hm).mono fun _ _ ⟨v',he,⟨_,ho,hV⟩,hK⟩=>⟨v',he,nA ho hK hV,hK⟩
def jv (w0 wc w:World)(v:Value)(AA:List (List Dd)):Prop:=
 ∃(b c:Nat) (V:Nat->Value),v = .slice (some ⟨b,0,none⟩) AA.length c/\wc.heap.size<=b/\b<w.heap.size /\
  ∀i,i<AA.length->MC w0 (V i) (AA.getD i [])/\w.cell? ⟨b,i*2,none⟩=some (V i)/\w.cell? ⟨b,i*2+1,none⟩=some (.int .i64 (Gd AA i))
theorem Rf (w0 w:World)(kw:AC w0 w)(v:Value)(AA:List (List Dd))(h:JJ w0 v AA)(h1:1<=AA.length)(hx:AA.length<=3)(hm:∀i,i<AA.length->(AA.getD i []).length<=1048576):
  Calls Tryz.prog 138 #[v] w fun e w'=>∃v',e = .returned v'/\jv w0 w w' v' AA/\AC w w':=by
 refine (J2 w0 w kw v AA h hx hm).mono fun _ w' ⟨v',he,⟨V,ho,hV⟩,hK⟩=>⟨v',he,?_,hK⟩
 have hlt:=World.ownsRow.lt ho;have h2:=ho;rcases ho.2 with ⟨_,hn⟩|⟨g,cap,cur,rfl,hb,hg,_,_,hs,_⟩
 . omega
 ·
  refine⟨g,cap,V,rfl,hb,(hlt g rfl).2,fun i hi=>?_⟩;have hc:=Mh V AA AA.length i hi;have c1:=World.ownsRow.cellAt h2 (i*2) (by omega);have c2:=World.ownsRow.cellAt h2 (i*2+1) (by omega);exact⟨hV i hi,by rw[c1,hc.1],by rw[c2,hc.2]⟩
theorem NH (d:List Dd):∀l:List (List Dd),C8 (l++[d])=C8 l+d.length
 | []=>by simp[C8]
 |x::r=>by rw[List.cons_append,C8,C8,NH d r];omega
theorem UN {α:Type}(l:List α)(k:Nat)(z:α)(h:k<l.length):l.take (k+1)=l.take k++[l.getD k z]:=by
 rw[List.take_add_one,List.getElem?_eq_getElem h,List.getD_eq_getElem?_getD,List.getElem?_eq_getElem h];rfl
theorem UA {ds:List Dd}{t:Int}(h:Cn ds t=true):ds.length<=5:=by
 simp only[Cn,Bool.and_eq_true,decide_eq_true_eq] at h;exact h.1.1.1
theorem C7 (w:World)(v:Value)(AA:List (List Dd))(h:JJ w v AA)(hx:AA.length<=1048576)(hm:∀i,i<AA.length->(AA.getD i []).length<=1048576):
  Calls Tryz.prog 112 #[v] w fun e w'=>e = .returned (.bool (AQ AA))/\AC w w':=by
 have RW:=h;obtain⟨a,c,rfl,h⟩:=h;clear h;have HW:=Lib.hid (Sv AA);cases hb:Cj (AA.length:Int) 1 3
 ·
  have HE:Hid (AQ AA=false):=by
   refine Lib.hid ?_;simp[Cj] at hb;rw[HW.out,decide_eq_false (by omega)];rfl
  go_enter Tryz.func112,Tryz.ntmps112
  go_wp2_with (go_at_call 103;refine (BH _ _ _ _).mono ?_;rintro e w' ⟨rfl,rfl⟩)
  go_ret;exact⟨by rw[HE.out];rfl,AC.refl _⟩
 ·
  have h13:1<=AA.length/\AA.length<=3:=by simp[Cj] at hb;omega
  have HW2:Hid (AQ AA=(B6 AA AA.length&&decide (C8 AA<=12)&&decide (Ro AA AA.length<=6))):=Lib.hid (by rw[HW.out,decide_eq_true h13];rfl);have h3:=h13.2;clear h13 HW;go_enter Tryz.func112,Tryz.ntmps112
  go_wp2_with fail
  refine (BH _ _ _ _).mono ?_;rintro e w' ⟨rfl,rfl⟩;go_wp2_with fail
  refine (Pr _ _ _ RW h3 hm).mono ?_;rintro e w1 ⟨v1,rfl,rc,k1⟩;clear hb RW;obtain⟨a1,c1,rfl,rc⟩:=rc;go_wp2;go_loopw [3,4,14] (fun n m i wr=>∃k x:Nat,∃y:Int,k<=AA.length/\n = .int .i64 x/\m = .int .i64 y/\i = .int .i64 k/\Hid (x=C8 (AA.take k)/\y=Ro AA k/\B6 AA k=true)/\x<=5*k/\0<=y/\y<=10*k/\AC w1 wr) (fun _ _ i _=>AA.length-(intOf i).toNat)
  case atStart=>exact⟨0,0,0,Nat.zero_le _,rfl,rfl,rfl,Lib.hid ⟨by simp[C8],rfl,rfl⟩,by omega,by omega,by omega,AC.refl _⟩
  case round=>
   obtain⟨k,x,y,hk,rfl,rfl,rfl,hM,x5,y0,y1,hK⟩:=hrel;by_cases hlt:k<AA.length
   ·
    rcases rc with h|⟨b,rfl,hb,hc⟩
    . exfalso;rw[h] at hlt;simp at hlt
    obtain⟨vi,e1,r1,e2⟩:=hc k hlt;have hmk:=hm k hlt;clear hc hm;have HR:Hid (B6 AA (k+1)=(B6 AA k&&Cn (AA.getD k []) (Gd AA k))):=Lib.hid rfl;have HV:Hid (Ro AA (k+1)=Ro AA k+Oo (AA.getD k []) (AA.getD k []).length):=Lib.hid rfl;have HN:Hid (C8 (AA.take (k+1))=C8 (AA.take k)+(AA.getD k []).length):=Lib.hid (by rw[UN AA k [] hlt,NH]);obtain⟨ds,hds⟩:∃ds,ds=AA.getD k []:=⟨_,rfl⟩;rw[<-hds] at r1 hmk HR HV HN;clear hds;generalize Gd AA k=t at e2 HR;have d1:=(hK.cell hb).trans e1;have d2:=(hK.cell hb).trans e2;have r1:=r1.keep hK;obtain⟨ai,ci,rfl,-⟩:=id r1;have hbw:b<wr.heap.size:=Nat.lt_of_lt_of_le hb hK.size;have i1:(0:Int)<=(k:Int):=Int.natCast_nonneg _;have i2:(k:Int)<(AA.length:Int):=by omega
    clear e1 e2;cases hr:Cn ds t
    ·
     have HE:Hid (AQ AA=false):=Lib.hid (by
      rw[HW2.out,GG (k:=k+1) (by rw[HR.out,hr];simp) _ hlt]
      rfl)
     have HRR:=Lib.hid hr;clear hr;go_wp2_with fail
     refine (Lu _ _ _ _ (r1.keep ((AC.refl _).alloc _)) hmk).mono ?_;rw[HRR.out];rintro e wz ⟨rfl,kk⟩;go_wp2;go_ret;exact⟨by rw[HE.out];rfl,k1.trans ((hK.alloc _).trans kk)⟩
    ·
     have l5:=UA hr;have HRR:=Lib.hid hr;have EK:=Yp ds ds.length;clear hr;go_wp2_with fail
     refine (Lu _ _ _ _ (r1.keep ((AC.refl _).alloc _)) hmk).mono ?_;rw[HRR.out];rintro e wz ⟨rfl,kk⟩;have b0:wz.cell? ⟨wr.heap.size,0,none⟩=some (.slice ai ds.length (ds.length+ci)):=AU kk 0;have bs:wr.heap.size<wz.heap.size:=FM kk;have r2:=r1.keep (((AC.refl _).alloc _).trans kk);have hKz:=(hK.alloc (.cells #[.slice ai ds.length (ds.length+ci),.int .i64 t] 155)).trans kk;clear d1 d2 kk;go_wp2_with fail
     refine (DG _ _ _ _).mono ?_;rintro e w3 ⟨rfl,rfl⟩;go_wp2_with fail
     refine (TY _ _ _ r2 hmk).mono ?_;rintro e w4 ⟨rfl,k4⟩;have HH:Hid (x+ds.length=C8 (AA.take (k+1))/\y+Oo ds ds.length=Ro AA (k+1)/\B6 AA (k+1)=true):=Lib.hid ⟨by rw[HN.out,hM.out.1],by rw[HV.out,hM.out.2.1],by rw[HR.out,hM.out.2.2,HRR.out];rfl⟩;generalize Oo ds ds.length=ev at EK HH;go_wp2;go_roundw;case rel=>exact⟨k+1,x+ds.length,y+ev,by omega,by go_num,by go_num,by go_num,HH,by omega,by omega,by omega,hKz.trans k4⟩
     case measure=>simp[intOf];omega
   ·
    obtain rfl:k=AA.length:=by omega
    rw[List.take_length] at hM;have HE:Hid (AQ AA=(decide (x<=12)&&decide (y<=6))):=Lib.hid (by rw[HW2.out,hM.out.2.2,hM.out.1,hM.out.2.1];rfl);clear hM HW2 rc hm;by_cases h12:x<=12
    ·
     have e12:(x:Int)<=12:=by omega
     by_cases h6:y<=6
     ·
      go_wp2;go_ret;exact⟨by rw[HE.out,decide_eq_true h12,decide_eq_true h6];rfl,k1.trans hK⟩
     ·
      have e6:(6:Int)<y:=by omega
      go_wp2;go_ret;exact⟨by rw[HE.out,decide_eq_true h12,decide_eq_false (show ¬y<=6 by omega)];rfl,k1.trans hK⟩
    ·
     have e12:(12:Int)<(x:Int):=by omega
     go_wp2;go_ret;exact⟨by rw[HE.out,decide_eq_false (show ¬x<=12 by omega)];rfl,k1.trans hK⟩
def dZ (w w':World)(e:Ending)(vs:Array Value):Prop:=
 ∃B,e = .returned (.slice (some ⟨B,0,none⟩) vs.size vs.size)/\w'.heap[B]? = some (.cells vs 167)/\w.heap.size<=B/\AC w w'
theorem Wy (p v g:Int)(w:World):Calls Tryz.prog 147 #[Fr 1 p v g] w fun e w'=>dZ w w' e #[Wq p]:=by
 go_enter Tryz.func147,Tryz.ntmps147
 go_wp2;go_ret;exact⟨w.heap.size+1,rfl,by rw[Bw,if_pos (AD w _).symm],by omega,((AC.refl w).alloc _).alloc _⟩
theorem W6 (p v g:Int)(w:World):Calls Tryz.prog 147 #[Fr 2 p v g] w fun e w'=>dZ w w' e #[UQ p v]:=by
 go_enter Tryz.func147,Tryz.ntmps147
 go_wp2;go_ret;exact⟨w.heap.size+1,rfl,by rw[Bw,if_pos (AD w _).symm],by omega,((AC.refl w).alloc _).alloc _⟩
theorem Wz (p v g:Int)(w:World):Calls Tryz.prog 147 #[Fr 3 p v g] w fun e w'=>dZ w w' e #[Wq p,UQ p v]:=by
 go_enter Tryz.func147,Tryz.ntmps147
 go_wp2;go_ret;exact⟨w.heap.size+1,rfl,by rw[Bw,if_pos (AD w _).symm],by omega,((AC.refl w).alloc _).alloc _⟩
theorem W4 (p v g:Int)(w:World):Calls Tryz.prog 147 #[Fr 4 p v g] w fun e w'=>dZ w w' e #[]:=by
 go_enter Tryz.func147,Tryz.ntmps147
 go_wp2;go_ret;exact⟨w.heap.size+1,rfl,by rw[Bw,if_pos (AD w _).symm],by omega,((AC.refl w).alloc _).alloc _⟩
theorem Gr (w:World)(v:Value)(ds:List Dd)(h:MC w v ds)(k:Nat)(hk:k<ds.length)(hx:ds.length<=1048576):
  Calls Tryz.prog 146 #[v,.int .i64 k] w fun e w'=>e = .returned (.bool (Gq ds k))/\AC w w':=by
 obtain⟨a,c,rfl,h⟩:=h;rcases h with h|⟨b,o,rfl,hb,hc⟩
 . exfalso;rw[h] at hk;simp at hk
 have A3:=(hc k hk).2.2.2;have i1:(0:Int)<=(k:Int):=Int.natCast_nonneg _;have i2:(k:Int)<(ds.length:Int):=by omega
 have HP:Hid (Gq ds k=(decide (0<k)&&((ds.getD k zD).2.2.2 != 0)&&((ds.getD k zD).2.2.2==(ds.getD (k-1) zD).2.2.2))):=Lib.hid rfl;by_cases h0:k=0
 ·
  have HT:Hid (Gq ds k=false):=Lib.hid (by rw[HP.out];simp[h0]);have d0:decide (0<k)=false:=by simp[h0]
  generalize (ds.getD k zD).2.2.2=x3 at A3;clear HP hc h0;go_enter Tryz.func146,Tryz.ntmps146
  go_wp2;go_quiet (fail)
  go_wp2;go_ret;exact⟨by rw[HT.out];rfl,(AC.refl w).drewN _⟩
 ·
  obtain⟨r,rfl⟩:∃r:Nat,k=r+1:=⟨k-1,by omega⟩;rw[Nat.add_sub_cancel] at HP;have B3:=(hc r (by omega)).2.2.2;clear hc h0;have j1:(0:Int)<=(r:Int):=Int.natCast_nonneg _;have j2:(r:Int)<(ds.length:Int):=by omega
  have d2:(r:Int)+1<(ds.length:Int):=by omega
  have d6:(0:Int)<=(r:Int)+1:=by omega
  have d3:IntKind.i64.wrap (r:Int)=(r:Int):=by rw[IntKind.wrap_i64];omega
  have d4:wrap64 (r:Int)=(r:Int):=Dy _ (by omega) (by omega);generalize (ds.getD (r+1) zD).2.2.2=x3 at A3 HP;generalize (ds.getD r zD).2.2.2=y3 at B3 HP;by_cases e0:x3=0
  ·
   have HT:Hid (Gq ds (r+1)=false):=Lib.hid (by rw[HP.out];simp[e0]);have q0:(x3 != 0)=false:=by simp[e0]
   clear HP e0;go_enter Tryz.func146,Tryz.ntmps146
   go_wp2;go_quiet (fail)
   go_wp2;go_ret;exact⟨by rw[HT.out];rfl,(AC.refl w).drewN _⟩
  ·
   have q0:(x3 != 0)=true:=by simp[e0]
   have q1:(decide (0<r+1))=true:=by simp
   have HT:Hid (Gq ds (r+1)=(x3==y3)):=Lib.hid (by rw[HP.out,q0,q1];simp);clear HP e0 q1;go_enter Tryz.func146,Tryz.ntmps146
   go_wp2;go_quiet (fail)
   go_wp2;go_ret;exact⟨by rw[HT.out];rfl,(AC.refl w).drewN _⟩
theorem ER (w:World)(v:Value)(es:List Ev)(h:bA w v es)(hx:es.length<=1048576)(h1:1<=es.length)(go:Bool):
  Calls Tryz.prog 145 #[v,.bool go] w fun e w'=>e = .returned (.int .i64 (Ns es go))/\AC w w':=by
 obtain⟨a,c,rfl,h⟩:=h;rcases h with h|⟨b,o,rfl,hb,hc⟩
 . exfalso;rw[h] at h1;simp at h1
 cases go
 ·
  have HT:Hid (Ns es false=(es.length:Int)):=Lib.hid (by simp[Ns]);go_enter Tryz.func145,Tryz.ntmps145
  go_wp2;go_ret;exact⟨by rw[HT.out];rfl,AC.refl w⟩
 ·
  obtain⟨m,hm⟩:∃m,es.length=m+1:=⟨es.length-1,by omega⟩;have AT:=hc m _ (MO (by omega));have HT:Hid (Ns es true=bH (es.getD m zE)):=Lib.hid (by simp[Ns,NG,hm]);generalize es.getD m zE=e at AT HT;obtain⟨x0,x1,x2,x3,x4,x5⟩:=e;obtain⟨-,-,-,-,-,A5⟩:=oK AT;clear AT hc;rw[hm];have j1:(0:Int)<=(m:Int):=Int.natCast_nonneg _;have d3:IntKind.i64.wrap (m:Int)=(m:Int):=by rw[IntKind.wrap_i64];omega
  have d4:wrap64 (m:Int)=(m:Int):=Dy _ (by omega) (by omega);clear hm;go_enter Tryz.func145,Tryz.ntmps145
  go_wp2;go_ret;exact⟨by rw[HT.out];rfl,AC.refl w⟩
end Go.Proofs.YtnmelakgmgenjaaGreat
