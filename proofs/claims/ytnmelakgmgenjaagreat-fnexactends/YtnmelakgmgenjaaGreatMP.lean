/- Gathered texts. -/
import Derived.Laws.CopyOwn
import Derived.Deep.Cut
import Derived.Deep.RegionLaw
import Derived.Test.YtnmelakgmgenjaaGreatMJ
import Derived.BigRegion
import Derived.Lib.Hide
import Derived.Test.YtnmelakgmgenjaaGreatMF
import Derived.Deep.RegionHeld3
import Derived.Deep.QuietTactic
import Derived.BigQuiet
import Derived.Maps.AppendAt
import Derived.Laws.OwnMore
import Derived.OwnWalk
set_option maxRecDepth 100000
set_option maxHeartbeats 8000000
namespace Go.Proofs.YtnmelakgmgenjaaGreat
open Go.ChangeShapes Go.WideShapes Go.ChangeAt Go.RowKit
theorem Tryz.Ql:(Tryz.prog.info? 2).map (·.size)=some 1:=by kernel_rfl
theorem MT (w:World)(v:BV)(AA:List (List Dd))(b:Bd)(h:Cf w v AA b)(hs:QS b):
  Calls Tryz.prog 63 #[v.agg] w fun e w'=>e = .returned (Hb b)/\AC w w':=by
 obtain⟨aW,aP,aL,aN,aX,aS,aF,aR,cW,cP,cL,cN,cX,cS,cF,cR,rfl⟩:=h.shapes;obtain⟨W3,hW3⟩:∃W3,W3=(((w.alloc (.cells #[.slice aW AA.length cW,.slice aP b.AM.length cP,.slice aL b.AQ.length cL,.slice aN b.AG.length cN,.slice aX b.AK.length cX,.slice aS b.sn.length cS,.slice aF b.fr.length cF,.slice aR b.rws.length cR] 36)).alloc (.cells #[.int .i64 0,.int .i64 0,.int .i64 0,.int .i64 0,.int .i64 0,.int .i64 0,.int .i64 0,.int .i64 0,.int .i64 0,.int .i64 0,.int .i64 0,.int .i64 0,.int .i64 0,.int .i64 0,.int .i64 0] 82)).alloc (.cells #[.int .i64 0,.int .i64 0,.int .i64 0,.int .i64 0,.int .i64 0,.int .i64 0,.int .i64 0,.int .i64 0,.int .i64 0,.int .i64 0,.int .i64 0,.int .i64 0,.int .i64 0,.int .i64 0,.int .i64 0] 82)):=⟨_,rfl⟩;have K3:AC w W3:=by rw[hW3];exact (((AC.refl w).alloc _).alloc _).alloc _
 have z3:W3.heap.size=w.heap.size+3:=by rw[hW3];simp
 have HB3:W3.heap[w.heap.size]? = some (.cells #[.slice aW AA.length cW,.slice aP b.AM.length cP,.slice aL b.AQ.length cL,.slice aN b.AG.length cN,.slice aX b.AK.length cX,.slice aS b.sn.length cS,.slice aF b.fr.length cF,.slice aR b.rws.length cR] 36 (0,0)):=by rw[hW3];exact Ci (((AC.refl _).alloc _).alloc _)
 have HR3:W3.heap[w.heap.size+1]? = some (.cells (mE.toArray) 82 (0,0)):=by
  have q:=heap_alloc_new (w.alloc (.cells #[.slice aW AA.length cW,.slice aP b.AM.length cP,.slice aL b.AQ.length cL,.slice aN b.AG.length cN,.slice aX b.AK.length cX,.slice aS b.sn.length cS,.slice aF b.fr.length cF,.slice aR b.rws.length cR] 36)) (.cells mE.toArray 82);rw[AD] at q;rw[hW3];exact (Below.block ((AC.refl _).alloc _) _ (by rw[AD,AD];omega)).trans q
 have HS3:W3.heap[w.heap.size+1+1]? = some (.cells (mE.toArray) 82 (0,0)):=by
  have q:=heap_alloc_new ((w.alloc (.cells #[.slice aW AA.length cW,.slice aP b.AM.length cP,.slice aL b.AQ.length cL,.slice aN b.AG.length cN,.slice aX b.AK.length cX,.slice aS b.sn.length cS,.slice aF b.fr.length cF,.slice aR b.rws.length cR] 36)).alloc (.cells mE.toArray 82)) (.cells mE.toArray 82);rw[AD,AD] at q;rw[hW3];exact q
 have XH:=Lib.hid h;have XK:=Lib.hid K3;have XR:=Lib.hid HR3;obtain⟨V0,hV0⟩:∃V0,V0=mE:=⟨_,rfl⟩;rw[<-hV0] at HS3;have XV0:=Lib.hid hV0;have e3:(3:Int).toNat=3:=rfl;clear h K3 HR3 hV0;go_enter Tryz.func63,Tryz.ntmps63
 go_upto_region 2 with fail
 rw[<-hW3];clear hW3;have l1:=hs.p;have cB1:(W3.drew).cell? ⟨w.heap.size,1,none⟩=some (.slice aP b.AM.length cP):=by rw[show (W3.drew).cell? ⟨w.heap.size,1,none⟩=(W3).cell? ⟨w.heap.size,1,none⟩ from rfl,cell_of_row _ _ 1 _ _ _ HB3];rfl
 have hc1:0<(b.AM.map (Value.int .i64)).length->∃ad,aP=some ad/\∀j u,(b.AM.map (Value.int .i64))[j]? = some u->(W3.drew).cell? (ad.add j)=some u:=Uz ((XH.out.P).keep ((XK.out).trans (AC.refl _).drew));have vl1:V0.length=15:=by rw[XV0.out];rfl
 have hm1:(b.AM.map (Value.int .i64)).length=Nat.min b.AM.length 3:=by rw[List.length_map];exact (Nat.min_eq_left l1).symm
 have hf1:0+(b.AM.map (Value.int .i64)).length<=V0.length:=by rw[vl1,List.length_map];omega
 obtain⟨xs1,hxs1⟩:∃xs,xs=b.AM.map (Value.int .i64):=⟨_,rfl⟩;rw[<-hxs1] at hc1 hm1 hf1;have ho1:∀u∈xs1,u.oneCell'=true:=by rw[hxs1];exact Kp _
 have XX1:=Lib.hid hxs1;clear hxs1;go_cut [] from 6 (fun wx=>∃V:List Value,Hid (V=splice V0 0 xs1)/\wx.heap[w.heap.size+1+1]? = some (.cells V.toArray 82 (0,0))/\Below (w.heap.size+1+1) W3 wx)
 case first=>
  go_wp2_with fail
  go_region_law ((refine step_copy_splice (by rfl) (.tmp 7) (.tmp 9) 28 28 (by rfl) 2 Tryz.underlying28 Tryz.Ql (some ⟨w.heap.size+1+1,0,none⟩) aP 3 3 b.AM.length cP (by rfl) (by rfl) (w.heap.size+1+1) 0 V0 82 HS3 xs1 hm1 (fun hp=>⟨rfl,hc1 hp⟩) hf1 ho1 (w.heap.size+1+1) W3 ((Below.refl _ W3).drew) (Nat.le_refl _) ?_;intro U1 hg1 q1;have HS1:=hg1.out;clear hg1))
  all_goals
   go_wp2;go_meet;exact⟨_,Lib.hid rfl,HS1,q1⟩
 obtain⟨V1,zu,HS1,q1⟩:=hcut;have kk1:AC w wc:=Below.trans XK.out (q1.mono (by omega));obtain⟨U1,hU1⟩:∃U1,U1=wc:=⟨_,rfl⟩;rw[<-hU1] at HS1 q1 kk1 ⊢;clear hU1 cB1 hc1 hm1 hf1 ho1 HS3;go_upto_region 3 with fail
 have l2:=hs.x;have cB2:(U1.drew).cell? ⟨w.heap.size,4,none⟩=some (.slice aX b.AK.length cX):=by rw[show (U1.drew).cell? ⟨w.heap.size,4,none⟩=(U1).cell? ⟨w.heap.size,4,none⟩ from rfl,cell_of_row _ _ 4 _ _ _ (Below.block q1 w.heap.size (by omega) |>.trans HB3)];rfl
 have hc2:0<(b.AK.map (Value.int .i64)).length->∃ad,aX=some ad/\∀j u,(b.AK.map (Value.int .i64))[j]? = some u->(U1.drew).cell? (ad.add j)=some u:=Uz ((XH.out.X).keep ((kk1).trans (AC.refl _).drew));have vl2:V1.length=15:=by rw[zu.out,length_splice _ _ _ (by rw[vl1,XX1.out,List.length_map];omega)];exact vl1
 have hm2:(b.AK.map (Value.int .i64)).length=Nat.min b.AK.length 3:=by rw[List.length_map];exact (Nat.min_eq_left l2).symm
 have hf2:3+(b.AK.map (Value.int .i64)).length<=V1.length:=by rw[vl2,List.length_map];omega
 obtain⟨xs2,hxs2⟩:∃xs,xs=b.AK.map (Value.int .i64):=⟨_,rfl⟩;rw[<-hxs2] at hc2 hm2 hf2;have ho2:∀u∈xs2,u.oneCell'=true:=by rw[hxs2];exact Kp _
 have XX2:=Lib.hid hxs2;clear hxs2;go_cut [] from 6 (fun wx=>∃V:List Value,Hid (V=splice V1 3 xs2)/\wx.heap[w.heap.size+1+1]? = some (.cells V.toArray 82 (0,0))/\Below (w.heap.size+1+1) W3 wx)
 case first=>
  go_wp2_with fail
  go_region_law ((refine step_copy_splice (by rfl) (.tmp 12) (.tmp 14) 28 28 (by rfl) 2 Tryz.underlying28 Tryz.Ql (some ⟨w.heap.size+1+1,3,none⟩) aX 3 3 b.AK.length cX (by rfl) (by rfl) (w.heap.size+1+1) 3 V1 82 HS1 xs2 hm2 (fun hp=>⟨rfl,hc2 hp⟩) hf2 ho2 (w.heap.size+1+1) W3 (q1.drew) (Nat.le_refl _) ?_;intro U2 hg2 q2;have HS2:=hg2.out;clear hg2))
  all_goals
   go_wp2;go_meet;exact⟨_,Lib.hid rfl,HS2,q2⟩
 obtain⟨V2,rX,HS2,q2⟩:=hcut;have kk2:AC w wc:=Below.trans XK.out (q2.mono (by omega));obtain⟨U2,hU2⟩:∃U2,U2=wc:=⟨_,rfl⟩;rw[<-hU2] at HS2 q2 kk2 ⊢;clear hU2 cB2 hc2 hm2 hf2 ho2 HS1;go_upto_region 4 with fail
 have l3:=hs.s;have cB3:(U2.drew).cell? ⟨w.heap.size,5,none⟩=some (.slice aS b.sn.length cS):=by rw[show (U2.drew).cell? ⟨w.heap.size,5,none⟩=(U2).cell? ⟨w.heap.size,5,none⟩ from rfl,cell_of_row _ _ 5 _ _ _ (Below.block q2 w.heap.size (by omega) |>.trans HB3)];rfl
 have hc3:0<(b.sn.map (Value.int .i64)).length->∃ad,aS=some ad/\∀j u,(b.sn.map (Value.int .i64))[j]? = some u->(U2.drew).cell? (ad.add j)=some u:=Uz ((XH.out.S).keep ((kk2).trans (AC.refl _).drew));have vl3:V2.length=15:=by rw[rX.out,length_splice _ _ _ (by rw[vl2,XX2.out,List.length_map];omega)];exact vl2
 have hm3:(b.sn.map (Value.int .i64)).length=Nat.min b.sn.length 6:=by rw[List.length_map];exact (Nat.min_eq_left l3).symm
 have hf3:9+(b.sn.map (Value.int .i64)).length<=V2.length:=by rw[vl3,List.length_map];omega
 obtain⟨xs3,hxs3⟩:∃xs,xs=b.sn.map (Value.int .i64):=⟨_,rfl⟩;rw[<-hxs3] at hc3 hm3 hf3;have ho3:∀u∈xs3,u.oneCell'=true:=by rw[hxs3];exact Kp _
 have XX3:=Lib.hid hxs3;clear hxs3;go_cut [] from 6 (fun wx=>∃V:List Value,Hid (V=splice V2 9 xs3)/\wx.heap[w.heap.size+1+1]? = some (.cells V.toArray 82 (0,0))/\Below (w.heap.size+1+1) W3 wx)
 case first=>
  go_wp2_with fail
  go_region_law ((refine step_copy_splice (by rfl) (.tmp 17) (.tmp 19) 28 28 (by rfl) 2 Tryz.underlying28 Tryz.Ql (some ⟨w.heap.size+1+1,9,none⟩) aS 6 6 b.sn.length cS (by rfl) (by rfl) (w.heap.size+1+1) 9 V2 82 HS2 xs3 hm3 (fun hp=>⟨rfl,hc3 hp⟩) hf3 ho3 (w.heap.size+1+1) W3 (q2.drew) (Nat.le_refl _) ?_;intro U3 hg3 q3;have HS3:=hg3.out;clear hg3))
  all_goals
   go_wp2;go_meet;exact⟨_,Lib.hid rfl,HS3,q3⟩
 obtain⟨V3,XV3,HS3,q3⟩:=hcut;have kk3:AC w wc:=Below.trans XK.out (q3.mono (by omega));obtain⟨U3,hU3⟩:∃U3,U3=wc:=⟨_,rfl⟩;rw[<-hU3] at HS3 q3 kk3 ⊢;clear hU3 cB3 hc3 hm3 hf3 ho3 HS2;have HS:Hid (V3=(fA b 0).map (Value.int .i64)):=Lib.hid (by rw[XV3.out,rX.out,zu.out,XV0.out,XX1.out,XX2.out,XX3.out];exact YU hs);rw[HS.out] at HS3;have cN3:U3.cell? ⟨w.heap.size,3,none⟩=some (.slice aN b.AG.length cN):=by rw[cell_of_row _ _ 3 _ _ _ ((Below.block q3 w.heap.size (by omega)).trans HB3)];rfl
 have XB3:=Lib.hid HB3;have ln:=hs.n;clear zu rX XV3 XX1 XX2 XX3 HS l1 l2 l3 kk1 kk2 vl1 vl2 vl3 HB3 q1 q2;go_wp2;clear cN3;go_loopw [4,5,24] (fun _ _ i wr=>∃k:Nat,k<=b.AG.length/\i = .int .i64 k/\wr.heap[w.heap.size+1+1]? = some (.cells ((fA b k).map (Value.int .i64)).toArray 82 (0,0))/\Below (w.heap.size+1+1) W3 wr) (fun _ _ i _=>b.AG.length-(intOf i).toNat)
 case atStart=>exact⟨0,Nat.zero_le _,rfl,HS3,q3⟩
 case round=>
  obtain⟨k,hk,rfl,hX,qr⟩:=hrel;clear HS3 q3 kk3;have kr:AC w wr:=Below.trans XK.out (qr.mono (by omega));by_cases hlt:k<b.AG.length
  ·
   obtain⟨a',c',e',hN⟩:=XH.out.N.keep kr;simp only[Value.slice.injEq,true_and] at e';obtain⟨rfl,rfl⟩:=e';rcases hN with h0|⟨bN,oN,rfl,hbN,mo⟩
   . exfalso;rw[h0] at hlt;simp at hlt
   obtain⟨vi,d1,dN⟩:=mo k hlt;obtain⟨ai,ci,rfl,-⟩:=id dN;obtain⟨m,hm⟩:∃m,m=(b.AG.getD k []).length:=⟨_,rfl⟩;rw[<-hm] at d1;have XM:=Lib.hid hm;have i1:(0:Int)<=(k:Int):=Int.natCast_nonneg _;have i2:(k:Int)<(b.AG.length:Int):=by omega
   have i3:(k:Int)<3:=by omega
   have d2:wr.cell? ⟨w.heap.size+1+1,6+k,none⟩=some (.int .i64 ((fA b k).getD (6+k) 0)):=by
    rw[cell_of_row _ _ (6+k) _ _ _ hX,List.getElem?_toArray,List.getElem?_map,List.getD_eq_getElem?_getD,List.getElem?_eq_getElem (by rw[ku hs];omega)];rfl
   have d3:=frozen_of_row wr (w.heap.size+1+1) (6+k) _ _ hX;have XX:=Lib.hid hX;clear mo dN hm hX;go_wp2;go_roundw
   case rel=>
    refine⟨k+1,by omega,by go_num,?_,Below.setCell qr (by simp) _⟩;rw[heap_setCell_same _ _ _ _ _ _ XX.out,<-lC hs hlt,List.map_set,XM.out];simp
   case measure=>simp[intOf];omega
  ·
   obtain rfl:k=b.AG.length:=by omega
   rw[ko] at hX;replace hX:wr.heap[w.heap.size+1+1]? = some (.cells (U7 b) 82 (0,0)):=hX;have hR:=(Below.block qr (w.heap.size+1) (by omega)).trans XR.out;have hsz:(Tryz.prog.info? 82).map (·.size)=some (U7 b).size:=by unfold U7;rw[List.size_toArray,List.length_map,RP hs];exact VC
   have hold:mE.toArray.size=(U7 b).size:=by unfold U7;rw[List.size_toArray,List.size_toArray,List.length_map,RP hs];rfl
   have iq:=Lib.hid (setRow_heap wr (w.heap.size+1) _ (U7 b) _ _ hR);have XG:=Lib.hid (An wr (w.heap.size+1) (U7 b));go_wp2_with (first|refine wpList_load_row rfl 82 _ rfl (w.heap.size+1+1) rfl 82 _ (0,0) _ hX Tryz.underlying82 rfl hsz ?_|refine wpList_store_row rfl 82 _ _ rfl (w.heap.size+1) _ rfl rfl 82 _ hR hsz hold (kg b) ?_|fail)
   refine bodyPost_ret (CJ (by rfl) _ _ (w.heap.size+1) 82 _ (0,0) _ rfl iq.out Tryz.underlying82 rfl hsz) rfl ?_;exact⟨rfl,kr.grown XG.out (fun q hq=>by have:=Option.some.inj hq;omega)⟩
def WG (vs:List BV)(bs:List Bd)(n:Nat):List (BV×Bd):=(List.range n).map (fun i=>(vs.getD i Rz,bs.getD i Mt))
theorem dJ (vs:List BV)(bs:List Bd)(n:Nat):WG vs bs (n+1)=WG vs bs n++[(vs.getD n Rz,bs.getD n Mt)]:=by
 unfold WG;rw[List.range_succ,List.map_append];rfl
theorem WH {vs:List BV}{bs:List Bd}{n:Nat}{p:BV×Bd}(h:p∈WG vs bs n)(hn:n<=bs.length):∃i,i<bs.length/\p=(vs.getD i Rz,bs.getD i Mt)/\bs.getD i Mt∈bs:=by
 unfold WG at h;obtain⟨i,hi,rfl⟩:=List.mem_map.1 h;have hi:=List.mem_range.1 hi;exact⟨i,by omega,rfl,by rw[List.getD_eq_getElem?_getD,List.getElem?_eq_getElem (by omega)];exact List.getElem_mem _⟩
theorem fT (w:World)(g base:Nat)(es:Array MapEntry)(l:List (BV×Bd))(v:Value)(vs:List BV)(ds:List (List Dd))(bs:List Bd)(P:Nat->Prop){S:Sy}(Z:Rp ds S)
  (h:Wv w g es l) (hl:∀p∈l,S.R p.2) (hb:∀b∈bs,S.R b) (hs:FA w P base v vs ds bs) (hg:¬P g) (hgv:v.ownBlock≠some g) (hn:bs.length<=1048576):
  Calls Tryz.prog 66 #[.map (some g),v] w fun e w'=>e = .returned (.tuple #[])/\(∃es',Wv w' g es' (l++WG vs bs bs.length))/\w.grownBy w' (some g):=by
 have HL:=hs.len
 obtain⟨av,cv,rfl⟩:∃a c,v = .slice a bs.length c:=by
  rcases hs.row.2 with ⟨rfl,hz⟩|⟨q,cap,cur,rfl,_⟩
  . exact⟨none,0,by rw[hz]⟩
  . exact⟨_,_,rfl⟩
 have XS:=Lib.hid hs;have XZ:=Lib.hid Z;have hng:some g≠none:=by simp
 have glt:=h.lt;clear hs;go_enter Tryz.func66,Tryz.ntmps66
 go_wp2;go_loopw [5,8] (fun _ s8 wr=>∃(i:Nat) (es':Array MapEntry),i<=bs.length/\s8 = .int .i64 i/\Wv wr g es' (l++WG vs bs i)/\w.grownBy wr (some g)) (fun _ s8 _=>bs.length-(intOf s8).toNat)
 case atStart=>exact⟨0,es,Nat.zero_le _,rfl,by rw[show WG vs bs 0=[] from rfl,List.append_nil];exact h,World.grownBy.refl _ _⟩
 case round=>
  obtain⟨i,es',hi,rfl,hW,G⟩:=hrel;have XW:=Lib.hid hW;have XG:=Lib.hid G;have zr:=G.size;clear h hW;by_cases hlt:i<bs.length
  ·
   have hsr:=XS.out.kept G (fun q hq=>by have:=Option.some.inj hq;subst this;exact⟨hg,hgv⟩);rcases hsr.row.2 with ⟨_,hz⟩|⟨gv,cap,cur,e,hbse,hgl,hc,hm,hsz,ht⟩
   . omega
   simp only[Value.slice.injEq,true_and] at e;obtain⟨rfl,rfl⟩:=e;have hcl:=fun j (hj:j<8)=>(World.ownsRow.cellAt hsr.row (i*8+j) (by omega)).trans (ZW vs i j (by omega) hj)
   have hel:=hsr.each i hlt;have hmem:bs.getD i Mt∈bs:=by rw[List.getD_eq_getElem?_getD,List.getElem?_eq_getElem hlt];exact List.getElem_mem hlt
   have HB:=Lib.hid (show l++WG vs bs (i+1)=(l++WG vs bs i)++[(vs.getD i Rz,bs.getD i Mt)] by rw[dJ,List.append_assoc]);have hRb:=hb _ hmem
   have hall:∀p∈l++WG vs bs i,S.R p.2:=fun p hp=>by
    rcases List.mem_append.1 hp with q|q
    . exact hl p q
    ·
     obtain⟨j,_,rfl,hj⟩:=WH q (by omega);exact hb _ hj
   generalize vs.getD i Rz=bv at hcl hel HB;generalize bs.getD i Mt=b at hel hRb HB;obtain⟨bW,bP,bL,bN,bX,bS,bF,bR,dW,dP,dL,dN,dX,dS,dF,dR,rfl⟩:=hel.rd.shapes;have x0:=hcl 0 (by omega);have x1:=hcl 1 (by omega);have x2:=hcl 2 (by omega);have x3:=hcl 3 (by omega);have x4:=hcl 4 (by omega);have x5:=hcl 5 (by omega);have x6:=hcl 6 (by omega);have x7:=hcl 7 (by omega);simp only[cB,List.getElem?_cons_zero,List.getElem?_cons_succ,Nat.add_zero] at x0 x1 x2 x3 x4 x5 x6 x7;have i1:(0:Int)<=(i:Int):=Int.natCast_nonneg _;have i2:(i:Int)<(bs.length:Int):=by omega
   have XH:=Lib.hid (And.intro hel (And.intro hRb hall));clear hcl hsr hel hRb hall hmem ht hbse hm hsz;go_upto_region 3 with fail
   obtain⟨w2,hw2⟩:∃W:World,W=wr.alloc (.cells #[.slice bW ds.length dW,.slice bP b.AM.length dP,.slice bL b.AQ.length dL,.slice bN b.AG.length dN,.slice bX b.AK.length dX,.slice bS b.sn.length dS,.slice bF b.fr.length dF,.slice bR b.rws.length dR] 36):=⟨_,rfl⟩;have k2:AC wr w2:=by rw[hw2];exact (AC.refl wr).alloc _
   have hD:w2.heap[wr.heap.size]? = some (.cells #[.slice bW ds.length dW,.slice bP b.AM.length dP,.slice bL b.AQ.length dL,.slice bN b.AG.length dN,.slice bX b.AK.length dX,.slice bS b.sn.length dS,.slice bF b.fr.length dF,.slice bR b.rws.length dR] 36 (0,0)):=by rw[hw2];exact heap_alloc_new _ _
   have s2:wr.heap.size<w2.heap.size:=by rw[hw2,AD];omega
   rw[<-hw2];clear hw2 x0 x1 x2 x3 x4 x5 x6 x7;have kd:AC wr w2.drew:=k2.drew;have c0:(w2.drew).cell? ⟨wr.heap.size,0,none⟩=some (.slice bW ds.length dW):=by rw[show (w2.drew).cell? ⟨wr.heap.size,0,none⟩=w2.cell? ⟨wr.heap.size,0,none⟩ from rfl,cell_of_row _ _ 0 _ _ _ hD];rfl
   have c1:(w2.drew).cell? ⟨wr.heap.size,1,none⟩=some (.slice bP b.AM.length dP):=by rw[show (w2.drew).cell? ⟨wr.heap.size,1,none⟩=w2.cell? ⟨wr.heap.size,1,none⟩ from rfl,cell_of_row _ _ 1 _ _ _ hD];rfl
   have c2:(w2.drew).cell? ⟨wr.heap.size,2,none⟩=some (.slice bL b.AQ.length dL):=by rw[show (w2.drew).cell? ⟨wr.heap.size,2,none⟩=w2.cell? ⟨wr.heap.size,2,none⟩ from rfl,cell_of_row _ _ 2 _ _ _ hD];rfl
   have c3:(w2.drew).cell? ⟨wr.heap.size,3,none⟩=some (.slice bN b.AG.length dN):=by rw[show (w2.drew).cell? ⟨wr.heap.size,3,none⟩=w2.cell? ⟨wr.heap.size,3,none⟩ from rfl,cell_of_row _ _ 3 _ _ _ hD];rfl
   have c4:(w2.drew).cell? ⟨wr.heap.size,4,none⟩=some (.slice bX b.AK.length dX):=by rw[show (w2.drew).cell? ⟨wr.heap.size,4,none⟩=w2.cell? ⟨wr.heap.size,4,none⟩ from rfl,cell_of_row _ _ 4 _ _ _ hD];rfl
   have c5:(w2.drew).cell? ⟨wr.heap.size,5,none⟩=some (.slice bS b.sn.length dS):=by rw[show (w2.drew).cell? ⟨wr.heap.size,5,none⟩=w2.cell? ⟨wr.heap.size,5,none⟩ from rfl,cell_of_row _ _ 5 _ _ _ hD];rfl
   have c6:(w2.drew).cell? ⟨wr.heap.size,6,none⟩=some (.slice bF b.fr.length dF):=by rw[show (w2.drew).cell? ⟨wr.heap.size,6,none⟩=w2.cell? ⟨wr.heap.size,6,none⟩ from rfl,cell_of_row _ _ 6 _ _ _ hD];rfl
   have c7:(w2.drew).cell? ⟨wr.heap.size,7,none⟩=some (.slice bR b.rws.length dR):=by rw[show (w2.drew).cell? ⟨wr.heap.size,7,none⟩=w2.cell? ⟨wr.heap.size,7,none⟩ from rfl,cell_of_row _ _ 7 _ _ _ hD];rfl
   go_wp2_with fail
   go_region_law ((go_simp;refine (MT _ _ ds b ((XH.out.1.on (Aw.B0 kd)).rd) (XZ.out.one XH.out.2.1).st).mono ?_;rintro e wz ⟨rfl,kk⟩;obtain⟨w4,es4,hrun,hW4,hg4⟩:=((XW.out.keep kd).keep kk).put (((XW.out.keep kd).keep kk).room XZ.out XH.out.2.2) (aZ (XZ.out.one XH.out.2.1)) ⟨.slice bW ds.length dW,.slice bP b.AM.length dP,.slice bL b.AQ.length dL,.slice bN b.AG.length dN,.slice bX b.AK.length dX,.slice bS b.sn.length dS,.slice bF b.fr.length dF,.slice bR b.rws.length dR⟩;have d0:=(kk.cell (show wr.heap.size<(w2.drew).heap.size from s2)).trans c0;have d1:=(kk.cell (show wr.heap.size<(w2.drew).heap.size from s2)).trans c1;have d2:=(kk.cell (show wr.heap.size<(w2.drew).heap.size from s2)).trans c2;have d3:=(kk.cell (show wr.heap.size<(w2.drew).heap.size from s2)).trans c3;have d4:=(kk.cell (show wr.heap.size<(w2.drew).heap.size from s2)).trans c4;have d5:=(kk.cell (show wr.heap.size<(w2.drew).heap.size from s2)).trans c5;have d6:=(kk.cell (show wr.heap.size<(w2.drew).heap.size from s2)).trans c6;have d7:=(kk.cell (show wr.heap.size<(w2.drew).heap.size from s2)).trans c7;have XQ:=Lib.hid (And.intro hW4 (And.intro hg4 kk));clear hW4 hg4 kk))
   all_goals
    have XF:Hid ((∃es4,Wv w4 g es4 (l++WG vs bs (i+1)))/\w.grownBy w4 (some g)):=Lib.hid ⟨⟨es4,by rw[HB.out];exact XQ.out.1⟩,⟨XQ.out.2.1.os.trans (((kd.trans XQ.out.2.2).grownBy).os.trans XG.out.os),XQ.out.2.1.tape.trans (((kd.trans XQ.out.2.2).grownBy).tape.trans XG.out.tape),XQ.out.2.1.output.trans (((kd.trans XQ.out.2.2).grownBy).output.trans XG.out.output),Nat.le_trans XG.out.size (Nat.le_trans (kd.trans XQ.out.2.2).size XQ.out.2.1.size),fun q hq hne=>(XQ.out.2.1.block q (Nat.lt_of_lt_of_le hq (Nat.le_trans XG.out.size (kd.trans XQ.out.2.2).size)) hne).trans ((Below.block (kd.trans XQ.out.2.2) q (Nat.lt_of_lt_of_le hq XG.out.size)).trans (XG.out.block q hq hne))⟩⟩;clear c0 c1 c2 c3 c4 c5 c6 c7 d0 d1 d2 d3 d4 d5 d6 d7 hD;go_wp2;go_roundw
    case rel=>
     obtain⟨⟨es5,W5⟩,G5⟩:=XF.out;exact⟨i+1,es5,by omega,by go_num,W5,G5⟩
    case measure=>simp[intOf];omega
  ·
   obtain rfl:i=bs.length:=by omega
   go_wp2;go_end0;exact⟨rfl,⟨es',XW.out⟩,XG.out⟩
theorem BB (lo x hi:Int)(w:World):
  Calls Tryz.prog 103 #[.int .i64 lo,.int .i64 x,.int .i64 hi] w fun e w'=>e = .returned (.bool (Cx x lo hi))/\w'=w:=by
 go_enter Tryz.func103,Tryz.ntmps103
 go_wp2
 all_goals
  go_ret;exact⟨BG (by rw[Bool.eq_iff_iff];unfold Cx;simp;omega),rfl⟩
def Vz (k:Int):Int:=if k=1\/k=2\/k=3 then 2 else 0
def V4 (k:Int):Int:=if k=2\/k=3 then 9 else 0
def Qw (k:Int):Int:=if k=2\/k=3 then 1 else 0
def Vy (k:Int):Int:=if k=1\/k=2 then 9 else 0
theorem Um (k:Int)(w:World):
  Calls Tryz.prog 173 #[.int .i64 k] w fun e w'=>e = .returned (.tuple #[Fe 1 0 (Qw k) 0,Fe 4 (Vz k) (V4 k) (Vy k)])/\AC w w':=by
 have hk:k=1\/k=2\/k=3\/(¬k=1/\¬k=2/\¬k=3):=by omega
 rcases hk with rfl|rfl|rfl|⟨h1,h2,h3⟩
 all_goals
  go_enter Tryz.func173,Tryz.ntmps173
  go_wp2;go_region
  go_wp2;refine bodyPost_ret (RK (by rfl) _ _ _ _ _ _ _ _ _ _ _ rfl (by simp only[B7,BL,AD];repeat (first|exact if_pos rfl|exact if_pos trivial|rw[if_neg (by omega)])) rfl (by simp only[B7,BL,AD];repeat (first|exact if_pos rfl|exact if_pos trivial|rw[if_neg (by omega)])) Tryz.underlying65 rfl (by kernel_rfl) (by kernel_rfl)) rfl ?_;refine⟨?_,(((((AC.refl w).alloc _).alloc _).alloc _).alloc _).drew⟩;first|rfl|simp[Fe,Qw,Vz,V4,Vy,h1,h2,h3]
theorem UR (k p v g:Int):D2 k p v g=(Cx k 1 4&&Cx p 0 (Vz k)&&Cx v (Qw k) (V4 k)&&Cx g 0 (Vy k)):=by
 have hk:k=1\/k=2\/k=3\/k=4\/¬(1<=k/\k<=4):=by omega
 rw[Bool.eq_iff_iff];rcases hk with rfl|rfl|rfl|rfl|h
 all_goals
  simp[D2,Cx,Vz,V4,Qw,Vy];omega
theorem Hx (k p v g:Int)(w:World):
  Calls Tryz.prog 169 #[Fe k p v g] w fun e w'=>e = .returned (.bool (D2 k p v g))/\AC w w':=by
 rw[UR];unfold Fe;go_enter Tryz.func169,Tryz.ntmps169
 go_wp2_with fail
 refine (Um _ _).mono ?_;rintro e w1 ⟨rfl,k1⟩;have hs:=Hs k1;have c0:w1.cell? ⟨w.heap.size,0,none⟩=some (.int .i64 k):=AZ k1 0;have c1:w1.cell? ⟨w.heap.size,1,none⟩=some (.int .i64 p):=AZ k1 1;have c2:w1.cell? ⟨w.heap.size,2,none⟩=some (.int .i64 v):=AZ k1 2;have c3:w1.cell? ⟨w.heap.size,3,none⟩=some (.int .i64 g):=AZ k1 3;have K1:AC w w1:=((AC.refl w).alloc _).trans k1;clear k1;go_wp2_with (go_at_call 103;refine (BB _ _ _ _).mono ?_;rintro e w' ⟨rfl,rfl⟩)
 all_goals
  go_ret;exact⟨BG (by simp[*]),(K1.alloc _).alloc _⟩
abbrev YI:Value:= .iface 9 (.string { data:=#[116,104,105,115,32,99,97,110,39,116,32,98,101] })
abbrev PN:Ending:= .panicked [{ v:=YI,recovered:=false }]
def Kh (t:Bool):Ending:=if t=true then .returned (.tuple #[]) else PN
theorem Au {t:Bool}(h:t=true):Kh t = .returned (.tuple #[]):=if_pos h
theorem Af {t:Bool}(h:t=false):Kh t=PN:=if_neg (by rw[h];simp)
theorem DD (w:World):Calls Tryz.prog 111 #[.bool true] w fun e w'=>e = .returned (.tuple #[])/\w'=w:=by
 go_enter Tryz.func111,Tryz.ntmps111
 go_wp2;go_end0;exact⟨rfl,rfl⟩
theorem Gl (w:World):Calls Tryz.prog 111 #[.bool false] w fun e w'=>e=PN/\w'=w:=by
 go_enter Tryz.func111,Tryz.ntmps111
 go_wp2;exact⟨rfl,rfl,rfl⟩
theorem Du (t:Bool)(w:World):Calls Tryz.prog 111 #[.bool t] w fun e w'=>e=Kh t/\w'=w:=by
 cases t
 . exact Gl w
 . exact DD w
theorem Dt (w:World)(v:Value)(zs:List Int)(n lo hi:Int)(h:Rd w v zs)(hl:zs.length<=1048576):
  Calls Tryz.prog 119 #[v,.int .i64 n,.int .i64 lo,.int .i64 hi] w fun e w'=>e=Kh (FO zs n lo hi)/\w'=w:=by
 obtain⟨a,c,rfl,h⟩:=h;have HD:Hid (FO zs n lo hi=(decide ((zs.length:Int)=n)&&Ng zs lo hi)):=Lib.hid rfl;by_cases hn:(zs.length:Int)=n
 ·
  subst hn;have HT:Hid (FO zs zs.length lo hi=Ng zs lo hi):=Lib.hid (by rw[HD.out,decide_eq_true rfl];rfl);clear HD;go_enter Tryz.func119,Tryz.ntmps119
  go_wp2_with fail
  refine (DD _).mono ?_;rintro e w2 ⟨rfl,rfl⟩;go_wp2;go_loopw [9,17] (fun _ i wr=>∃k:Nat,k<=zs.length/\i = .int .i64 k/\Hid (∀j,j<k->Cx (zs.getD j 0) lo hi=true)/\wr=w2) (fun _ i _=>zs.length-(intOf i).toNat)
  case atStart=>exact⟨0,Nat.zero_le _,rfl,Lib.hid (fun j hj=>absurd hj (Nat.not_lt_zero _)),rfl⟩
  case round=>
   obtain⟨k,hk,rfl,hno,rfl⟩:=hrel;by_cases hlt:k<zs.length
   ·
    rcases h with h|⟨b,off,rfl,hb,hc⟩
    . exfalso;rw[h] at hlt;simp at hlt
    have d:=hc k hlt;clear hc;cases hq:Cx (zs.getD k 0) lo hi
    ·
     have HE:Hid (FO zs zs.length lo hi=false):=Lib.hid (by rw[HT.out];exact Sd hlt hq);clear hno HT;generalize zs.getD k 0=x at *;go_wp2_with fail
     refine (BB _ _ _ _).mono ?_;rintro e w3 ⟨rfl,rfl⟩;rw[hq];go_wp2_with fail
     refine (Gl _).mono ?_;rintro e w3 ⟨rfl,rfl⟩;go_wp2;exact⟨rfl,by rw[Af HE.out],rfl⟩
    ·
     have HN:Hid (∀j,j<k+1->Cx (zs.getD j 0) lo hi=true):=Lib.hid (fun j hj=>by
      by_cases e:j=k
      . rw[e];exact hq
      . exact hno.out j (by omega))
     clear hno;generalize zs.getD k 0=x at *;go_wp2_with fail
     refine (BB _ _ _ _).mono ?_;rintro e w3 ⟨rfl,rfl⟩;rw[hq];go_wp2_with fail
     refine (DD _).mono ?_;rintro e w3 ⟨rfl,rfl⟩;go_wp2;go_roundw;case rel=>exact⟨k+1,by omega,rfl,HN,trivial⟩
     case measure=>simp[intOf];omega
   have HE:Hid (FO zs zs.length lo hi=true):=Lib.hid (by rw[HT.out];exact Fm 0 (fun j hj=>hno.out j (by omega)));obtain rfl:k=zs.length:=by omega
   clear hno HT;go_wp2;go_end0;exact⟨by rw[Au HE.out],rfl⟩
 ·
  have HT:Hid (FO zs n lo hi=false):=Lib.hid (by rw[HD.out,decide_eq_false hn];rfl);clear HD;go_enter Tryz.func119,Tryz.ntmps119
  go_wp2_with fail
  refine (Du _ _).mono ?_;rintro e w2 ⟨rfl,rfl⟩;rw[Af (by simp[hn])];go_wp2;exact⟨rfl,by rw[Af HT.out],rfl⟩
theorem Sv (w:World)(v:Value)(zs:List Int)(last:Int)(h:Rd w v zs)(hl:zs.length<=1048576):
  Calls Tryz.prog 148 #[v,.int .i64 last] w fun e w'=>e=Kh (JF last zs)/\w'=w:=by
 have C:=Dt w v zs zs.length 0 last h hl;obtain⟨a,c,rfl,-⟩:=h;have HD:Hid (JF last zs=(decide (zs.length<=20)&&FO zs zs.length 0 last)):=Lib.hid rfl;by_cases hn:zs.length<=20
 ·
  have HT:Hid (JF last zs=FO zs zs.length 0 last):=Lib.hid (by rw[HD.out,decide_eq_true hn];rfl);clear HD;go_enter Tryz.func148,Tryz.ntmps148
  go_wp2_with fail
  refine (Du _ _).mono ?_;rintro e w2 ⟨rfl,rfl⟩;rw[Au (by simp;omega)];go_wp2_with fail
  refine C.mono ?_;rintro e w3 ⟨rfl,rfl⟩;rw[<-HT.out];cases hb:JF last zs
  ·
   rw[Af rfl];go_wp2;exact⟨rfl,by rw[Af hb],rfl⟩
  ·
   rw[Au rfl];go_wp2;go_end0;exact⟨by rw[Au hb],rfl⟩
 ·
  have HT:Hid (JF last zs=false):=Lib.hid (by rw[HD.out,decide_eq_false hn];rfl);clear HD;go_enter Tryz.func148,Tryz.ntmps148
  go_wp2_with fail
  refine (Du _ _).mono ?_;rintro e w2 ⟨rfl,rfl⟩;rw[Af (by simp;omega)];go_wp2;exact⟨rfl,by rw[Af HT.out],rfl⟩
theorem X9 (last:Int)(x:Nt):(Cx x.1 0 2=false/\V9 last x=false)\/(Cx x.1 0 2=true/\Cx x.2.1 0 9=false/\V9 last x=false)\/(Cx x.1 0 2=true/\Cx x.2.1 0 9=true/\Cx x.2.2 0 last=false/\V9 last x=false)\/(Cx x.1 0 2=true/\Cx x.2.1 0 9=true/\Cx x.2.2 0 last=true/\V9 last x=true):=by
 unfold V9;cases Cx x.1 0 2<;>cases Cx x.2.1 0 9<;>cases Cx x.2.2 0 last<;>simp
theorem O0 (w:World)(v:Value)(ns:List Nt)(last:Int)(h:mJ w v ns)(hl:ns.length<=1048576):
  Calls Tryz.prog 149 #[v,.int .i64 last] w fun e w'=>e=Kh (PE last ns)/\AC w w':=by
 obtain⟨a,c,rfl,h⟩:=h;have HD:Hid (PE last ns=(decide (ns.length<=8)&&ns.all (V9 last))):=Lib.hid rfl;by_cases hn:ns.length<=8
 ·
  have HT:Hid (PE last ns=ns.all (V9 last)):=Lib.hid (by rw[HD.out,decide_eq_true hn];rfl);clear HD;go_enter Tryz.func149,Tryz.ntmps149
  go_wp2_with fail
  refine (Du _ _).mono ?_;rintro e w2 ⟨rfl,rfl⟩;rw[Au (by simp;omega)];go_wp2;go_loopw [12] (fun i wr=>∃k:Nat,k<=ns.length/\i = .int .i64 k/\Hid (∀j,j<k->V9 last (ns.getD j zN)=true)/\AC w2 wr) (fun i _=>ns.length-(intOf i).toNat)
  case atStart=>exact⟨0,Nat.zero_le _,rfl,Lib.hid (fun j hj=>absurd hj (Nat.not_lt_zero _)),AC.refl _⟩
  case round=>
   obtain⟨k,hk,rfl,hno,hK⟩:=hrel;by_cases hlt:k<ns.length
   ·
    rcases h with h|⟨b,off,rfl,hb,hc⟩
    . exfalso;rw[h] at hlt;simp at hlt
    obtain⟨g0,g1,g2⟩:=yY (hc k _ (Kn hlt));have q0:=(hK.cell hb).trans g0;have q1:=(hK.cell hb).trans g1;have q2:=(hK.cell hb).trans g2;have CS:=X9 last (ns.getD k zN);have HF:V9 last (ns.getD k zN)=false->Hid (PE last ns=false):=fun e=>Lib.hid (by rw[HT.out];exact Hp zN hlt e)
    have HN:V9 last (ns.getD k zN)=true->Hid (∀j,j<k+1->V9 last (ns.getD j zN)=true):=fun hq=>Lib.hid (fun j hj=>by
     by_cases e:j=k
     . rw[e];exact hq
     . exact hno.out j (by omega))
    have i1:(0:Int)<=(k:Int):=Int.natCast_nonneg _;have i2:(k:Int)<(ns.length:Int):=by omega
    have hbw:b<wr.heap.size:=Nat.lt_of_lt_of_le hb hK.size;clear hno hc g0 g1 g2 HT;generalize ns.getD k zN=y at *;obtain⟨y0,y1,y2⟩:=y;simp only at q0 q1 q2 CS;rcases CS with ⟨t0,e⟩|⟨t0,t1,e⟩|⟨t0,t1,t2,e⟩|⟨t0,t1,t2,e⟩
    ·
     have HE:=HF e;clear HF HN e;go_wp2_with fail
     refine (BB _ _ _ _).mono ?_;rintro e w3 ⟨rfl,rfl⟩;rw[t0];go_wp2_with fail
     refine (Gl _).mono ?_;rintro e w3 ⟨rfl,rfl⟩;go_wp2;exact⟨rfl,by rw[Af HE.out],hK.alloc _⟩
    ·
     have HE:=HF e;clear HF HN e;go_wp2_with fail
     refine (BB _ _ _ _).mono ?_;rintro e w3 ⟨rfl,rfl⟩;rw[t0];go_wp2_with fail
     refine (DD _).mono ?_;rintro e w3 ⟨rfl,rfl⟩;go_wp2_with fail
     refine (BB _ _ _ _).mono ?_;rintro e w3 ⟨rfl,rfl⟩;rw[t1];go_wp2_with fail
     refine (Gl _).mono ?_;rintro e w3 ⟨rfl,rfl⟩;go_wp2;exact⟨rfl,by rw[Af HE.out],hK.alloc _⟩
    ·
     have HE:=HF e;clear HF HN e;go_wp2_with fail
     refine (BB _ _ _ _).mono ?_;rintro e w3 ⟨rfl,rfl⟩;rw[t0];go_wp2_with fail
     refine (DD _).mono ?_;rintro e w3 ⟨rfl,rfl⟩;go_wp2_with fail
     refine (BB _ _ _ _).mono ?_;rintro e w3 ⟨rfl,rfl⟩;rw[t1];go_wp2_with fail
     refine (DD _).mono ?_;rintro e w3 ⟨rfl,rfl⟩;go_wp2_with fail
     refine (BB _ _ _ _).mono ?_;rintro e w3 ⟨rfl,rfl⟩;rw[t2];go_wp2_with fail
     refine (Gl _).mono ?_;rintro e w3 ⟨rfl,rfl⟩;go_wp2;exact⟨rfl,by rw[Af HE.out],hK.alloc _⟩
    ·
     have HE:=HN e;clear HF HN e;go_wp2_with fail
     refine (BB _ _ _ _).mono ?_;rintro e w3 ⟨rfl,rfl⟩;rw[t0];go_wp2_with fail
     refine (DD _).mono ?_;rintro e w3 ⟨rfl,rfl⟩;go_wp2_with fail
     refine (BB _ _ _ _).mono ?_;rintro e w3 ⟨rfl,rfl⟩;rw[t1];go_wp2_with fail
     refine (DD _).mono ?_;rintro e w3 ⟨rfl,rfl⟩;go_wp2_with fail
     refine (BB _ _ _ _).mono ?_;rintro e w3 ⟨rfl,rfl⟩;rw[t2];go_wp2_with fail
     refine (DD _).mono ?_;rintro e w3 ⟨rfl,rfl⟩;go_wp2;go_roundw;case rel=>exact⟨k+1,by omega,rfl,HE,hK.alloc _⟩
     case measure=>simp[intOf];omega
   have HE:Hid (PE last ns=true):=Lib.hid (by rw[HT.out];exact Fm zN (fun j hj=>hno.out j (by omega)));obtain rfl:k=ns.length:=by omega
   clear hno HT;go_wp2;go_end0;exact⟨by rw[Au HE.out],hK⟩
 ·
  have HT:Hid (PE last ns=false):=Lib.hid (by rw[HD.out,decide_eq_false hn];rfl);clear HD;go_enter Tryz.func149,Tryz.ntmps149
  go_wp2_with fail
  refine (Du _ _).mono ?_;rintro e w2 ⟨rfl,rfl⟩;rw[Af (by simp;omega)];go_wp2;exact⟨rfl,by rw[Af HT.out],AC.refl _⟩
theorem MS (s t:Int)(w:World):
  Calls Tryz.prog 162 #[.int .i64 s,.int .i64 t] w fun e w'=>e = .returned (.int .i64 (bits .and .i64 s t))/\w'=w:=by
 go_enter Tryz.func162,Tryz.ntmps162
 go_wp2;go_ret;exact⟨rfl,rfl⟩
theorem VA (s t:Int)(w:World):
  Calls Tryz.prog 158 #[.int .i64 s,.int .i64 t] w fun e w'=>e = .returned (.int .i64 (bits .or .i64 s t))/\w'=w:=by
 go_enter Tryz.func158,Tryz.ntmps158
 go_wp2;go_ret;exact⟨rfl,rfl⟩
theorem DI (a:Option Addr)(n c:Nat)(w:World):
  Calls Tryz.prog 140 #[.slice a n c] w fun e w'=>e = .returned (.int .i64 (n:Int))/\w'=w:=by
 go_enter Tryz.func140,Tryz.ntmps140
 go_wp2;go_ret;exact⟨rfl,rfl⟩
theorem Xf (d:Dd):(d.1=3/\UV d=2)\/(d.1=1/\UV d=1)\/(d.1=2/\UV d=1)\/(¬d.1=3/\¬d.1=1/\¬d.1=2/\UV d=0):=by
 unfold UV
 repeat' split
 all_goals omega
theorem UW (w:World)(v:Value)(ds:List Dd)(h:JO w v ds)(hx:ds.length<=1048576):
  Calls Tryz.prog 141 #[v] w fun e w'=>e = .returned (.int .i64 (PW ds ds.length))/\AC w w':=by
 obtain⟨a,c,rfl,h⟩:=h;go_enter Tryz.func141,Tryz.ntmps141
 go_wp2;go_loopw [3,8] (fun n i wr=>∃k:Nat,∃m:Int,k<=ds.length/\n = .int .i64 m/\i = .int .i64 k/\Hid (m=PW ds k)/\0<=m/\m<=2*k/\AC w wr) (fun _ i _=>ds.length-(intOf i).toNat)
 case atStart=>exact⟨0,0,Nat.zero_le _,rfl,rfl,Lib.hid rfl,by omega,by omega,AC.refl _⟩
 case round=>
  obtain⟨k,m,hk,rfl,rfl,hm,m0,m1,hK⟩:=hrel;by_cases hlt:k<ds.length
  ·
   rcases h with h|⟨b,o,rfl,hb,hc⟩
   . exfalso;rw[h] at hlt;simp at hlt
   obtain⟨A0,A1,A2,A3⟩:=(hc k hlt).keep hb hK;clear hc;have HE:Hid (m+UV (ds.getD k zD)=PW ds (k+1)):=Lib.hid (by rw[PW,hm.out]);have CS:=Xf (ds.getD k zD);clear hm;obtain⟨d,hd⟩:∃d,d=ds.getD k zD:=⟨_,rfl⟩;rw[<-hd] at A0 A1 A2 A3 HE CS;clear hd;obtain⟨x0,x1,x2,x3⟩:=d;simp only at A0 A1 A2 A3 CS;have hbw:b<wr.heap.size:=Nat.lt_of_lt_of_le hb hK.size;have i1:(0:Int)<=(k:Int):=Int.natCast_nonneg _;have i2:(k:Int)<(ds.length:Int):=by omega
   rcases CS with ⟨rfl,e⟩|⟨rfl,e⟩|⟨rfl,e⟩|⟨n3,n1,n2,e⟩
   ·
    rw[e] at HE;clear e;go_wp2;go_roundw;case rel=>exact⟨k+1,m+2,by omega,by go_num,by go_num,HE,by omega,by omega,hK.alloc _⟩
    case measure=>simp[intOf];omega
   ·
    rw[e] at HE;clear e;go_wp2;go_roundw;case rel=>exact⟨k+1,m+1,by omega,by go_num,by go_num,HE,by omega,by omega,hK.alloc _⟩
    case measure=>simp[intOf];omega
   ·
    rw[e] at HE;clear e;go_wp2;go_roundw;case rel=>exact⟨k+1,m+1,by omega,by go_num,by go_num,HE,by omega,by omega,hK.alloc _⟩
    case measure=>simp[intOf];omega
   ·
    rw[e,Int.add_zero] at HE;clear e;have e3:(x0==3)=false:=by simp[n3]
    have e1:(x0==1)=false:=by simp[n1]
    have e2:(x0==2)=false:=by simp[n2]
    clear n3 n1 n2;go_wp2;go_roundw;case rel=>exact⟨k+1,m,by omega,by go_num,by go_num,HE,by omega,by omega,hK.alloc _⟩
    case measure=>simp[intOf];omega
  ·
   obtain rfl:k=ds.length:=by omega
   go_wp2;go_ret;exact⟨by rw[hm.out];rfl,hK⟩
theorem FI (w:World)(v:Value)(ds:List Dd)(h:JO w v ds)(hx:ds.length<=1048576):
  Calls Tryz.prog 159 #[v] w fun e w'=>e = .returned (.int .i64 (gC ds))/\AC w w':=by
 obtain⟨a,c,rfl,h⟩:=h;go_enter Tryz.func159,Tryz.ntmps159
 go_wp2;go_loopw [3,8] (fun n i wr=>∃k:Nat,∃m:Int,k<=ds.length/\n = .int .i64 m/\i = .int .i64 k/\Hid (m=gK ds k)/\AC w wr) (fun _ i _=>ds.length-(intOf i).toNat)
 case atStart=>exact⟨0,0,Nat.zero_le _,rfl,rfl,Lib.hid rfl,AC.refl _⟩
 case round=>
  obtain⟨k,m,hk,rfl,rfl,hm,hK⟩:=hrel;by_cases hlt:k<ds.length
  ·
   rcases h with h|⟨b,o,rfl,hb,hc⟩
   . exfalso;rw[h] at hlt;simp at hlt
   obtain⟨A0,A1,A2,A3⟩:=(hc k hlt).keep hb hK;clear hc;have HE:Hid (gK ds (k+1)=if Qg (ds.getD k zD)=0 then m else Fp m (Qg (ds.getD k zD))):=Lib.hid (by rw[gK,hm.out]);clear hm;obtain⟨d,hd⟩:∃d,d=ds.getD k zD:=⟨_,rfl⟩;rw[<-hd] at A0 A1 A2 A3 HE;clear hd;obtain⟨x0,x1,x2,x3⟩:=d;unfold Qg at HE;simp only at A0 A1 A2 A3 HE;have hbw:b<wr.heap.size:=Nat.lt_of_lt_of_le hb hK.size;have i1:(0:Int)<=(k:Int):=Int.natCast_nonneg _;have i2:(k:Int)<(ds.length:Int):=by omega
   by_cases h0:x3=0
   ·
    subst h0;go_wp2;go_roundw;case rel=>exact⟨k+1,m,by omega,by go_num,by go_num,Lib.hid (by rw[HE.out,if_pos rfl]),hK.alloc _⟩
    case measure=>simp[intOf];omega
   ·
    have e0:(x3 != 0)=true:=by simp[h0]
    have HF:Hid (gK ds (k+1)=Fp m x3):=Lib.hid (by rw[HE.out,if_neg h0]);clear h0 HE;go_wp2_with fail
    refine (gM _ _ _).mono ?_;rintro e wz ⟨rfl,rfl⟩;go_wp2;go_roundw;case rel=>exact⟨k+1,_,by omega,rfl,by go_num,Lib.hid HF.out.symm,hK.alloc _⟩
    case measure=>simp[intOf];omega
  ·
   obtain rfl:k=ds.length:=by omega
   go_wp2;go_ret;exact⟨by rw[hm.out];rfl,hK⟩
theorem Wx {α:Type}{f:α->Bool}{l:List α}{k:Nat}(z:α)(h:k<l.length)(h1:(l.take k).all f=true)(h2:f (l.getD k z)=true):(l.take (k+1)).all f=true:=by
 rw[List.take_add_one,List.getElem?_eq_getElem h,List.all_append,h1];rw[List.getD_eq_getElem?_getD,List.getElem?_eq_getElem h] at h2
 simpa using h2
theorem Ek (w:World)(v:Value)(ds:List Dd)(h:JO w v ds)(hx:ds.length<=1048576):
  Calls Tryz.prog 160 #[v] w fun e w'=>e = .returned (.bool (ds.all FW))/\AC w w':=by
 obtain⟨a,c,rfl,h⟩:=h;go_enter Tryz.func160,Tryz.ntmps160
 go_wp2;go_loopw [7] (fun i wr=>∃k:Nat,k<=ds.length/\i = .int .i64 k/\Hid ((ds.take k).all FW=true)/\AC w wr) (fun i _=>ds.length-(intOf i).toNat)
 case atStart=>exact⟨0,Nat.zero_le _,rfl,Lib.hid (by simp),AC.refl _⟩
 case round=>
  obtain⟨k,hk,rfl,hm,hK⟩:=hrel;by_cases hlt:k<ds.length
  ·
   rcases h with h|⟨b,o,rfl,hb,hc⟩
   . exfalso;rw[h] at hlt;simp at hlt
   obtain⟨A0,A1,A2,A3⟩:=(hc k hlt).keep hb hK;clear hc;have HT:FW (ds.getD k zD)=true->Hid ((ds.take (k+1)).all FW=true):=fun e=>Lib.hid (Wx zD hlt hm.out e)
   have HF:FW (ds.getD k zD)=false->Hid (ds.all FW=false):=fun e=>Lib.hid (QV zD k hlt e)
   clear hm;obtain⟨d,hd⟩:∃d,d=ds.getD k zD:=⟨_,rfl⟩;rw[<-hd] at A0 A1 A2 A3 HT HF;clear hd;obtain⟨x0,x1,x2,x3⟩:=d;simp only at A0 A1 A2 A3;have hbw:b<wr.heap.size:=Nat.lt_of_lt_of_le hb hK.size;have i1:(0:Int)<=(k:Int):=Int.natCast_nonneg _;have i2:(k:Int)<(ds.length:Int):=by omega
   cases hd:D2 x0 x1 x2 x3
   ·
    have HE:=HF hd;clear HT HF;go_wp2_with fail
    refine (Hx _ _ _ _ _).mono ?_;rintro e wz ⟨rfl,kk⟩;go_wp2;go_ret;exact⟨by rw[HE.out];rfl,(hK.alloc _).trans kk⟩
   ·
    have HE:=HT hd;clear HT HF;go_wp2_with fail
    refine (Hx _ _ _ _ _).mono ?_;rintro e wz ⟨rfl,kk⟩;go_wp2;go_roundw;case rel=>exact⟨k+1,by omega,by go_num,HE,(hK.alloc _).trans kk⟩
    case measure=>simp[intOf];omega
  ·
   obtain rfl:k=ds.length:=by omega
   rw[List.take_length] at hm;go_wp2;go_ret;exact⟨by rw[hm.out];rfl,hK⟩
abbrev W4 (x0 x1 x2 x3:Int):Obj:= .cells #[.int .i64 x0,.int .i64 x1,.int .i64 x2,.int .i64 x3] 65
theorem JO.cut {w:World}{b o:Nat}{ds:List Dd}{c k:Nat}(hk:k<=ds.length)(hb:b<w.heap.size)(hc:∀i,i<ds.length->Ri w b (o+i*4) (ds.getD i zD)):
  JO w (.slice (some ⟨b,o,none⟩) k (ds.length+c)) (ds.take k):=by
 refine⟨some ⟨b,o,none⟩,ds.length+c-k,?_,.inr ⟨b,o,rfl,hb,fun i hi=>?_⟩⟩
 ·
  rw[List.length_take,Nat.min_eq_left hk]
  congr 1
  omega
 ·
  rw[List.length_take] at hi;rw[QE ds k i zD (by omega)];exact hc i (by omega)
theorem VI {ds:List Dd}{k:Nat}(h:FV ds k=true)(hp:IJ ds k=false):FV ds (k+1)=true:=by rw[FV,h,hp];rfl
theorem lm {ds:List Dd}{k:Nat}(hk:k<ds.length)(hp:IJ ds k=true):FV ds ds.length=false:=by
 refine Og (k:=k+1) ?_ _ hk;rw[FV,hp];simp
theorem EY (w:World)(v:Value)(ds:List Dd)(h:JO w v ds)(hx:ds.length<=1048576):
  Calls Tryz.prog 161 #[v] w fun e w'=>e = .returned (.bool (FV ds ds.length))/\AC w w':=by
 obtain⟨a,c,rfl,h⟩:=h;go_enter Tryz.func161,Tryz.ntmps161
 go_wp2;go_loopw [3,7] (fun j i wr=>∃k:Nat,k<=ds.length/\i = .int .i64 k/\Hid (FV ds k=true)/\AC w wr) (fun _ i _=>ds.length-(intOf i).toNat)
 case atStart=>exact⟨0,Nat.zero_le _,rfl,Lib.hid rfl,AC.refl _⟩
 case round=>
  obtain⟨k,hk,rfl,hm,hK⟩:=hrel;by_cases hlt:k<ds.length
  ·
   rcases h with h|⟨b,o,rfl,hb,hc⟩
   . exfalso;rw[h] at hlt;simp at hlt
   obtain⟨A0,A1,A2,A3⟩:=(hc k hlt).keep hb hK;have hbw:b<wr.heap.size:=Nat.lt_of_lt_of_le hb hK.size;have i1:(0:Int)<=(k:Int):=Int.natCast_nonneg _;have i2:(k:Int)<(ds.length:Int):=by omega
   have HP:Hid (IJ ds k=(decide (0<k)&&(Qg (ds.getD k zD) != Qg (ds.getD (k-1) zD))&&BW (gK ds k) (Qg (ds.getD k zD)))):=Lib.hid rfl;by_cases h0:k=0
   ·
    have HT:=Lib.hid (VI hm.out (by rw[HP.out];simp[h0]));have d0:decide (0<k)=false:=by simp[h0]
    clear hm HP hc;obtain⟨d,hd⟩:∃d,d=ds.getD k zD:=⟨_,rfl⟩;rw[<-hd] at A0 A1 A2 A3;clear hd h0;obtain⟨x0,x1,x2,x3⟩:=d;simp only at A0 A1 A2 A3;go_wp2;go_quiet (fail)
    go_wp2;go_roundw;case rel=>exact⟨k+1,by omega,by go_num,HT,(hK.alloc _).drewN _⟩
    case measure=>simp[intOf];omega
   ·
    obtain⟨r,rfl⟩:∃r:Nat,k=r+1:=⟨k-1,by omega⟩;rw[Nat.add_sub_cancel] at HP;have B3:=((hc r (by omega)).keep hb hK).2.2.2;have RT:JO w (.slice (some ⟨b,o,none⟩) (r+1) (ds.length+c)) (ds.take (r+1)):=JO.cut (by omega) hb hc;have HG:=Lib.hid (jZ ds (r+1) (by omega));have HL:=Lib.hid (show (ds.take (r+1)).length=r+1 by rw[List.length_take];omega);clear hc;have j1:(0:Int)<=(r:Int):=Int.natCast_nonneg _;have j2:(r:Int)<(ds.length:Int):=by omega
    have d2:(r:Int)+1<(ds.length:Int):=by omega
    have d5:(r:Int)+1<=(ds.length:Int)+(c:Int):=by omega
    have d6:(0:Int)<=(r:Int)+1:=by omega
    have d7:((r+1:Nat):Int)<=((ds.length+c:Nat):Int):=by omega
    have d3:IntKind.i64.wrap (r:Int)=(r:Int):=by rw[IntKind.wrap_i64];omega
    have d4:wrap64 (r:Int)=(r:Int):=Dy _ (by omega) (by omega);obtain⟨d,hd⟩:∃d,d=ds.getD (r+1) zD:=⟨_,rfl⟩;rw[<-hd] at A0 A1 A2 A3 HP;clear hd;obtain⟨p,hp⟩:∃p,p=(ds.getD r zD).2.2.2:=⟨_,rfl⟩;rw[<-hp] at B3;have HQ:Hid (Qg (ds.getD r zD)=p):=Lib.hid (by rw[hp];rfl);clear hp;rw[HQ.out] at HP;clear HQ;obtain⟨x0,x1,x2,x3⟩:=d;unfold Qg at HP;simp only at A0 A1 A2 A3 HP;by_cases he:x3=p
    ·
     subst he;have HT:=Lib.hid (VI hm.out (by rw[HP.out];simp));have ne:(x3 != x3)=false:=by simp
     clear HP hm;go_wp2;go_quiet (fail)
     go_wp2;go_roundw;case rel=>exact⟨r+1+1,by omega,by go_num,HT,(hK.alloc _).drewN _⟩
     case measure=>simp[intOf];omega
    ·
     have ne:(x3 != p)=true:=by simp[he]
     clear he;cases hin:BW (gK ds (r+1)) x3
     ·
      have HT:=Lib.hid (VI hm.out (by rw[HP.out,hin];simp));clear HP hm;go_wp2;have KK:AC w ((wr.alloc (W4 x0 x1 x2 x3)).drew):=(hK.alloc _).drew;have z1:wr.heap.size<((wr.alloc (W4 x0 x1 x2 x3)).drew).heap.size:=by rw[BL,AD];omega
      have z2:b<((wr.alloc (W4 x0 x1 x2 x3)).drew).heap.size:=by rw[BL,AD];omega
      go_region_held3 (fun w'=>w'.cell? ⟨wr.heap.size,3,none⟩=some (.int .i64 x3)/\w'.cell? ⟨b,o+r*4+3,none⟩=some (.int .i64 p))
       (first|go_keep|(go_split_ands;refine⟨?_,?_⟩<;>(rw[kk.cell (by assumption)];assumption)))
       ((first
        | (go_at_call 159;refine (FI _ _ _ (RT.keep KK) (by rw[HL.out];omega)).mono ?_;rw[HG.out];rintro e wz ⟨rfl,kk⟩;have KK:=KK.trans kk;have z1:=Nat.lt_of_lt_of_le z1 kk.size;have z2:=Nat.lt_of_lt_of_le z2 kk.size)
        | (go_at_call 170;refine (Vp _ _ _).mono ?_;rintro e wy ⟨rfl,rfl⟩)))
      all_goals
       go_wp2;go_roundw;case rel=>exact⟨r+1+1,by omega,by go_num,HT,KK⟩
       case measure=>simp[intOf];omega
     ·
      have HT:=Lib.hid (lm hlt (by rw[HP.out,hin,ne];simp));clear HP hm;go_wp2;have KK:AC w ((wr.alloc (W4 x0 x1 x2 x3)).drew):=(hK.alloc _).drew;have z1:wr.heap.size<((wr.alloc (W4 x0 x1 x2 x3)).drew).heap.size:=by rw[BL,AD];omega
      have z2:b<((wr.alloc (W4 x0 x1 x2 x3)).drew).heap.size:=by rw[BL,AD];omega
      go_region_held3 (fun w'=>w'.cell? ⟨wr.heap.size,3,none⟩=some (.int .i64 x3)/\w'.cell? ⟨b,o+r*4+3,none⟩=some (.int .i64 p))
       (first|go_keep|(go_split_ands;refine⟨?_,?_⟩<;>(rw[kk.cell (by assumption)];assumption)))
       ((first
        | (go_at_call 159;refine (FI _ _ _ (RT.keep KK) (by rw[HL.out];omega)).mono ?_;rw[HG.out];rintro e wz ⟨rfl,kk⟩;have KK:=KK.trans kk;have z1:=Nat.lt_of_lt_of_le z1 kk.size;have z2:=Nat.lt_of_lt_of_le z2 kk.size)
        | (go_at_call 170;refine (Vp _ _ _).mono ?_;rintro e wy ⟨rfl,rfl⟩)))
      all_goals
       go_wp2;go_ret;exact⟨by rw[HT.out];rfl,KK⟩
  ·
   obtain rfl:k=ds.length:=by omega
   go_wp2;go_ret;exact⟨by rw[hm.out];rfl,hK⟩
abbrev uo (v:Value)(t:Int):Obj:= .cells #[v,.int .i64 t] 155
theorem U4 {ds:List Dd}{t:Int}(h5:ds.length<=5)(ha:ds.all FW=true)(ht:FV ds ds.length=true)(h0:(bits .and .i64 (gC ds) t==0)=true):Cl ds t=true:=by
 rw[Cl,decide_eq_true h5,ha,ht,h0];rfl
theorem MK (w:World)(v:Value)(t:Int)(ds:List Dd)(h:JO w v ds)(hx:ds.length<=1048576):
  Calls Tryz.prog 139 #[.agg #[v,.int .i64 t]] w fun e w'=>e = .returned (.bool (Cl ds t))/\AC w w':=by
 have KK:AC w ((w.alloc (uo v t)).drew):=((AC.refl w).alloc _).drew;have z1:w.heap.size<((w.alloc (uo v t)).drew).heap.size:=by rw[BL,AD];omega
 obtain⟨a,c,hv,-⟩:=id h;subst hv;by_cases h5:ds.length<=5
 ·
  have e5:decide (ds.length<=5)=true:=decide_eq_true h5;have e5':decide ((ds.length:Int)<=5)=true:=decide_eq_true (by omega);have g5:(ds.length:Int)<=5:=by omega
  cases ha:ds.all FW
  ·
   have HE:Hid (Cl ds t=false):=Lib.hid (by rw[Cl,ha];simp);go_enter Tryz.func139,Tryz.ntmps139
   go_wp2;refine wp_region_held_drew (S:=(fun w'=>w'.cell? ⟨w.heap.size,0,none⟩=some (.slice a ds.length (ds.length+c))/\w'.cell? ⟨w.heap.size,1,none⟩=some (.int .i64 t))) (by kernel_rfl) ?_ (fun hHeld=>?_)
   . go_keep
   refine BT 0 3 (v:=?_) ?_ ?_;rotate_left
   ·
    intro wx hSw;go_simp;with_reducible rfl
   refine BT 1 4 (v:=?_) ?_ ?_;rotate_left
   ·
    intro wx hSw;go_simp;with_reducible rfl
   simp only[Act.put,List.setIfInBounds_toArray,List.set_cons_zero,List.set_cons_succ];refine wpAnyH_ready (rs:=[2]) (by kernel_rfl) (by simp) ?_;refine AllReadyH.cons rfl (fun K hK=>?_) AllReadyH.nil;go_simp;refine (DI _ _ _ _).mono ?_;rintro e wz ⟨rfl,rfl⟩;go_wp2_with fail
   refine hK.out _ _ ?_ (fun hHeld=>?_)
   . exact hHeld
   clear hK K;refine BT 3 6 (v:=?_) ?_ ?_;rotate_left
   ·
    intro wx hSw;go_simp;with_reducible rfl
   refine BT 4 7 (v:=?_) ?_ ?_;rotate_left
   ·
    intro wx hSw;go_simp;with_reducible rfl
   refine BT 5 8 (v:=?_) ?_ ?_;rotate_left
   ·
    intro wx hSw;go_simp;with_reducible rfl
   refine BT 6 9 (v:=?_) ?_ ?_;rotate_left
   ·
    intro wx hSw;go_simp;with_reducible rfl
   simp only[Act.put,List.setIfInBounds_toArray,List.set_cons_zero,List.set_cons_succ];refine wpAnyH_ready (rs:=[7]) (by kernel_rfl) (by simp) ?_;refine AllReadyH.cons rfl (fun K hK=>?_) AllReadyH.nil;go_simp;refine (Ek _ _ _ (h.keep KK) hx).mono ?_;rw[ha];rintro e wz1 ⟨rfl,kk⟩;have z0:=z1;have KK:=KK.trans kk;have z1:=Nat.lt_of_lt_of_le z1 kk.size;go_wp2_with fail
   refine hK.out _ _ ?_ (fun hHeld=>?_)
   . exact⟨(kk.cell z0).trans hHeld.1,(kk.cell z0).trans hHeld.2⟩
   clear hK K;refine BT 8 11 (v:=?_) ?_ ?_;rotate_left
   ·
    intro wx hSw;go_simp;with_reducible rfl
   refine BT 9 12 (v:=?_) ?_ ?_;rotate_left
   ·
    intro wx hSw;go_simp;with_reducible rfl
   simp only[Act.put,List.setIfInBounds_toArray,List.set_cons_zero,List.set_cons_succ];refine ET 10 13 rfl rfl (by kernel_rfl) (by kernel_rfl) (by kernel_rfl) (fun _ _ _ h=>h) (by rfl) (by assumption) ?_;simp only[Act.put,List.setIfInBounds_toArray,List.set_cons_zero,List.set_cons_succ];refine ET 11 14 rfl rfl (by kernel_rfl) (by kernel_rfl) (by kernel_rfl) (fun _ _ _ h=>h) (by rfl) (by assumption) ?_;simp only[Act.put,List.setIfInBounds_toArray,List.set_cons_zero,List.set_cons_succ];refine ET 12 15 rfl rfl (by kernel_rfl) (by kernel_rfl) (by kernel_rfl) (fun _ _ _ h=>h) (by rfl) (by assumption) ?_;refine BT 13 16 (v:=?_) ?_ ?_;rotate_left
   ·
    intro wx hSw;go_simp;with_reducible rfl
   refine BT 14 17 (v:=?_) ?_ ?_;rotate_left
   ·
    intro wx hSw;go_simp;with_reducible rfl
   simp only[Act.put,List.setIfInBounds_toArray,List.set_cons_zero,List.set_cons_succ];refine ET 15 18 rfl rfl (by kernel_rfl) (by kernel_rfl) (by kernel_rfl) (fun _ _ _ h=>h) (by rfl) (by assumption) ?_;simp only[Act.put,List.setIfInBounds_toArray,List.set_cons_zero,List.set_cons_succ];refine ET 16 19 rfl rfl (by kernel_rfl) (by kernel_rfl) (by kernel_rfl) (fun _ _ _ h=>h) (by rfl) (by assumption) ?_;simp only[Act.put,List.setIfInBounds_toArray,List.set_cons_zero,List.set_cons_succ];refine ET 17 20 rfl rfl (by kernel_rfl) (by kernel_rfl) (by kernel_rfl) (fun _ _ _ h=>h) (by rfl) (by assumption) ?_;simp only[Act.put,List.setIfInBounds_toArray,List.set_cons_zero,List.set_cons_succ];refine ET 18 21 rfl rfl (by kernel_rfl) (by kernel_rfl) (by kernel_rfl) (fun _ _ _ h=>h) (by rfl) (by assumption) ?_;simp only[Act.put,List.setIfInBounds_toArray,List.set_cons_zero,List.set_cons_succ];refine ET 19 22 rfl rfl (by kernel_rfl) (by kernel_rfl) (by kernel_rfl) (fun _ _ _ h=>h) (by rfl) (by assumption) ?_;simp only[Act.put,List.setIfInBounds_toArray,List.set_cons_zero,List.set_cons_succ];refine ET 20 23 rfl rfl (by kernel_rfl) (by kernel_rfl) (by kernel_rfl) (fun _ _ _ h=>h) (by rfl) (by assumption) ?_;simp only[Act.put,List.setIfInBounds_toArray,List.set_cons_zero,List.set_cons_succ];refine ET 21 24 rfl rfl (by kernel_rfl) (by kernel_rfl) (by kernel_rfl) (fun _ _ _ h=>h) (by rfl) (by assumption) ?_;refine BT 22 25 (v:=?_) ?_ ?_;rotate_left
   ·
    intro wx hSw;go_simp;with_reducible rfl
   refine BT 23 2 (v:=?_) ?_ ?_;rotate_left
   ·
    intro wx hSw;go_simp;with_reducible rfl
   simp only[Act.put,List.setIfInBounds_toArray,List.set_cons_zero,List.set_cons_succ];refine wpAnyH_done (by kernel_rfl) ?_ _;go_wp2;go_ret;exact⟨by rw[HE.out];rfl,KK⟩
  ·
   cases ht:FV ds ds.length
   ·
    have HE:Hid (Cl ds t=false):=Lib.hid (by rw[Cl,ht];simp);go_enter Tryz.func139,Tryz.ntmps139
    go_wp2;refine wp_region_held_drew (S:=(fun w'=>w'.cell? ⟨w.heap.size,0,none⟩=some (.slice a ds.length (ds.length+c))/\w'.cell? ⟨w.heap.size,1,none⟩=some (.int .i64 t))) (by kernel_rfl) ?_ (fun hHeld=>?_)
    . go_keep
    refine BT 0 3 (v:=?_) ?_ ?_;rotate_left
    ·
     intro wx hSw;go_simp;with_reducible rfl
    refine BT 1 4 (v:=?_) ?_ ?_;rotate_left
    ·
     intro wx hSw;go_simp;with_reducible rfl
    simp only[Act.put,List.setIfInBounds_toArray,List.set_cons_zero,List.set_cons_succ];refine wpAnyH_ready (rs:=[2]) (by kernel_rfl) (by simp) ?_;refine AllReadyH.cons rfl (fun K hK=>?_) AllReadyH.nil;go_simp;refine (DI _ _ _ _).mono ?_;rintro e wz ⟨rfl,rfl⟩;go_wp2_with fail
    refine hK.out _ _ ?_ (fun hHeld=>?_)
    . exact hHeld
    clear hK K;refine BT 3 6 (v:=?_) ?_ ?_;rotate_left
    ·
     intro wx hSw;go_simp;with_reducible rfl
    refine BT 4 7 (v:=?_) ?_ ?_;rotate_left
    ·
     intro wx hSw;go_simp;with_reducible rfl
    refine BT 5 8 (v:=?_) ?_ ?_;rotate_left
    ·
     intro wx hSw;go_simp;with_reducible rfl
    refine BT 6 9 (v:=?_) ?_ ?_;rotate_left
    ·
     intro wx hSw;go_simp;with_reducible rfl
    simp only[Act.put,List.setIfInBounds_toArray,List.set_cons_zero,List.set_cons_succ];refine wpAnyH_ready (rs:=[7]) (by kernel_rfl) (by simp) ?_;refine AllReadyH.cons rfl (fun K hK=>?_) AllReadyH.nil;go_simp;refine (Ek _ _ _ (h.keep KK) hx).mono ?_;rw[ha];rintro e wz1 ⟨rfl,kk⟩;have z0:=z1;have KK:=KK.trans kk;have z1:=Nat.lt_of_lt_of_le z1 kk.size;go_wp2_with fail
    refine hK.out _ _ ?_ (fun hHeld=>?_)
    . exact⟨(kk.cell z0).trans hHeld.1,(kk.cell z0).trans hHeld.2⟩
    clear hK K;refine BT 8 11 (v:=?_) ?_ ?_;rotate_left
    ·
     intro wx hSw;go_simp;with_reducible rfl
    refine BT 9 12 (v:=?_) ?_ ?_;rotate_left
    ·
     intro wx hSw;go_simp;with_reducible rfl
    refine BT 10 13 (v:=?_) ?_ ?_;rotate_left
    ·
     intro wx hSw;go_simp;with_reducible rfl
    refine BT 11 14 (v:=?_) ?_ ?_;rotate_left
    ·
     intro wx hSw;go_simp;with_reducible rfl
    simp only[Act.put,List.setIfInBounds_toArray,List.set_cons_zero,List.set_cons_succ];refine wpAnyH_ready (rs:=[12]) (by kernel_rfl) (by simp) ?_;refine AllReadyH.cons rfl (fun K hK=>?_) AllReadyH.nil;go_simp;refine (EY _ _ _ (h.keep KK) hx).mono ?_;rw[ht];rintro e wz2 ⟨rfl,kk⟩;have z0:=z1;have KK:=KK.trans kk;have z1:=Nat.lt_of_lt_of_le z1 kk.size;go_wp2_with fail
    refine hK.out _ _ ?_ (fun hHeld=>?_)
    . exact⟨(kk.cell z0).trans hHeld.1,(kk.cell z0).trans hHeld.2⟩
    clear hK K;refine BT 13 16 (v:=?_) ?_ ?_;rotate_left
    ·
     intro wx hSw;go_simp;with_reducible rfl
    refine BT 14 17 (v:=?_) ?_ ?_;rotate_left
    ·
     intro wx hSw;go_simp;with_reducible rfl
    simp only[Act.put,List.setIfInBounds_toArray,List.set_cons_zero,List.set_cons_succ];refine ET 15 18 rfl rfl (by kernel_rfl) (by kernel_rfl) (by kernel_rfl) (fun _ _ _ h=>h) (by rfl) (by assumption) ?_;simp only[Act.put,List.setIfInBounds_toArray,List.set_cons_zero,List.set_cons_succ];refine ET 16 19 rfl rfl (by kernel_rfl) (by kernel_rfl) (by kernel_rfl) (fun _ _ _ h=>h) (by rfl) (by assumption) ?_;simp only[Act.put,List.setIfInBounds_toArray,List.set_cons_zero,List.set_cons_succ];refine ET 17 20 rfl rfl (by kernel_rfl) (by kernel_rfl) (by kernel_rfl) (fun _ _ _ h=>h) (by rfl) (by assumption) ?_;simp only[Act.put,List.setIfInBounds_toArray,List.set_cons_zero,List.set_cons_succ];refine ET 18 21 rfl rfl (by kernel_rfl) (by kernel_rfl) (by kernel_rfl) (fun _ _ _ h=>h) (by rfl) (by assumption) ?_;simp only[Act.put,List.setIfInBounds_toArray,List.set_cons_zero,List.set_cons_succ];refine ET 19 22 rfl rfl (by kernel_rfl) (by kernel_rfl) (by kernel_rfl) (fun _ _ _ h=>h) (by rfl) (by assumption) ?_;simp only[Act.put,List.setIfInBounds_toArray,List.set_cons_zero,List.set_cons_succ];refine ET 20 23 rfl rfl (by kernel_rfl) (by kernel_rfl) (by kernel_rfl) (fun _ _ _ h=>h) (by rfl) (by assumption) ?_;simp only[Act.put,List.setIfInBounds_toArray,List.set_cons_zero,List.set_cons_succ];refine ET 21 24 rfl rfl (by kernel_rfl) (by kernel_rfl) (by kernel_rfl) (fun _ _ _ h=>h) (by rfl) (by assumption) ?_;refine BT 22 25 (v:=?_) ?_ ?_;rotate_left
    ·
     intro wx hSw;go_simp;with_reducible rfl
    refine BT 23 2 (v:=?_) ?_ ?_;rotate_left
    ·
     intro wx hSw;go_simp;with_reducible rfl
    simp only[Act.put,List.setIfInBounds_toArray,List.set_cons_zero,List.set_cons_succ];refine wpAnyH_done (by kernel_rfl) ?_ _;go_wp2;go_ret;exact⟨by rw[HE.out];rfl,KK⟩
   ·
    cases h0:(bits .and .i64 (gC ds) t==0)
    ·
     have HE:Hid (Cl ds t=false):=Lib.hid (by rw[Cl,h0];simp);go_enter Tryz.func139,Tryz.ntmps139
     go_wp2
     go_region_held3 (fun w'=>w'.cell? ⟨w.heap.size,0,none⟩=some (.slice a ds.length (ds.length+c))/\w'.cell? ⟨w.heap.size,1,none⟩=some (.int .i64 t))
      (first|go_keep|(go_split_ands;refine⟨?_,?_⟩<;>(rw[kk.cell (by assumption)];assumption)))
      ((first
       | (go_at_call 140;refine (DI _ _ _ _).mono ?_;rintro e wz ⟨rfl,rfl⟩)
       | (go_at_call 160;refine (Ek _ _ _ (h.keep KK) hx).mono ?_;rintro e wz ⟨rfl,kk⟩;have KK:=KK.trans kk;have z1:=Nat.lt_of_lt_of_le z1 kk.size)
       | (go_at_call 161;refine (EY _ _ _ (h.keep KK) hx).mono ?_;rintro e wz ⟨rfl,kk⟩;have KK:=KK.trans kk;have z1:=Nat.lt_of_lt_of_le z1 kk.size)
       | (go_at_call 159;refine (FI _ _ _ (h.keep KK) hx).mono ?_;rintro e wz ⟨rfl,kk⟩;have KK:=KK.trans kk;have z1:=Nat.lt_of_lt_of_le z1 kk.size)
       | (go_at_call 162;refine (MS _ _ _).mono ?_;rintro e wz ⟨rfl,rfl⟩)))
     all_goals
      go_wp2;go_ret;exact⟨by rw[HE.out];rfl,KK⟩
    ·
     have HE:Hid (Cl ds t=true):=Lib.hid (U4 h5 ha ht h0);go_enter Tryz.func139,Tryz.ntmps139
     go_wp2
     go_region_held3 (fun w'=>w'.cell? ⟨w.heap.size,0,none⟩=some (.slice a ds.length (ds.length+c))/\w'.cell? ⟨w.heap.size,1,none⟩=some (.int .i64 t))
      (first|go_keep|(go_split_ands;refine⟨?_,?_⟩<;>(rw[kk.cell (by assumption)];assumption)))
      ((first
       | (go_at_call 140;refine (DI _ _ _ _).mono ?_;rintro e wz ⟨rfl,rfl⟩)
       | (go_at_call 160;refine (Ek _ _ _ (h.keep KK) hx).mono ?_;rintro e wz ⟨rfl,kk⟩;have KK:=KK.trans kk;have z1:=Nat.lt_of_lt_of_le z1 kk.size)
       | (go_at_call 161;refine (EY _ _ _ (h.keep KK) hx).mono ?_;rintro e wz ⟨rfl,kk⟩;have KK:=KK.trans kk;have z1:=Nat.lt_of_lt_of_le z1 kk.size)
       | (go_at_call 159;refine (FI _ _ _ (h.keep KK) hx).mono ?_;rintro e wz ⟨rfl,kk⟩;have KK:=KK.trans kk;have z1:=Nat.lt_of_lt_of_le z1 kk.size)
       | (go_at_call 162;refine (MS _ _ _).mono ?_;rintro e wz ⟨rfl,rfl⟩)))
     all_goals
      go_wp2;go_ret;exact⟨by rw[HE.out];rfl,KK⟩
 ·
  have e5:decide (ds.length<=5)=false:=decide_eq_false h5;have e5':decide ((ds.length:Int)<=5)=false:=decide_eq_false (by omega);have HE:Hid (Cl ds t=false):=Lib.hid (by rw[Cl,e5];rfl);go_enter Tryz.func139,Tryz.ntmps139
  go_wp2;go_quiet ((go_at_call 140;exact Calls.quiet_of_same (DI _ _ _ _)))
  go_wp2;go_ret;exact⟨by rw[HE.out];rfl,((AC.refl w).alloc _).drewN _⟩
theorem Tryz.wI:(Tryz.prog.info? 155).map (fun i=>(i.zero,i.size,i.bytes))=some (some (.agg #[.slice none 0 0,.int .i64 0]),2,32):=by kernel_rfl
abbrev mU (v:Value)(t:Int):Obj:= .cells #[v,.int .i64 t] 155
def tu (w:World)(v:Value)(AA:List (List Dd)):Prop:=
 ∃(a:Option Addr) (cap:Nat),v = .slice a AA.length cap /\
  (AA=[]\/∃b,a=some ⟨b,0,none⟩/\b<w.heap.size/\∀i,i<AA.length->∃vi,w.cell? ⟨b,i*2,none⟩=some vi/\JO w vi (AA.getD i [])/\w.cell? ⟨b,i*2+1,none⟩=some (.int .i64 (GN AA i)))
theorem tu.keep {w w':World}{v:Value}{AA:List (List Dd)}(h:tu w v AA)(k:AC w w'):tu w' v AA:=by
 obtain⟨a,cap,hv,h⟩:=h;refine⟨a,cap,hv,?_⟩;rcases h with h|⟨b,ha,hb,hc⟩
 . exact .inl h
 ·
  refine .inr ⟨b,ha,Nat.lt_of_lt_of_le hb k.size,fun i hi=>?_⟩;obtain⟨vi,h1,h2,h3⟩:=hc i hi;exact⟨vi,(k.cell hb).trans h1,h2.keep k,(k.cell hb).trans h3⟩
def KB (V:Nat->Value)(AA:List (List Dd))(k:Nat):List Value:=(List.range k).flatMap fun i=>[V i,.int .i64 (GN AA i)]
theorem JV (V:Nat->Value)(AA:List (List Dd))(k:Nat):KB V AA (k+1)=KB V AA k++[V k,.int .i64 (GN AA k)]:=by
 unfold KB;rw[List.range_succ,List.flatMap_append];simp
theorem LR (V:Nat->Value)(AA:List (List Dd)):∀k,(KB V AA k).length=k*2
 | 0=>rfl
 |k+1=>by rw[JV,List.length_append,LR V AA k];simp;omega
theorem M9 (V:Nat->Value)(AA:List (List Dd)):∀k i,i<k->(KB V AA k)[i*2]? = some (V i)/\(KB V AA k)[i*2+1]? = some (.int .i64 (GN AA i))
 | 0,i,h=>by omega
 |k+1,i,h=>by
  rw[JV];by_cases e:i<k
  ·
   have ih:=M9 V AA k i e;have hl:=LR V AA k;rw[List.getElem?_append_left (by omega),List.getElem?_append_left (by omega)];exact ih
  ·
   obtain rfl:i=k:=by omega
   have hl:=LR V AA i;rw[List.getElem?_append_right (by omega),List.getElem?_append_right (by omega),hl];simp
theorem qj {w0 w:World}{base:Nat}{v:Value}{V:Nat->Value}{AA:List (List Dd)}(h:w.ownsRow base 155 2 v AA.length (KB V AA AA.length))(k:AC w0 w)(hV:∀i,i<AA.length->JO w0 (V i) (AA.getD i [])):tu w v AA:=by
 have h2:=h;have hlt:=World.ownsRow.lt h;rcases h.2 with ⟨rfl,hn⟩|⟨g,cap,cur,rfl,hb,hg,_,_,hs,_⟩
 ·
  have:AA=[]:=List.eq_nil_of_length_eq_zero hn;subst this;exact⟨none,0,rfl,.inl rfl⟩
 ·
  refine⟨_,_,rfl,.inr ⟨g,rfl,(hlt g rfl).2,fun i hi=>?_⟩⟩;have hc:=M9 V AA AA.length i hi;have c1:=World.ownsRow.cellAt h2 (i*2) (by omega);have c2:=World.ownsRow.cellAt h2 (i*2+1) (by omega);exact⟨V i,by rw[c1,hc.1],(hV i hi).keep k,by rw[c2,hc.2]⟩
theorem KC (w0 w:World)(kw:AC w0 w)(v:Value)(AA:List (List Dd))(h:Fz w0 v AA)(hx:AA.length<=3)(hm:∀i,i<AA.length->(AA.getD i []).length<=1048576):
  Calls Tryz.prog 138 #[v] w fun e w'=>∃v',e = .returned v'/\(∃V:Nat->Value,w'.ownsRow w.heap.size 155 2 v' AA.length (KB V AA AA.length)/\∀i,i<AA.length->JO w0 (V i) (AA.getD i []))/\AC w w':=by
 obtain⟨a,c,rfl,h⟩:=h;have start:(w.alloc (.cells #[] 155)).ownsRow w.heap.size 155 2 (.slice (some ⟨w.heap.size,0,none⟩) 0 0) 0 []:=World.ownsRow_lit w #[] 0 (Nat.le_refl _) (by decide) rfl;obtain⟨i0,hi,hz0,hz1,hz2⟩:=info_parts Tryz.wI
 obtain⟨V,hV⟩:∃V:Nat->Value,∀i,i<AA.length->JO w0 (V i) (AA.getD i [])/\∀b o,a=some ⟨b,o,none⟩->b<w0.heap.size/\w0.cell? ⟨b,o+i,none⟩=some (V i):=by
  rcases h with h|⟨b,o,rfl,hb,hc⟩
  . exact⟨fun _=>Value.bool false,fun i hi=>by rw[h] at hi;simp at hi⟩
  ·
   obtain⟨V,hV⟩:=Deep.choose_lt hc;refine⟨V,fun i hi=>⟨(hV i hi).2,fun b' o' e=>?_⟩⟩;simp only[Option.some.injEq,Addr.mk.injEq,and_true] at e;obtain⟨rfl,rfl⟩:=e;exact⟨hb,(hV i hi).1⟩
 have hA:AA.length=0\/∃b o,a=some ⟨b,o,none⟩:=by
  rcases h with h|⟨b,o,rfl,hb,hc⟩
  . left;rw[h];rfl
  . exact .inr ⟨b,o,rfl⟩
 clear h;go_enter Tryz.func138,Tryz.ntmps138
 go_wp2;go_loopw [3,4,11] (fun x t i wr=>∃k:Nat,k<=AA.length/\i = .int .i64 k/\t = .int .i64 (GN AA k)/\wr.ownsRow w.heap.size 155 2 x k (KB V AA k)/\AC w wr) (fun _ _ i _=>AA.length-(intOf i).toNat)
 case atStart=>exact⟨0,Nat.zero_le _,rfl,rfl,start,(AC.refl w).alloc _⟩
 case round=>
  obtain⟨k,hk,rfl,rfl,ho,hK⟩:=hrel;clear start;by_cases hlt:k<AA.length
  ·
   obtain⟨b,o,rfl⟩:∃b o,a=some ⟨b,o,none⟩:=hA.resolve_left (by omega);obtain⟨hR,hC⟩:=hV k hlt;obtain⟨hb,hC⟩:=hC b o rfl;have hmk:=hm k hlt;have HM:=Lib.hid (JV V AA k);have HT:Hid (GN AA (k+1)=bits .or .i64 (GN AA k) (gC (AA.getD k []))):=Lib.hid rfl;have HV:=Lib.hid hV;clear hV hm hA;obtain⟨ds,hds⟩:∃ds,ds=AA.getD k []:=⟨_,rfl⟩;rw[<-hds] at hR hmk HT;clear hds;generalize GN AA k=t at HM HT;have hK0:=kw.trans hK;have d1:=(hK0.cell hb).trans hC;have R1:=hR.keep hK0;obtain⟨u,hu⟩:∃u,u=V k:=⟨_,rfl⟩;rw[<-hu] at d1 R1 HM;have R0:=hR;rw[<-hu] at R0;clear hu hC hR;obtain⟨ai,ci,rfl,-⟩:=id R1;have hbw:b<wr.heap.size:=Nat.lt_of_lt_of_le hb hK0.size;have hsz:=hK.size;have i1:(0:Int)<=(k:Int):=Int.natCast_nonneg _;have i2:(k:Int)<(AA.length:Int):=by omega
   have ho2:=World.ownsRow.kept ho (((AC.refl wr).alloc (mU (.slice ai ds.length (ds.length+ci)) t)).alloc (.cells #[.slice ai ds.length (ds.length+ci),.int .i64 t] 155)).grownBy (by cases u3.ownBlock<;>simp);go_wp2_with (at_builtin;refine wpList_append_own_at _ rfl _ _ 150 rfl w.heap.size 155 i0 (.agg #[.slice none 0 0,.int .i64 0]) 2 32 Tryz.underlying150 hi hz0 hz1 hz2 rfl (by decide) _ _ _ rfl ho2 ⟨_,0,none⟩ 1 1 [.slice ai ds.length (ds.length+ci),.int .i64 t] rfl rfl ?c1 ?c2 ?c3 ?c4 ?c5 ?_)
   case c1=>
    intro j u hj
    match j,hj with
    | 0,hj=>simp at hj;subst hj;simp[Addr.add]
    | 1,hj=>simp at hj;subst hj;simp[Addr.add]
    |n+2,hj=>simp at hj
   case c2=>intro u hu;simp at hu;rcases hu with rfl|rfl<;>rfl
   case c3=>unfold maxLen;first|omega|(simp;omega)
   case c4=>first|omega|(simp;omega)
   case c5=>first|omega|(simp;omega)
   intro v' w2 hown' hgrow _ _;rw[<-HM.out] at hown';have hK2:AC w w2:=((hK.alloc _).alloc _).grown hgrow (fun g hg=>(World.ownsRow.lt ho g hg).1)
   have vT:w2.heap[wr.heap.size]? = some (mU (.slice ai ds.length (ds.length+ci)) t):=
    (hgrow.block wr.heap.size (by rw[AD,AD];omega) (fun e=>by have:=(World.ownsRow.lt ho _ e.symm).2;omega)).trans (by rw[B7,if_neg (by rw[AD];omega),B7,if_pos rfl])
   have b0:w2.cell? ⟨wr.heap.size,0,none⟩=some (.slice ai ds.length (ds.length+ci)):=by rw[cell_of_row w2 _ 0 _ _ (0,0) vT];rfl
   have R2:=R0.keep (kw.trans hK2);clear hgrow vT;go_wp2_with fail
   refine (FI _ _ _ R2 hmk).mono ?_;rintro e w3 ⟨rfl,k3⟩;have ho3:=World.ownsRow.kept hown' k3.grownBy (by cases v'.ownBlock<;>simp);go_wp2_with fail
   refine (VA _ _ _).mono ?_;rintro e w4 ⟨rfl,rfl⟩;go_wp2;go_roundw;case rel=>exact⟨k+1,by omega,by go_num,by rw[HT.out],ho3,hK2.trans k3⟩
   case measure=>simp[intOf];omega
  ·
   obtain rfl:k=AA.length:=by omega
   go_wp2;go_ret;exact⟨_,rfl,⟨V,ho,fun i hi=>(hV i hi).1⟩,hK⟩
theorem QY (w:World)(v:Value)(AA:List (List Dd))(h:Fz w v AA)(hx:AA.length<=3)(hm:∀i,i<AA.length->(AA.getD i []).length<=1048576):
  Calls Tryz.prog 138 #[v] w fun e w'=>∃v',e = .returned v'/\tu w' v' AA/\AC w w':=
 (KC w w (AC.refl w) v AA h hx hm).mono fun _ _ ⟨v',he,⟨_,ho,hV⟩,hK⟩=>⟨v',he,qj ho hK hV,hK⟩
def oU (w0 wc w:World)(v:Value)(AA:List (List Dd)):Prop:=
 ∃(b c:Nat) (V:Nat->Value),v = .slice (some ⟨b,0,none⟩) AA.length c/\wc.heap.size<=b/\b<w.heap.size /\
  ∀i,i<AA.length->JO w0 (V i) (AA.getD i [])/\w.cell? ⟨b,i*2,none⟩=some (V i)/\w.cell? ⟨b,i*2+1,none⟩=some (.int .i64 (GN AA i))
theorem SA (w0 w:World)(kw:AC w0 w)(v:Value)(AA:List (List Dd))(h:Fz w0 v AA)(h1:1<=AA.length)(hx:AA.length<=3)(hm:∀i,i<AA.length->(AA.getD i []).length<=1048576):
  Calls Tryz.prog 138 #[v] w fun e w'=>∃v',e = .returned v'/\oU w0 w w' v' AA/\AC w w':=by
 refine (KC w0 w kw v AA h hx hm).mono fun _ w' ⟨v',he,⟨V,ho,hV⟩,hK⟩=>⟨v',he,?_,hK⟩
 have hlt:=World.ownsRow.lt ho;have h2:=ho;rcases ho.2 with ⟨_,hn⟩|⟨g,cap,cur,rfl,hb,hg,_,_,hs,_⟩
 . omega
 ·
  refine⟨g,cap,V,rfl,hb,(hlt g rfl).2,fun i hi=>?_⟩;have hc:=M9 V AA AA.length i hi;have c1:=World.ownsRow.cellAt h2 (i*2) (by omega);have c2:=World.ownsRow.cellAt h2 (i*2+1) (by omega);exact⟨hV i hi,by rw[c1,hc.1],by rw[c2,hc.2]⟩
theorem Np (d:List Dd):∀l:List (List Dd),BF (l++[d])=BF l+d.length
 | []=>by simp[BF]
 |x::r=>by rw[List.cons_append,BF,BF,Np d r];omega
theorem VG {α:Type}(l:List α)(k:Nat)(z:α)(h:k<l.length):l.take (k+1)=l.take k++[l.getD k z]:=by
 rw[List.take_add_one,List.getElem?_eq_getElem h,List.getD_eq_getElem?_getD,List.getElem?_eq_getElem h];rfl
theorem U0 {ds:List Dd}{t:Int}(h:Cl ds t=true):ds.length<=5:=by
 simp only[Cl,Bool.and_eq_true,decide_eq_true_eq] at h;exact h.1.1.1
theorem DA (w:World)(v:Value)(AA:List (List Dd))(h:Fz w v AA)(hx:AA.length<=1048576)(hm:∀i,i<AA.length->(AA.getD i []).length<=1048576):
  Calls Tryz.prog 112 #[v] w fun e w'=>e = .returned (.bool (AO AA))/\AC w w':=by
 have RW:=h;obtain⟨a,c,rfl,h⟩:=h;clear h;have HW:=Lib.hid (Tq AA);cases hb:Cx (AA.length:Int) 1 3
 ·
  have HE:Hid (AO AA=false):=by
   refine Lib.hid ?_;simp[Cx] at hb;rw[HW.out,decide_eq_false (by omega)];rfl
  go_enter Tryz.func112,Tryz.ntmps112
  go_wp2_with (go_at_call 103;refine (BB _ _ _ _).mono ?_;rintro e w' ⟨rfl,rfl⟩)
  go_ret;exact⟨by rw[HE.out];rfl,AC.refl _⟩
 ·
  have h13:1<=AA.length/\AA.length<=3:=by simp[Cx] at hb;omega
  have HW2:Hid (AO AA=(B5 AA AA.length&&decide (BF AA<=12)&&decide (SQ AA AA.length<=6))):=Lib.hid (by rw[HW.out,decide_eq_true h13];rfl);have h3:=h13.2;clear h13 HW;go_enter Tryz.func112,Tryz.ntmps112
  go_wp2_with fail
  refine (BB _ _ _ _).mono ?_;rintro e w' ⟨rfl,rfl⟩;go_wp2_with fail
  refine (QY _ _ _ RW h3 hm).mono ?_;rintro e w1 ⟨v1,rfl,rc,k1⟩;clear hb RW;obtain⟨a1,c1,rfl,rc⟩:=rc;go_wp2;go_loopw [3,4,14] (fun n m i wr=>∃k x:Nat,∃y:Int,k<=AA.length/\n = .int .i64 x/\m = .int .i64 y/\i = .int .i64 k/\Hid (x=BF (AA.take k)/\y=SQ AA k/\B5 AA k=true)/\x<=5*k/\0<=y/\y<=10*k/\AC w1 wr) (fun _ _ i _=>AA.length-(intOf i).toNat)
  case atStart=>exact⟨0,0,0,Nat.zero_le _,rfl,rfl,rfl,Lib.hid ⟨by simp[BF],rfl,rfl⟩,by omega,by omega,by omega,AC.refl _⟩
  case round=>
   obtain⟨k,x,y,hk,rfl,rfl,rfl,hM,x5,y0,y1,hK⟩:=hrel;by_cases hlt:k<AA.length
   ·
    rcases rc with h|⟨b,rfl,hb,hc⟩
    . exfalso;rw[h] at hlt;simp at hlt
    obtain⟨vi,e1,r1,e2⟩:=hc k hlt;have hmk:=hm k hlt;clear hc hm;have HR:Hid (B5 AA (k+1)=(B5 AA k&&Cl (AA.getD k []) (GN AA k))):=Lib.hid rfl;have HV:Hid (SQ AA (k+1)=SQ AA k+PW (AA.getD k []) (AA.getD k []).length):=Lib.hid rfl;have HN:Hid (BF (AA.take (k+1))=BF (AA.take k)+(AA.getD k []).length):=Lib.hid (by rw[VG AA k [] hlt,Np]);obtain⟨ds,hds⟩:∃ds,ds=AA.getD k []:=⟨_,rfl⟩;rw[<-hds] at r1 hmk HR HV HN;clear hds;generalize GN AA k=t at e2 HR;have d1:=(hK.cell hb).trans e1;have d2:=(hK.cell hb).trans e2;have r1:=r1.keep hK;obtain⟨ai,ci,rfl,-⟩:=id r1;have hbw:b<wr.heap.size:=Nat.lt_of_lt_of_le hb hK.size;have i1:(0:Int)<=(k:Int):=Int.natCast_nonneg _;have i2:(k:Int)<(AA.length:Int):=by omega
    clear e1 e2;cases hr:Cl ds t
    ·
     have HE:Hid (AO AA=false):=Lib.hid (by
      rw[HW2.out,Fv (k:=k+1) (by rw[HR.out,hr];simp) _ hlt]
      rfl)
     have HRR:=Lib.hid hr;clear hr;go_wp2_with fail
     refine (MK _ _ _ _ (r1.keep ((AC.refl _).alloc _)) hmk).mono ?_;rw[HRR.out];rintro e wz ⟨rfl,kk⟩;go_wp2;go_ret;exact⟨by rw[HE.out];rfl,k1.trans ((hK.alloc _).trans kk)⟩
    ·
     have l5:=U0 hr;have HRR:=Lib.hid hr;have EK:=Zq ds ds.length;clear hr;go_wp2_with fail
     refine (MK _ _ _ _ (r1.keep ((AC.refl _).alloc _)) hmk).mono ?_;rw[HRR.out];rintro e wz ⟨rfl,kk⟩;have b0:wz.cell? ⟨wr.heap.size,0,none⟩=some (.slice ai ds.length (ds.length+ci)):=AZ kk 0;have bs:wr.heap.size<wz.heap.size:=Hs kk;have r2:=r1.keep (((AC.refl _).alloc _).trans kk);have hKz:=(hK.alloc (.cells #[.slice ai ds.length (ds.length+ci),.int .i64 t] 155)).trans kk;clear d1 d2 kk;go_wp2_with fail
     refine (DI _ _ _ _).mono ?_;rintro e w3 ⟨rfl,rfl⟩;go_wp2_with fail
     refine (UW _ _ _ r2 hmk).mono ?_;rintro e w4 ⟨rfl,k4⟩;have HH:Hid (x+ds.length=BF (AA.take (k+1))/\y+PW ds ds.length=SQ AA (k+1)/\B5 AA (k+1)=true):=Lib.hid ⟨by rw[HN.out,hM.out.1],by rw[HV.out,hM.out.2.1],by rw[HR.out,hM.out.2.2,HRR.out];rfl⟩;generalize PW ds ds.length=ev at EK HH;go_wp2;go_roundw;case rel=>exact⟨k+1,x+ds.length,y+ev,by omega,by go_num,by go_num,by go_num,HH,by omega,by omega,by omega,hKz.trans k4⟩
     case measure=>simp[intOf];omega
   ·
    obtain rfl:k=AA.length:=by omega
    rw[List.take_length] at hM;have HE:Hid (AO AA=(decide (x<=12)&&decide (y<=6))):=Lib.hid (by rw[HW2.out,hM.out.2.2,hM.out.1,hM.out.2.1];rfl);clear hM HW2 rc hm;by_cases h12:x<=12
    ·
     have e12:(x:Int)<=12:=by omega
     by_cases h6:y<=6
     ·
      go_wp2;go_ret;exact⟨by rw[HE.out,decide_eq_true h12,decide_eq_true h6];rfl,k1.trans hK⟩
     ·
      have e6:(6:Int)<y:=by omega
      go_wp2;go_ret;exact⟨by rw[HE.out,decide_eq_true h12,decide_eq_false (show ¬y<=6 by omega)];rfl,k1.trans hK⟩
    ·
     have e12:(12:Int)<(x:Int):=by omega
     go_wp2;go_ret;exact⟨by rw[HE.out,decide_eq_false (show ¬x<=12 by omega)];rfl,k1.trans hK⟩
def iX (w w':World)(e:Ending)(vs:Array Value):Prop:=
 ∃B,e = .returned (.slice (some ⟨B,0,none⟩) vs.size vs.size)/\w'.heap[B]? = some (.cells vs 167)/\w.heap.size<=B/\AC w w'
theorem YY (p v g:Int)(w:World):Calls Tryz.prog 147 #[Fe 1 p v g] w fun e w'=>iX w w' e #[YO p]:=by
 go_enter Tryz.func147,Tryz.ntmps147
 go_wp2;go_ret;exact⟨w.heap.size+1,rfl,by rw[B7,if_pos (AD w _).symm],by omega,((AC.refl w).alloc _).alloc _⟩
theorem Yb (p v g:Int)(w:World):Calls Tryz.prog 147 #[Fe 2 p v g] w fun e w'=>iX w w' e #[VM p v]:=by
 go_enter Tryz.func147,Tryz.ntmps147
 go_wp2;go_ret;exact⟨w.heap.size+1,rfl,by rw[B7,if_pos (AD w _).symm],by omega,((AC.refl w).alloc _).alloc _⟩
theorem YZ (p v g:Int)(w:World):Calls Tryz.prog 147 #[Fe 3 p v g] w fun e w'=>iX w w' e #[YO p,VM p v]:=by
 go_enter Tryz.func147,Tryz.ntmps147
 go_wp2;go_ret;exact⟨w.heap.size+1,rfl,by rw[B7,if_pos (AD w _).symm],by omega,((AC.refl w).alloc _).alloc _⟩
theorem Ya (p v g:Int)(w:World):Calls Tryz.prog 147 #[Fe 4 p v g] w fun e w'=>iX w w' e #[]:=by
 go_enter Tryz.func147,Tryz.ntmps147
 go_wp2;go_ret;exact⟨w.heap.size+1,rfl,by rw[B7,if_pos (AD w _).symm],by omega,((AC.refl w).alloc _).alloc _⟩
theorem GY (w:World)(v:Value)(ds:List Dd)(h:JO w v ds)(k:Nat)(hk:k<ds.length)(hx:ds.length<=1048576):
  Calls Tryz.prog 146 #[v,.int .i64 k] w fun e w'=>e = .returned (.bool (GX ds k))/\AC w w':=by
 obtain⟨a,c,rfl,h⟩:=h;rcases h with h|⟨b,o,rfl,hb,hc⟩
 . exfalso;rw[h] at hk;simp at hk
 have A3:=(hc k hk).2.2.2;have i1:(0:Int)<=(k:Int):=Int.natCast_nonneg _;have i2:(k:Int)<(ds.length:Int):=by omega
 have HP:Hid (GX ds k=(decide (0<k)&&((ds.getD k zD).2.2.2 != 0)&&((ds.getD k zD).2.2.2==(ds.getD (k-1) zD).2.2.2))):=Lib.hid rfl;by_cases h0:k=0
 ·
  have HT:Hid (GX ds k=false):=Lib.hid (by rw[HP.out];simp[h0]);have d0:decide (0<k)=false:=by simp[h0]
  generalize (ds.getD k zD).2.2.2=x3 at A3;clear HP hc h0;go_enter Tryz.func146,Tryz.ntmps146
  go_wp2;go_quiet (fail)
  go_wp2;go_ret;exact⟨by rw[HT.out];rfl,(AC.refl w).drewN _⟩
 ·
  obtain⟨r,rfl⟩:∃r:Nat,k=r+1:=⟨k-1,by omega⟩;rw[Nat.add_sub_cancel] at HP;have B3:=(hc r (by omega)).2.2.2;clear hc h0;have j1:(0:Int)<=(r:Int):=Int.natCast_nonneg _;have j2:(r:Int)<(ds.length:Int):=by omega
  have d2:(r:Int)+1<(ds.length:Int):=by omega
  have d6:(0:Int)<=(r:Int)+1:=by omega
  have d3:IntKind.i64.wrap (r:Int)=(r:Int):=by rw[IntKind.wrap_i64];omega
  have d4:wrap64 (r:Int)=(r:Int):=Dy _ (by omega) (by omega);generalize (ds.getD (r+1) zD).2.2.2=x3 at A3 HP;generalize (ds.getD r zD).2.2.2=y3 at B3 HP;by_cases e0:x3=0
  ·
   have HT:Hid (GX ds (r+1)=false):=Lib.hid (by rw[HP.out];simp[e0]);have q0:(x3 != 0)=false:=by simp[e0]
   clear HP e0;go_enter Tryz.func146,Tryz.ntmps146
   go_wp2;go_quiet (fail)
   go_wp2;go_ret;exact⟨by rw[HT.out];rfl,(AC.refl w).drewN _⟩
  ·
   have q0:(x3 != 0)=true:=by simp[e0]
   have q1:(decide (0<r+1))=true:=by simp
   have HT:Hid (GX ds (r+1)=(x3==y3)):=Lib.hid (by rw[HP.out,q0,q1];simp);clear HP e0 q1;go_enter Tryz.func146,Tryz.ntmps146
   go_wp2;go_quiet (fail)
   go_wp2;go_ret;exact⟨by rw[HT.out];rfl,(AC.refl w).drewN _⟩
theorem EH (w:World)(v:Value)(es:List Ev)(h:gV w v es)(hx:es.length<=1048576)(h1:1<=es.length)(go:Bool):
  Calls Tryz.prog 145 #[v,.bool go] w fun e w'=>e = .returned (.int .i64 (Oo es go))/\AC w w':=by
 obtain⟨a,c,rfl,h⟩:=h;rcases h with h|⟨b,o,rfl,hb,hc⟩
 . exfalso;rw[h] at h1;simp at h1
 cases go
 ·
  have HT:Hid (Oo es false=(es.length:Int)):=Lib.hid (by simp[Oo]);go_enter Tryz.func145,Tryz.ntmps145
  go_wp2;go_ret;exact⟨by rw[HT.out];rfl,AC.refl w⟩
 ·
  obtain⟨m,hm⟩:∃m,es.length=m+1:=⟨es.length-1,by omega⟩;have AT:=hc m _ (Mj (by omega));have HT:Hid (Oo es true=Zg (es.getD m zE)):=Lib.hid (by simp[Oo,Nn,hm]);generalize es.getD m zE=e at AT HT;obtain⟨x0,x1,x2,x3,x4,x5⟩:=e;obtain⟨-,-,-,-,-,A5⟩:=rZ AT;clear AT hc;rw[hm];have j1:(0:Int)<=(m:Int):=Int.natCast_nonneg _;have d3:IntKind.i64.wrap (m:Int)=(m:Int):=by rw[IntKind.wrap_i64];omega
  have d4:wrap64 (m:Int)=(m:Int):=Dy _ (by omega) (by omega);clear hm;go_enter Tryz.func145,Tryz.ntmps145
  go_wp2;go_ret;exact⟨by rw[HT.out];rfl,AC.refl w⟩
end Go.Proofs.YtnmelakgmgenjaaGreat
