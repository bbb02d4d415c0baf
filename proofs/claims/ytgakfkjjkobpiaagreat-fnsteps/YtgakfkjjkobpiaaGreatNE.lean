/- Gathered texts. -/
import Derived.Test.YtgakfkjjkobpiaaGreatMQ
import Derived.Deep.Cut
set_option maxRecDepth 100000
set_option maxHeartbeats 8000000
namespace Go.Proofs.YtgakfkjjkobpiaaGreat
open Go.ChangeShapes Go.WideShapes Go.ChangeAt Go.RowKit
theorem ZT (AA:List (List Dd))(b:Bd)(s:Int):Cg (FT AA b) (Em AA b s)/\Pf (FT AA b) (Em AA b s):=by
 unfold FT Em EA
 cases hb:Af AA b with
 |false=>rw[if_neg (by simp),if_neg (by simp)];exact⟨Tf,by simp[Pf,Cy,IW]⟩
 |true=>
  rw[if_pos rfl,if_pos rfl];split
  ·
   rename_i hs;exact ((RB.any hb).So hs).sz (by omega) (by omega)
  . exact (RB.any hb).sz (by omega) (by omega)
theorem KY (w:World)(a:Option Addr)(cap:Nat)(zs:List Int)(hb:Ms w w.heap.size a zs):
  Calls Tryz.prog 22 #[.slice a zs.length cap] w fun e w'=>∃bv AA b,∃q:Int,e = .returned (.tuple #[BV.agg bv,.int .i64 q])/\Gp (w.heap.size+1) w' bv AA b/\(Cg AA b/\Fk b)/\AC w w':=by
 have k0:AC w (w.alloc (.cells #[AE,AE,AE,AE,AE,AE,AE,AE] 30)):=(AC.refl w).alloc _;have s0:(w.alloc (.cells #[AE,AE,AE,AE,AE,AE,AE,AE] 30)).heap.size=w.heap.size+1:=AD _ _;have H0:(w.alloc (.cells #[AE,AE,AE,AE,AE,AE,AE,AE] 30)).heap[w.heap.size]? = some (.cells #[AE,AE,AE,AE,AE,AE,AE,AE] 30 (0,0)):=heap_alloc_new w _;go_enter Tryz.func22,Tryz.ntmps22
 go_wp2_with fail
 refine (TR _ a cap zs (Ms.vI hb k0)).mono ?_;rintro e w1 ⟨rfl,c1,k1⟩;have hR1:=(Below.block k1 w.heap.size (by omega)).trans H0;have s1:=k1.size;have z1:=c1.lt;have y1:=c1.1;rw[s0] at c1 s1 z1 y1;go_wp2_with fail
 refine (L6 _ _ _ c1).mono ?_;rintro e w2 ⟨bv,AA,b,rfl,fx,hz,D2⟩;have K2:AC w w2:=D2.fe (k0.trans k1) (by omega);have hR2:=(D2.2.block w.heap.size (by omega) (fun e=>by have:=Option.some.inj e;omega)).trans hR1;have f2:=fx.mono (show w.heap.size+2<=w1.heap.size+1 by omega);have di:=D2.1;have zc:=D2.2.size;obtain⟨aW,aP,aL,aN,aX,aT,aF,aR,cW,cP,cL,cN',cX,cT,cF,cR,rfl⟩:=fx.rd.shapes;clear fx c1 k1 k0 H0 hR1 D2;go_upto_region 3 with fail
 obtain⟨w3,hw3⟩:∃W:World,W=w2.alloc (.cells #[.slice aW AA.length cW,.slice aP b.AM.length cP,.slice aL b.AQ.length cL,.slice aN b.AH.length cN',.slice aX b.AL.length cX,.slice aT b.sn.length cT,.slice aF b.fr.length cF,.slice aR b.rws.length cR] 30):=⟨_,rfl⟩;have k3:AC w2 w3:=by rw[hw3];exact (AC.refl w2).alloc _
 have hD3:w3.heap[w2.heap.size]? = some (.cells #[.slice aW AA.length cW,.slice aP b.AM.length cP,.slice aL b.AQ.length cL,.slice aN b.AH.length cN',.slice aX b.AL.length cX,.slice aT b.sn.length cT,.slice aF b.fr.length cF,.slice aR b.rws.length cR] 30 (0,0)):=by rw[hw3];exact heap_alloc_new _ _
 have y3:w2.heap.size<w3.heap.size:=by rw[hw3,AD];omega
 rw[<-hw3];clear hw3;have K3:=K2.trans k3;have hR3:=(Below.block k3 w.heap.size (by omega)).trans hR2;have f3:=f2.on (CV.keep k3);have Zr:=di.keep k3;have zD:w.heap.size+1<w2.heap.size:=by omega
 generalize w2.heap.size=D at *;clear k3 di f2 hR2 K2;have CP:=GI w3 _ AA b f3.rd hz.1;have hLl:=Jz AA b;generalize Dz AA b=L at *;go_wp2_with (first|refine wpList_load_row rfl 30 _ rfl D rfl 30 _ (0,0) _ hD3 Tryz.underlying30 rfl AF ?_|fail)
 refine CP.mono ?_;rintro e w4 ⟨vp,rfl,op,k4⟩;have K4:=K3.trans k4;have hR4:=(Below.block k4 w.heap.size (by omega)).trans hR3;have hD4:=(Below.block k4 D y3).trans hD3;have f4:=f3.on (CV.keep k4);have Xo:=Zr.keep k4;have z4:=k4.size;have yD:D<w4.heap.size:=by omega
 have hge:=op.row.ge;obtain⟨ap,cp,rfl,hp⟩:=op.rd;have hcl:=Xo.lt;clear K3 hR3 hD3 f3 Zr CP op k4;have hpw:Rd w4 (.slice ap L.length cp) L:=⟨ap,cp,rfl,hp⟩;clear hp;go_upto_region 5 with fail
 go_cut [22] from 8 (fun s wx=>∃t:Bool,s = .bool t/\(t=true->0<L.length)/\AC w wx/\wx.heap[w.heap.size]? = w4.heap[w.heap.size]?/\wx.heap[D]? = w4.heap[D]?/\Gp (w.heap.size+2) wx ⟨.slice aW AA.length cW,.slice aP b.AM.length cP,.slice aL b.AQ.length cL,.slice aN b.AH.length cN',.slice aX b.AL.length cX,.slice aT b.sn.length cT,.slice aF b.fr.length cF,.slice aR b.rws.length cR⟩ AA b/\IU wx (w.heap.size+1) (w.heap.size+1)/\w4.heap.size<=wx.heap.size/\Rd wx (.slice ap L.length cp) L)
 case first=>
  by_cases hl:0<L.length
  ·
   have hl1:decide ((0:Int)<(L.length:Int))=true:=by simpa using hl
   go_wp2_with fail
   refine (C2 _ _ _ 4 Xo (by omega)).mono ?_;rintro e w5 ⟨t,rfl,KX,g5⟩;go_wp2_with fail
   go_meet
   case rel=>
    refine⟨!t,rfl,fun _=>hl,K4.grown g5 (fun k hk=>by have:=Option.some.inj hk;omega),g5.block w.heap.size (by omega) (fun e=>by have:=Option.some.inj e;omega),g5.block D yD (fun e=>by have:=Option.some.inj e;omega),f4.on (CV.grown g5 (by omega)),KX,g5.size,ap,cp,rfl,?_⟩;obtain⟨a',c',e',h0⟩:=hpw;simp only[Value.slice.injEq,true_and] at e';obtain⟨rfl,rfl⟩:=e';rcases h0 with h0|⟨bp,oo,rfl,hbp,hcp⟩
    . exact .inl h0
    ·
     have:=hge bp rfl;exact .inr ⟨bp,oo,rfl,Nat.lt_of_lt_of_le hbp g5.size,fun i hi=>(World.cell?_of_block (g5.block bp hbp (fun e=>by have:=Option.some.inj e;omega))).trans (hcp i hi)⟩
  ·
   have hl1:decide ((0:Int)<(L.length:Int))=false:=by simpa using hl
   go_wp2_with fail
   go_meet;case rel=>exact⟨false,rfl,by simp,K4,rfl,rfl,f4,Xo,Nat.le_refl _,hpw⟩
 case rest=>
  obtain⟨t,rfl,hl,K5,hR5,hD5,f5,KX,z5,hpw⟩:=hcut;replace hR5:=hR5.trans hR4;replace hD5:=hD5.trans hD4;clear K4 hR4 hD4 f4 Xo;cases t
  ·
   clear hl hpw hge;go_upto_region 7 with fail
   have u0:wc.cell? ⟨D,0,none⟩=some (.slice aW AA.length cW):=by rw[cell_of_row wc _ 0 _ _ _ hD5];rfl
   have u1:wc.cell? ⟨D,1,none⟩=some (.slice aP b.AM.length cP):=by rw[cell_of_row wc _ 1 _ _ _ hD5];rfl
   have u2:wc.cell? ⟨D,2,none⟩=some (.slice aL b.AQ.length cL):=by rw[cell_of_row wc _ 2 _ _ _ hD5];rfl
   have u3:wc.cell? ⟨D,3,none⟩=some (.slice aN b.AH.length cN'):=by rw[cell_of_row wc _ 3 _ _ _ hD5];rfl
   have u4:wc.cell? ⟨D,4,none⟩=some (.slice aX b.AL.length cX):=by rw[cell_of_row wc _ 4 _ _ _ hD5];rfl
   have u5:wc.cell? ⟨D,5,none⟩=some (.slice aT b.sn.length cT):=by rw[cell_of_row wc _ 5 _ _ _ hD5];rfl
   have u6:wc.cell? ⟨D,6,none⟩=some (.slice aF b.fr.length cF):=by rw[cell_of_row wc _ 6 _ _ _ hD5];rfl
   have u7:wc.cell? ⟨D,7,none⟩=some (.slice aR b.rws.length cR):=by rw[cell_of_row wc _ 7 _ _ _ hD5];rfl
   have DK:AC wc wc.drew:=(AC.refl wc).drew;refine wp_region_held_drew (S:=(fun w'=>w'.cell? ⟨D,0,none⟩=some (.slice aW AA.length cW)/\w'.cell? ⟨D,1,none⟩=some (.slice aP b.AM.length cP)/\w'.cell? ⟨D,2,none⟩=some (.slice aL b.AQ.length cL)/\w'.cell? ⟨D,3,none⟩=some (.slice aN b.AH.length cN')/\w'.cell? ⟨D,4,none⟩=some (.slice aX b.AL.length cX)/\w'.cell? ⟨D,5,none⟩=some (.slice aT b.sn.length cT)/\w'.cell? ⟨D,6,none⟩=some (.slice aF b.fr.length cF)/\w'.cell? ⟨D,7,none⟩=some (.slice aR b.rws.length cR))) (by kernel_rfl) ?_ (fun hHeld=>?_)
   . exact⟨u0,u1,u2,u3,u4,u5,u6,u7⟩
   refine AO 0 30 (v:=?_) ?_ ?_;rotate_left
   ·
    intro wx hSw;go_simp;with_reducible rfl
   simp only[Act.put,List.setIfInBounds_toArray,List.set_cons_zero,List.set_cons_succ];refine AO 2 32 (v:=?_) ?_ ?_;rotate_left
   ·
    intro wx hSw;go_simp;with_reducible rfl
   simp only[Act.put,List.setIfInBounds_toArray,List.set_cons_zero,List.set_cons_succ];refine wpAnyH_ready (rs:=[1,3]) (by kernel_rfl) (by simp) ?_;refine AllReadyH.cons rfl (fun K hK=>?_) (AllReadyH.cons rfl (fun K hK=>?_) AllReadyH.nil)
   ·
    skip
    go_simp;have ka:AC wc (wc.drew.alloc (.cells #[.int .i64 (-1),.int .i64 0,.int .i64 2,.int .i64 3,.int .i64 9,.int .i64 10,.int .i64 12,.int .i64 13] 2)):=DK.trans ((AC.refl _).alloc _);have KA:=K5.trans ka;have RA:=(Below.block ka w.heap.size (by omega)).trans hR5;have DA:=(Below.block ka D (by omega)).trans hD5;have FA:=f5.on (CV.keep ka);have CA:=KX.keep ka;have NA:(wc.drew.alloc (.cells #[.int .i64 (-1),.int .i64 0,.int .i64 2,.int .i64 3,.int .i64 9,.int .i64 10,.int .i64 12,.int .i64 13] 2)).heap[wc.heap.size]? = some (.cells #[.int .i64 (-1),.int .i64 0,.int .i64 2,.int .i64 3,.int .i64 9,.int .i64 10,.int .i64 12,.int .i64 13] 2 (0,0)):=heap_alloc_new wc.drew _;have SA:(wc.drew.alloc (.cells #[.int .i64 (-1),.int .i64 0,.int .i64 2,.int .i64 3,.int .i64 9,.int .i64 10,.int .i64 12,.int .i64 13] 2)).heap.size=wc.heap.size+1:=by rw[AD];rfl
    have a0:(wc.drew.alloc (.cells #[.int .i64 (-1),.int .i64 0,.int .i64 2,.int .i64 3,.int .i64 9,.int .i64 10,.int .i64 12,.int .i64 13] 2)).cell? ⟨D,0,none⟩=some (.slice aW AA.length cW):=by rw[cell_of_row (wc.drew.alloc (.cells #[.int .i64 (-1),.int .i64 0,.int .i64 2,.int .i64 3,.int .i64 9,.int .i64 10,.int .i64 12,.int .i64 13] 2)) _ 0 _ _ _ DA];rfl
    have a1:(wc.drew.alloc (.cells #[.int .i64 (-1),.int .i64 0,.int .i64 2,.int .i64 3,.int .i64 9,.int .i64 10,.int .i64 12,.int .i64 13] 2)).cell? ⟨D,1,none⟩=some (.slice aP b.AM.length cP):=by rw[cell_of_row (wc.drew.alloc (.cells #[.int .i64 (-1),.int .i64 0,.int .i64 2,.int .i64 3,.int .i64 9,.int .i64 10,.int .i64 12,.int .i64 13] 2)) _ 1 _ _ _ DA];rfl
    have a2:(wc.drew.alloc (.cells #[.int .i64 (-1),.int .i64 0,.int .i64 2,.int .i64 3,.int .i64 9,.int .i64 10,.int .i64 12,.int .i64 13] 2)).cell? ⟨D,2,none⟩=some (.slice aL b.AQ.length cL):=by rw[cell_of_row (wc.drew.alloc (.cells #[.int .i64 (-1),.int .i64 0,.int .i64 2,.int .i64 3,.int .i64 9,.int .i64 10,.int .i64 12,.int .i64 13] 2)) _ 2 _ _ _ DA];rfl
    have a3:(wc.drew.alloc (.cells #[.int .i64 (-1),.int .i64 0,.int .i64 2,.int .i64 3,.int .i64 9,.int .i64 10,.int .i64 12,.int .i64 13] 2)).cell? ⟨D,3,none⟩=some (.slice aN b.AH.length cN'):=by rw[cell_of_row (wc.drew.alloc (.cells #[.int .i64 (-1),.int .i64 0,.int .i64 2,.int .i64 3,.int .i64 9,.int .i64 10,.int .i64 12,.int .i64 13] 2)) _ 3 _ _ _ DA];rfl
    have a4:(wc.drew.alloc (.cells #[.int .i64 (-1),.int .i64 0,.int .i64 2,.int .i64 3,.int .i64 9,.int .i64 10,.int .i64 12,.int .i64 13] 2)).cell? ⟨D,4,none⟩=some (.slice aX b.AL.length cX):=by rw[cell_of_row (wc.drew.alloc (.cells #[.int .i64 (-1),.int .i64 0,.int .i64 2,.int .i64 3,.int .i64 9,.int .i64 10,.int .i64 12,.int .i64 13] 2)) _ 4 _ _ _ DA];rfl
    have a5:(wc.drew.alloc (.cells #[.int .i64 (-1),.int .i64 0,.int .i64 2,.int .i64 3,.int .i64 9,.int .i64 10,.int .i64 12,.int .i64 13] 2)).cell? ⟨D,5,none⟩=some (.slice aT b.sn.length cT):=by rw[cell_of_row (wc.drew.alloc (.cells #[.int .i64 (-1),.int .i64 0,.int .i64 2,.int .i64 3,.int .i64 9,.int .i64 10,.int .i64 12,.int .i64 13] 2)) _ 5 _ _ _ DA];rfl
    have a6:(wc.drew.alloc (.cells #[.int .i64 (-1),.int .i64 0,.int .i64 2,.int .i64 3,.int .i64 9,.int .i64 10,.int .i64 12,.int .i64 13] 2)).cell? ⟨D,6,none⟩=some (.slice aF b.fr.length cF):=by rw[cell_of_row (wc.drew.alloc (.cells #[.int .i64 (-1),.int .i64 0,.int .i64 2,.int .i64 3,.int .i64 9,.int .i64 10,.int .i64 12,.int .i64 13] 2)) _ 6 _ _ _ DA];rfl
    have a7:(wc.drew.alloc (.cells #[.int .i64 (-1),.int .i64 0,.int .i64 2,.int .i64 3,.int .i64 9,.int .i64 10,.int .i64 12,.int .i64 13] 2)).cell? ⟨D,7,none⟩=some (.slice aR b.rws.length cR):=by rw[cell_of_row (wc.drew.alloc (.cells #[.int .i64 (-1),.int .i64 0,.int .i64 2,.int .i64 3,.int .i64 9,.int .i64 10,.int .i64 12,.int .i64 13] 2)) _ 7 _ _ _ DA];rfl
    refine hK.out _ _ ?_ (fun hHeld=>?_)
    . exact⟨a0,a1,a2,a3,a4,a5,a6,a7⟩
    clear hK K;refine wpAnyH_ready (rs:=[3]) (by kernel_rfl) (by simp) ?_;refine AllReadyH.cons rfl (fun K hK=>?_) AllReadyH.nil;go_simp;refine (Ao _ _ _ 8 CA (by omega)).mono ?_;rintro e wb ⟨y,rfl,yl,yh,Zs,gb⟩;have KB:=KA.grown gb (fun k hk=>by have:=Option.some.inj hk;omega);have Tl:=(gb.block w.heap.size (by rw[SA];omega) (fun e=>by have:=Option.some.inj e;omega)).trans RA;have DB':=(gb.block D (by rw[SA];omega) (fun e=>by have:=Option.some.inj e;omega)).trans DA;have FB:=FA.on (CV.grown gb (by omega));have NB:=(gb.block wc.heap.size (by rw[SA];omega) (fun e=>by have:=Option.some.inj e;omega)).trans NA;have KN:D<wb.heap.size:=by have:=gb.size;rw[SA] at this;omega
    have v0:wb.cell? ⟨D,0,none⟩=some (.slice aW AA.length cW):=by rw[cell_of_row wb _ 0 _ _ _ DB'];rfl
    have v1:wb.cell? ⟨D,1,none⟩=some (.slice aP b.AM.length cP):=by rw[cell_of_row wb _ 1 _ _ _ DB'];rfl
    have v2:wb.cell? ⟨D,2,none⟩=some (.slice aL b.AQ.length cL):=by rw[cell_of_row wb _ 2 _ _ _ DB'];rfl
    have v3:wb.cell? ⟨D,3,none⟩=some (.slice aN b.AH.length cN'):=by rw[cell_of_row wb _ 3 _ _ _ DB'];rfl
    have v4:wb.cell? ⟨D,4,none⟩=some (.slice aX b.AL.length cX):=by rw[cell_of_row wb _ 4 _ _ _ DB'];rfl
    have v5:wb.cell? ⟨D,5,none⟩=some (.slice aT b.sn.length cT):=by rw[cell_of_row wb _ 5 _ _ _ DB'];rfl
    have v6:wb.cell? ⟨D,6,none⟩=some (.slice aF b.fr.length cF):=by rw[cell_of_row wb _ 6 _ _ _ DB'];rfl
    have v7:wb.cell? ⟨D,7,none⟩=some (.slice aR b.rws.length cR):=by rw[cell_of_row wb _ 7 _ _ _ DB'];rfl
    go_wp2_with fail
    refine hK.out _ _ ?_ (fun hHeld=>?_)
    . exact⟨v0,v1,v2,v3,v4,v5,v6,v7⟩
    clear hK K;obtain⟨j,rfl⟩:∃j:Nat,y=(j:Int):=⟨y.toNat,by omega⟩;have j8:j<8:=by omega
    obtain⟨x,hx⟩:∃x:Int,wb.cell? ⟨wc.heap.size,j,none⟩=some (.int .i64 x):=by
     have h8:j=0\/j=1\/j=2\/j=3\/j=4\/j=5\/j=6\/j=7:=by omega
     rcases h8 with rfl|rfl|rfl|rfl|rfl|rfl|rfl|rfl
     . exact⟨(-1),by rw[cell_of_row _ _ 0 _ _ _ NB];rfl⟩
     . exact⟨0,by rw[cell_of_row _ _ 1 _ _ _ NB];rfl⟩
     . exact⟨2,by rw[cell_of_row _ _ 2 _ _ _ NB];rfl⟩
     . exact⟨3,by rw[cell_of_row _ _ 3 _ _ _ NB];rfl⟩
     . exact⟨9,by rw[cell_of_row _ _ 4 _ _ _ NB];rfl⟩
     . exact⟨10,by rw[cell_of_row _ _ 5 _ _ _ NB];rfl⟩
     . exact⟨12,by rw[cell_of_row _ _ 6 _ _ _ NB];rfl⟩
     . exact⟨13,by rw[cell_of_row _ _ 7 _ _ _ NB];rfl⟩
    have i1:(0:Int)<=(j:Int):=Int.natCast_nonneg _;have i2:(j:Int)<8:=by omega
    have jG:wc.heap.size<wb.heap.size:=(Array.getElem?_eq_some_iff.1 NB).1;have zY:w.heap.size<wc.heap.size:=by omega
    have HG:=Lib.hid (AV wb w.heap.size #[.slice aW AA.length cW,.slice aP b.AM.length cP,.slice aL b.AQ.length cL,.slice aN b.AH.length cN',.slice aX b.AL.length cX,.slice aT b.sn.length cT,.slice aF b.fr.length cF,.slice aR b.rws.length cR]);have HZ:=Lib.hid (setRow_heap wb w.heap.size _ #[.slice aW AA.length cW,.slice aP b.AM.length cP,.slice aL b.AQ.length cL,.slice aN b.AH.length cN',.slice aX b.AL.length cX,.slice aT b.sn.length cT,.slice aF b.fr.length cF,.slice aR b.rws.length cR] _ _ Tl);have HF:=Lib.hid ((FB.on (CV.grown HG.out (by omega))).mono (show w.heap.size+1<=w.heap.size+2 by omega));have HK:=Lib.hid (KB.grown HG.out (fun k hk=>by have:=Option.some.inj hk;omega));have HX:=Lib.hid hx;have HX2:=Lib.hid ((World.cell?_of_block (HG.out.block wc.heap.size jG (fun e=>by have:=Option.some.inj e;omega))).trans hx);have HS1:=Lib.hid (show (fun w'=>w'.cell? ⟨D,0,none⟩=some (.slice aW AA.length cW)/\w'.cell? ⟨D,1,none⟩=some (.slice aP b.AM.length cP)/\w'.cell? ⟨D,2,none⟩=some (.slice aL b.AQ.length cL)/\w'.cell? ⟨D,3,none⟩=some (.slice aN b.AH.length cN')/\w'.cell? ⟨D,4,none⟩=some (.slice aX b.AL.length cX)/\w'.cell? ⟨D,5,none⟩=some (.slice aT b.sn.length cT)/\w'.cell? ⟨D,6,none⟩=some (.slice aF b.fr.length cF)/\w'.cell? ⟨D,7,none⟩=some (.slice aR b.rws.length cR)) wb from ⟨v0,v1,v2,v3,v4,v5,v6,v7⟩);have HS2:=Lib.hid (show (fun w'=>w'.cell? ⟨D,0,none⟩=some (.slice aW AA.length cW)/\w'.cell? ⟨D,1,none⟩=some (.slice aP b.AM.length cP)/\w'.cell? ⟨D,2,none⟩=some (.slice aL b.AQ.length cL)/\w'.cell? ⟨D,3,none⟩=some (.slice aN b.AH.length cN')/\w'.cell? ⟨D,4,none⟩=some (.slice aX b.AL.length cX)/\w'.cell? ⟨D,5,none⟩=some (.slice aT b.sn.length cT)/\w'.cell? ⟨D,6,none⟩=some (.slice aF b.fr.length cF)/\w'.cell? ⟨D,7,none⟩=some (.slice aR b.rws.length cR)) (wb.setRow w.heap.size #[.slice aW AA.length cW,.slice aP b.AM.length cP,.slice aL b.AQ.length cL,.slice aN b.AH.length cN',.slice aX b.AL.length cX,.slice aT b.sn.length cT,.slice aF b.fr.length cF,.slice aR b.rws.length cR]) from ⟨(World.cell?_of_block (HG.out.block D KN (fun e=>by have:=Option.some.inj e;omega))).trans v0,(World.cell?_of_block (HG.out.block D KN (fun e=>by have:=Option.some.inj e;omega))).trans v1,(World.cell?_of_block (HG.out.block D KN (fun e=>by have:=Option.some.inj e;omega))).trans v2,(World.cell?_of_block (HG.out.block D KN (fun e=>by have:=Option.some.inj e;omega))).trans v3,(World.cell?_of_block (HG.out.block D KN (fun e=>by have:=Option.some.inj e;omega))).trans v4,(World.cell?_of_block (HG.out.block D KN (fun e=>by have:=Option.some.inj e;omega))).trans v5,(World.cell?_of_block (HG.out.block D KN (fun e=>by have:=Option.some.inj e;omega))).trans v6,(World.cell?_of_block (HG.out.block D KN (fun e=>by have:=Option.some.inj e;omega))).trans v7⟩);clear hx hHeld;refine wpAnyH_ready (rs:=[4,6]) (by kernel_rfl) (by simp) ?_;refine AllReadyH.cons rfl (fun K hK=>?_) (AllReadyH.cons rfl (fun K hK=>?_) (AllReadyH.nil))
    ·
     skip
     go_simp;refine hK.out _ _ ?_ (fun hHeld=>?_)
     . exact HS1.out
     clear hK K hHeld;refine wpAnyH_ready (rs:=[5,6]) (by kernel_rfl) (by simp) ?_;refine AllReadyH.cons rfl (fun K hK=>?_) (AllReadyH.cons rfl (fun K hK=>?_) (AllReadyH.nil))
     ·
      skip
      have hx:=HX.out;go_simp;refine hK.out _ _ ?_ (fun hHeld=>?_)
      . exact HS1.out
      clear hK K hHeld hx;refine wpAnyH_ready (rs:=[6]) (by kernel_rfl) (by simp) ?_;refine AllReadyH.cons rfl (fun K hK=>?_) (AllReadyH.nil);rw[if_pos (by simp[Region.wanted])];refine wp_store_row 30 _ _ rfl w.heap.size _ rfl rfl 30 _ Tl AF rfl (by simp[Value.oneCell']) ?_;refine hK.out _ _ ?_ (fun hHeld=>?_)
      . exact HS2.out
      clear hK K hHeld;simp only[Act.put];have hHeld:=HS2.out;refine AO 7 3 (v:=?_) ?_ ?_;rotate_left
      ·
       intro wx hSw;go_simp;with_reducible rfl
      simp only[Act.put,List.setIfInBounds_toArray];refine wpAnyH_done (by kernel_rfl) ?_ _;go_wp2_with fail
      refine bodyPost_ret (AZ (by rfl) _ _ w.heap.size _ _ (0,0) _ (.int .i64 x) rfl HZ.out rfl Tryz.underlying30 rfl AF) rfl ?_
      first
       |exact⟨⟨.slice aW AA.length cW,.slice aP b.AM.length cP,.slice aL b.AQ.length cL,.slice aN b.AH.length cN',.slice aX b.AL.length cX,.slice aT b.sn.length cT,.slice aF b.fr.length cF,.slice aR b.rws.length cR⟩,AA,b,x,rfl,HF.out,hz,HK.out⟩
       |exact⟨⟨.slice aW AA.length cW,.slice aP b.AM.length cP,.slice aL b.AQ.length cL,.slice aN b.AH.length cN',.slice aX b.AL.length cX,.slice aT b.sn.length cT,.slice aF b.fr.length cF,.slice aR b.rws.length cR⟩,⟨x,rfl⟩,AA,b,HF.out,hz,HK.out⟩
     ·
      skip
      rw[if_pos (by simp[Region.wanted])];refine wp_store_row 30 _ _ rfl w.heap.size _ rfl rfl 30 _ Tl AF rfl (by simp[Value.oneCell']) ?_;refine hK.out _ _ ?_ (fun hHeld=>?_)
      . exact HS2.out
      clear hK K hHeld;simp only[Act.put];refine wpAnyH_ready (rs:=[5]) (by kernel_rfl) (by simp) ?_;refine AllReadyH.cons rfl (fun K hK=>?_) (AllReadyH.nil);have hx:=HX2.out;go_simp;refine hK.out _ _ ?_ (fun hHeld=>?_)
      . exact HS2.out
      clear hK K hHeld hx;have hHeld:=HS2.out;refine AO 7 3 (v:=?_) ?_ ?_;rotate_left
      ·
       intro wx hSw;go_simp;with_reducible rfl
      simp only[Act.put,List.setIfInBounds_toArray];refine wpAnyH_done (by kernel_rfl) ?_ _;go_wp2_with fail
      refine bodyPost_ret (AZ (by rfl) _ _ w.heap.size _ _ (0,0) _ (.int .i64 x) rfl HZ.out rfl Tryz.underlying30 rfl AF) rfl ?_
      first
       |exact⟨⟨.slice aW AA.length cW,.slice aP b.AM.length cP,.slice aL b.AQ.length cL,.slice aN b.AH.length cN',.slice aX b.AL.length cX,.slice aT b.sn.length cT,.slice aF b.fr.length cF,.slice aR b.rws.length cR⟩,AA,b,x,rfl,HF.out,hz,HK.out⟩
       |exact⟨⟨.slice aW AA.length cW,.slice aP b.AM.length cP,.slice aL b.AQ.length cL,.slice aN b.AH.length cN',.slice aX b.AL.length cX,.slice aT b.sn.length cT,.slice aF b.fr.length cF,.slice aR b.rws.length cR⟩,⟨x,rfl⟩,AA,b,HF.out,hz,HK.out⟩
    ·
     skip
     rw[if_pos (by simp[Region.wanted])];refine wp_store_row 30 _ _ rfl w.heap.size _ rfl rfl 30 _ Tl AF rfl (by simp[Value.oneCell']) ?_;refine hK.out _ _ ?_ (fun hHeld=>?_)
     . exact HS2.out
     clear hK K hHeld;simp only[Act.put];refine wpAnyH_ready (rs:=[4]) (by kernel_rfl) (by simp) ?_;refine AllReadyH.cons rfl (fun K hK=>?_) (AllReadyH.nil);go_simp;refine hK.out _ _ ?_ (fun hHeld=>?_)
     . exact HS2.out
     clear hK K hHeld;refine wpAnyH_ready (rs:=[5]) (by kernel_rfl) (by simp) ?_;refine AllReadyH.cons rfl (fun K hK=>?_) (AllReadyH.nil);have hx:=HX2.out;go_simp;refine hK.out _ _ ?_ (fun hHeld=>?_)
     . exact HS2.out
     clear hK K hHeld hx;have hHeld:=HS2.out;refine AO 7 3 (v:=?_) ?_ ?_;rotate_left
     ·
      intro wx hSw;go_simp;with_reducible rfl
     simp only[Act.put,List.setIfInBounds_toArray];refine wpAnyH_done (by kernel_rfl) ?_ _;go_wp2_with fail
     refine bodyPost_ret (AZ (by rfl) _ _ w.heap.size _ _ (0,0) _ (.int .i64 x) rfl HZ.out rfl Tryz.underlying30 rfl AF) rfl ?_
     first
      |exact⟨⟨.slice aW AA.length cW,.slice aP b.AM.length cP,.slice aL b.AQ.length cL,.slice aN b.AH.length cN',.slice aX b.AL.length cX,.slice aT b.sn.length cT,.slice aF b.fr.length cF,.slice aR b.rws.length cR⟩,AA,b,x,rfl,HF.out,hz,HK.out⟩
      |exact⟨⟨.slice aW AA.length cW,.slice aP b.AM.length cP,.slice aL b.AQ.length cL,.slice aN b.AH.length cN',.slice aX b.AL.length cX,.slice aT b.sn.length cT,.slice aF b.fr.length cF,.slice aR b.rws.length cR⟩,⟨x,rfl⟩,AA,b,HF.out,hz,HK.out⟩
   ·
    skip
    go_simp;refine (Ao _ _ _ 8 (KX.keep DK) (by omega)).mono ?_;rintro e wb ⟨y,rfl,yl,yh,Zs,gb⟩;have KB:=(K5.trans DK).grown gb (fun k hk=>by have:=Option.some.inj hk;omega);have Tl:=(gb.block w.heap.size (by show w.heap.size<wc.heap.size;omega) (fun e=>by have:=Option.some.inj e;omega)).trans hR5;have DB':=(gb.block D (by show D<wc.heap.size;omega) (fun e=>by have:=Option.some.inj e;omega)).trans hD5;have FB:=(f5.on (CV.keep DK)).on (CV.grown gb (by omega));have zb:wc.heap.size<=wb.heap.size:=gb.size;have a0:wb.cell? ⟨D,0,none⟩=some (.slice aW AA.length cW):=by rw[cell_of_row wb _ 0 _ _ _ DB'];rfl
    have a1:wb.cell? ⟨D,1,none⟩=some (.slice aP b.AM.length cP):=by rw[cell_of_row wb _ 1 _ _ _ DB'];rfl
    have a2:wb.cell? ⟨D,2,none⟩=some (.slice aL b.AQ.length cL):=by rw[cell_of_row wb _ 2 _ _ _ DB'];rfl
    have a3:wb.cell? ⟨D,3,none⟩=some (.slice aN b.AH.length cN'):=by rw[cell_of_row wb _ 3 _ _ _ DB'];rfl
    have a4:wb.cell? ⟨D,4,none⟩=some (.slice aX b.AL.length cX):=by rw[cell_of_row wb _ 4 _ _ _ DB'];rfl
    have a5:wb.cell? ⟨D,5,none⟩=some (.slice aT b.sn.length cT):=by rw[cell_of_row wb _ 5 _ _ _ DB'];rfl
    have a6:wb.cell? ⟨D,6,none⟩=some (.slice aF b.fr.length cF):=by rw[cell_of_row wb _ 6 _ _ _ DB'];rfl
    have a7:wb.cell? ⟨D,7,none⟩=some (.slice aR b.rws.length cR):=by rw[cell_of_row wb _ 7 _ _ _ DB'];rfl
    go_wp2_with fail
    refine hK.out _ _ ?_ (fun hHeld=>?_)
    . exact⟨a0,a1,a2,a3,a4,a5,a6,a7⟩
    clear hK K;refine wpAnyH_ready (rs:=[1,6]) (by kernel_rfl) (by simp) ?_;refine AllReadyH.cons rfl (fun K hK=>?_) (AllReadyH.cons rfl (fun K hK=>?_) AllReadyH.nil)
    ·
     skip
     go_simp;have kc:AC wb (wb.alloc (.cells #[.int .i64 (-1),.int .i64 0,.int .i64 2,.int .i64 3,.int .i64 9,.int .i64 10,.int .i64 12,.int .i64 13] 2)):=(AC.refl _).alloc _;have KC:=KB.trans kc;have RC:=(Below.block kc w.heap.size (by omega)).trans Tl;have DC:=(Below.block kc D (by omega)).trans DB';have FC:=FB.on (CV.keep kc);have NC:(wb.alloc (.cells #[.int .i64 (-1),.int .i64 0,.int .i64 2,.int .i64 3,.int .i64 9,.int .i64 10,.int .i64 12,.int .i64 13] 2)).heap[wb.heap.size]? = some (.cells #[.int .i64 (-1),.int .i64 0,.int .i64 2,.int .i64 3,.int .i64 9,.int .i64 10,.int .i64 12,.int .i64 13] 2 (0,0)):=heap_alloc_new wb _;have KN:D<(wb.alloc (.cells #[.int .i64 (-1),.int .i64 0,.int .i64 2,.int .i64 3,.int .i64 9,.int .i64 10,.int .i64 12,.int .i64 13] 2)).heap.size:=by rw[AD];omega
     have v0:(wb.alloc (.cells #[.int .i64 (-1),.int .i64 0,.int .i64 2,.int .i64 3,.int .i64 9,.int .i64 10,.int .i64 12,.int .i64 13] 2)).cell? ⟨D,0,none⟩=some (.slice aW AA.length cW):=by rw[cell_of_row (wb.alloc (.cells #[.int .i64 (-1),.int .i64 0,.int .i64 2,.int .i64 3,.int .i64 9,.int .i64 10,.int .i64 12,.int .i64 13] 2)) _ 0 _ _ _ DC];rfl
     have v1:(wb.alloc (.cells #[.int .i64 (-1),.int .i64 0,.int .i64 2,.int .i64 3,.int .i64 9,.int .i64 10,.int .i64 12,.int .i64 13] 2)).cell? ⟨D,1,none⟩=some (.slice aP b.AM.length cP):=by rw[cell_of_row (wb.alloc (.cells #[.int .i64 (-1),.int .i64 0,.int .i64 2,.int .i64 3,.int .i64 9,.int .i64 10,.int .i64 12,.int .i64 13] 2)) _ 1 _ _ _ DC];rfl
     have v2:(wb.alloc (.cells #[.int .i64 (-1),.int .i64 0,.int .i64 2,.int .i64 3,.int .i64 9,.int .i64 10,.int .i64 12,.int .i64 13] 2)).cell? ⟨D,2,none⟩=some (.slice aL b.AQ.length cL):=by rw[cell_of_row (wb.alloc (.cells #[.int .i64 (-1),.int .i64 0,.int .i64 2,.int .i64 3,.int .i64 9,.int .i64 10,.int .i64 12,.int .i64 13] 2)) _ 2 _ _ _ DC];rfl
     have v3:(wb.alloc (.cells #[.int .i64 (-1),.int .i64 0,.int .i64 2,.int .i64 3,.int .i64 9,.int .i64 10,.int .i64 12,.int .i64 13] 2)).cell? ⟨D,3,none⟩=some (.slice aN b.AH.length cN'):=by rw[cell_of_row (wb.alloc (.cells #[.int .i64 (-1),.int .i64 0,.int .i64 2,.int .i64 3,.int .i64 9,.int .i64 10,.int .i64 12,.int .i64 13] 2)) _ 3 _ _ _ DC];rfl
     have v4:(wb.alloc (.cells #[.int .i64 (-1),.int .i64 0,.int .i64 2,.int .i64 3,.int .i64 9,.int .i64 10,.int .i64 12,.int .i64 13] 2)).cell? ⟨D,4,none⟩=some (.slice aX b.AL.length cX):=by rw[cell_of_row (wb.alloc (.cells #[.int .i64 (-1),.int .i64 0,.int .i64 2,.int .i64 3,.int .i64 9,.int .i64 10,.int .i64 12,.int .i64 13] 2)) _ 4 _ _ _ DC];rfl
     have v5:(wb.alloc (.cells #[.int .i64 (-1),.int .i64 0,.int .i64 2,.int .i64 3,.int .i64 9,.int .i64 10,.int .i64 12,.int .i64 13] 2)).cell? ⟨D,5,none⟩=some (.slice aT b.sn.length cT):=by rw[cell_of_row (wb.alloc (.cells #[.int .i64 (-1),.int .i64 0,.int .i64 2,.int .i64 3,.int .i64 9,.int .i64 10,.int .i64 12,.int .i64 13] 2)) _ 5 _ _ _ DC];rfl
     have v6:(wb.alloc (.cells #[.int .i64 (-1),.int .i64 0,.int .i64 2,.int .i64 3,.int .i64 9,.int .i64 10,.int .i64 12,.int .i64 13] 2)).cell? ⟨D,6,none⟩=some (.slice aF b.fr.length cF):=by rw[cell_of_row (wb.alloc (.cells #[.int .i64 (-1),.int .i64 0,.int .i64 2,.int .i64 3,.int .i64 9,.int .i64 10,.int .i64 12,.int .i64 13] 2)) _ 6 _ _ _ DC];rfl
     have v7:(wb.alloc (.cells #[.int .i64 (-1),.int .i64 0,.int .i64 2,.int .i64 3,.int .i64 9,.int .i64 10,.int .i64 12,.int .i64 13] 2)).cell? ⟨D,7,none⟩=some (.slice aR b.rws.length cR):=by rw[cell_of_row (wb.alloc (.cells #[.int .i64 (-1),.int .i64 0,.int .i64 2,.int .i64 3,.int .i64 9,.int .i64 10,.int .i64 12,.int .i64 13] 2)) _ 7 _ _ _ DC];rfl
     refine hK.out _ _ ?_ (fun hHeld=>?_)
     . exact⟨v0,v1,v2,v3,v4,v5,v6,v7⟩
     clear hK K;obtain⟨j,rfl⟩:∃j:Nat,y=(j:Int):=⟨y.toNat,by omega⟩;have j8:j<8:=by omega
     obtain⟨x,hx⟩:∃x:Int,(wb.alloc (.cells #[.int .i64 (-1),.int .i64 0,.int .i64 2,.int .i64 3,.int .i64 9,.int .i64 10,.int .i64 12,.int .i64 13] 2)).cell? ⟨wb.heap.size,j,none⟩=some (.int .i64 x):=by
      have h8:j=0\/j=1\/j=2\/j=3\/j=4\/j=5\/j=6\/j=7:=by omega
      rcases h8 with rfl|rfl|rfl|rfl|rfl|rfl|rfl|rfl
      . exact⟨(-1),by rw[cell_of_row _ _ 0 _ _ _ NC];rfl⟩
      . exact⟨0,by rw[cell_of_row _ _ 1 _ _ _ NC];rfl⟩
      . exact⟨2,by rw[cell_of_row _ _ 2 _ _ _ NC];rfl⟩
      . exact⟨3,by rw[cell_of_row _ _ 3 _ _ _ NC];rfl⟩
      . exact⟨9,by rw[cell_of_row _ _ 4 _ _ _ NC];rfl⟩
      . exact⟨10,by rw[cell_of_row _ _ 5 _ _ _ NC];rfl⟩
      . exact⟨12,by rw[cell_of_row _ _ 6 _ _ _ NC];rfl⟩
      . exact⟨13,by rw[cell_of_row _ _ 7 _ _ _ NC];rfl⟩
     have i1:(0:Int)<=(j:Int):=Int.natCast_nonneg _;have i2:(j:Int)<8:=by omega
     have jG:wb.heap.size<(wb.alloc (.cells #[.int .i64 (-1),.int .i64 0,.int .i64 2,.int .i64 3,.int .i64 9,.int .i64 10,.int .i64 12,.int .i64 13] 2)).heap.size:=(Array.getElem?_eq_some_iff.1 NC).1;have zY:w.heap.size<wb.heap.size:=by omega
     have HG:=Lib.hid (AV (wb.alloc (.cells #[.int .i64 (-1),.int .i64 0,.int .i64 2,.int .i64 3,.int .i64 9,.int .i64 10,.int .i64 12,.int .i64 13] 2)) w.heap.size #[.slice aW AA.length cW,.slice aP b.AM.length cP,.slice aL b.AQ.length cL,.slice aN b.AH.length cN',.slice aX b.AL.length cX,.slice aT b.sn.length cT,.slice aF b.fr.length cF,.slice aR b.rws.length cR]);have HZ:=Lib.hid (setRow_heap (wb.alloc (.cells #[.int .i64 (-1),.int .i64 0,.int .i64 2,.int .i64 3,.int .i64 9,.int .i64 10,.int .i64 12,.int .i64 13] 2)) w.heap.size _ #[.slice aW AA.length cW,.slice aP b.AM.length cP,.slice aL b.AQ.length cL,.slice aN b.AH.length cN',.slice aX b.AL.length cX,.slice aT b.sn.length cT,.slice aF b.fr.length cF,.slice aR b.rws.length cR] _ _ RC);have HF:=Lib.hid ((FC.on (CV.grown HG.out (by omega))).mono (show w.heap.size+1<=w.heap.size+2 by omega));have HK:=Lib.hid (KC.grown HG.out (fun k hk=>by have:=Option.some.inj hk;omega));have HX:=Lib.hid hx;have HX2:=Lib.hid ((World.cell?_of_block (HG.out.block wb.heap.size jG (fun e=>by have:=Option.some.inj e;omega))).trans hx);have HS1:=Lib.hid (show (fun w'=>w'.cell? ⟨D,0,none⟩=some (.slice aW AA.length cW)/\w'.cell? ⟨D,1,none⟩=some (.slice aP b.AM.length cP)/\w'.cell? ⟨D,2,none⟩=some (.slice aL b.AQ.length cL)/\w'.cell? ⟨D,3,none⟩=some (.slice aN b.AH.length cN')/\w'.cell? ⟨D,4,none⟩=some (.slice aX b.AL.length cX)/\w'.cell? ⟨D,5,none⟩=some (.slice aT b.sn.length cT)/\w'.cell? ⟨D,6,none⟩=some (.slice aF b.fr.length cF)/\w'.cell? ⟨D,7,none⟩=some (.slice aR b.rws.length cR)) (wb.alloc (.cells #[.int .i64 (-1),.int .i64 0,.int .i64 2,.int .i64 3,.int .i64 9,.int .i64 10,.int .i64 12,.int .i64 13] 2)) from ⟨v0,v1,v2,v3,v4,v5,v6,v7⟩);have HS2:=Lib.hid (show (fun w'=>w'.cell? ⟨D,0,none⟩=some (.slice aW AA.length cW)/\w'.cell? ⟨D,1,none⟩=some (.slice aP b.AM.length cP)/\w'.cell? ⟨D,2,none⟩=some (.slice aL b.AQ.length cL)/\w'.cell? ⟨D,3,none⟩=some (.slice aN b.AH.length cN')/\w'.cell? ⟨D,4,none⟩=some (.slice aX b.AL.length cX)/\w'.cell? ⟨D,5,none⟩=some (.slice aT b.sn.length cT)/\w'.cell? ⟨D,6,none⟩=some (.slice aF b.fr.length cF)/\w'.cell? ⟨D,7,none⟩=some (.slice aR b.rws.length cR)) ((wb.alloc (.cells #[.int .i64 (-1),.int .i64 0,.int .i64 2,.int .i64 3,.int .i64 9,.int .i64 10,.int .i64 12,.int .i64 13] 2)).setRow w.heap.size #[.slice aW AA.length cW,.slice aP b.AM.length cP,.slice aL b.AQ.length cL,.slice aN b.AH.length cN',.slice aX b.AL.length cX,.slice aT b.sn.length cT,.slice aF b.fr.length cF,.slice aR b.rws.length cR]) from ⟨(World.cell?_of_block (HG.out.block D KN (fun e=>by have:=Option.some.inj e;omega))).trans v0,(World.cell?_of_block (HG.out.block D KN (fun e=>by have:=Option.some.inj e;omega))).trans v1,(World.cell?_of_block (HG.out.block D KN (fun e=>by have:=Option.some.inj e;omega))).trans v2,(World.cell?_of_block (HG.out.block D KN (fun e=>by have:=Option.some.inj e;omega))).trans v3,(World.cell?_of_block (HG.out.block D KN (fun e=>by have:=Option.some.inj e;omega))).trans v4,(World.cell?_of_block (HG.out.block D KN (fun e=>by have:=Option.some.inj e;omega))).trans v5,(World.cell?_of_block (HG.out.block D KN (fun e=>by have:=Option.some.inj e;omega))).trans v6,(World.cell?_of_block (HG.out.block D KN (fun e=>by have:=Option.some.inj e;omega))).trans v7⟩);clear hx hHeld;refine wpAnyH_ready (rs:=[4,6]) (by kernel_rfl) (by simp) ?_;refine AllReadyH.cons rfl (fun K hK=>?_) (AllReadyH.cons rfl (fun K hK=>?_) (AllReadyH.nil))
     ·
      skip
      go_simp;refine hK.out _ _ ?_ (fun hHeld=>?_)
      . exact HS1.out
      clear hK K hHeld;refine wpAnyH_ready (rs:=[5,6]) (by kernel_rfl) (by simp) ?_;refine AllReadyH.cons rfl (fun K hK=>?_) (AllReadyH.cons rfl (fun K hK=>?_) (AllReadyH.nil))
      ·
       skip
       have hx:=HX.out;go_simp;refine hK.out _ _ ?_ (fun hHeld=>?_)
       . exact HS1.out
       clear hK K hHeld hx;refine wpAnyH_ready (rs:=[6]) (by kernel_rfl) (by simp) ?_;refine AllReadyH.cons rfl (fun K hK=>?_) (AllReadyH.nil);rw[if_pos (by simp[Region.wanted])];refine wp_store_row 30 _ _ rfl w.heap.size _ rfl rfl 30 _ RC AF rfl (by simp[Value.oneCell']) ?_;refine hK.out _ _ ?_ (fun hHeld=>?_)
       . exact HS2.out
       clear hK K hHeld;simp only[Act.put];have hHeld:=HS2.out;refine AO 7 3 (v:=?_) ?_ ?_;rotate_left
       ·
        intro wx hSw;go_simp;with_reducible rfl
       simp only[Act.put,List.setIfInBounds_toArray];refine wpAnyH_done (by kernel_rfl) ?_ _;go_wp2_with fail
       refine bodyPost_ret (AZ (by rfl) _ _ w.heap.size _ _ (0,0) _ (.int .i64 x) rfl HZ.out rfl Tryz.underlying30 rfl AF) rfl ?_
       first
        |exact⟨⟨.slice aW AA.length cW,.slice aP b.AM.length cP,.slice aL b.AQ.length cL,.slice aN b.AH.length cN',.slice aX b.AL.length cX,.slice aT b.sn.length cT,.slice aF b.fr.length cF,.slice aR b.rws.length cR⟩,AA,b,x,rfl,HF.out,hz,HK.out⟩
        |exact⟨⟨.slice aW AA.length cW,.slice aP b.AM.length cP,.slice aL b.AQ.length cL,.slice aN b.AH.length cN',.slice aX b.AL.length cX,.slice aT b.sn.length cT,.slice aF b.fr.length cF,.slice aR b.rws.length cR⟩,⟨x,rfl⟩,AA,b,HF.out,hz,HK.out⟩
      ·
       skip
       rw[if_pos (by simp[Region.wanted])];refine wp_store_row 30 _ _ rfl w.heap.size _ rfl rfl 30 _ RC AF rfl (by simp[Value.oneCell']) ?_;refine hK.out _ _ ?_ (fun hHeld=>?_)
       . exact HS2.out
       clear hK K hHeld;simp only[Act.put];refine wpAnyH_ready (rs:=[5]) (by kernel_rfl) (by simp) ?_;refine AllReadyH.cons rfl (fun K hK=>?_) (AllReadyH.nil);have hx:=HX2.out;go_simp;refine hK.out _ _ ?_ (fun hHeld=>?_)
       . exact HS2.out
       clear hK K hHeld hx;have hHeld:=HS2.out;refine AO 7 3 (v:=?_) ?_ ?_;rotate_left
       ·
        intro wx hSw;go_simp;with_reducible rfl
       simp only[Act.put,List.setIfInBounds_toArray];refine wpAnyH_done (by kernel_rfl) ?_ _;go_wp2_with fail
       refine bodyPost_ret (AZ (by rfl) _ _ w.heap.size _ _ (0,0) _ (.int .i64 x) rfl HZ.out rfl Tryz.underlying30 rfl AF) rfl ?_
       first
        |exact⟨⟨.slice aW AA.length cW,.slice aP b.AM.length cP,.slice aL b.AQ.length cL,.slice aN b.AH.length cN',.slice aX b.AL.length cX,.slice aT b.sn.length cT,.slice aF b.fr.length cF,.slice aR b.rws.length cR⟩,AA,b,x,rfl,HF.out,hz,HK.out⟩
        |exact⟨⟨.slice aW AA.length cW,.slice aP b.AM.length cP,.slice aL b.AQ.length cL,.slice aN b.AH.length cN',.slice aX b.AL.length cX,.slice aT b.sn.length cT,.slice aF b.fr.length cF,.slice aR b.rws.length cR⟩,⟨x,rfl⟩,AA,b,HF.out,hz,HK.out⟩
     ·
      skip
      rw[if_pos (by simp[Region.wanted])];refine wp_store_row 30 _ _ rfl w.heap.size _ rfl rfl 30 _ RC AF rfl (by simp[Value.oneCell']) ?_;refine hK.out _ _ ?_ (fun hHeld=>?_)
      . exact HS2.out
      clear hK K hHeld;simp only[Act.put];refine wpAnyH_ready (rs:=[4]) (by kernel_rfl) (by simp) ?_;refine AllReadyH.cons rfl (fun K hK=>?_) (AllReadyH.nil);go_simp;refine hK.out _ _ ?_ (fun hHeld=>?_)
      . exact HS2.out
      clear hK K hHeld;refine wpAnyH_ready (rs:=[5]) (by kernel_rfl) (by simp) ?_;refine AllReadyH.cons rfl (fun K hK=>?_) (AllReadyH.nil);have hx:=HX2.out;go_simp;refine hK.out _ _ ?_ (fun hHeld=>?_)
      . exact HS2.out
      clear hK K hHeld hx;have hHeld:=HS2.out;refine AO 7 3 (v:=?_) ?_ ?_;rotate_left
      ·
       intro wx hSw;go_simp;with_reducible rfl
      simp only[Act.put,List.setIfInBounds_toArray];refine wpAnyH_done (by kernel_rfl) ?_ _;go_wp2_with fail
      refine bodyPost_ret (AZ (by rfl) _ _ w.heap.size _ _ (0,0) _ (.int .i64 x) rfl HZ.out rfl Tryz.underlying30 rfl AF) rfl ?_
      first
       |exact⟨⟨.slice aW AA.length cW,.slice aP b.AM.length cP,.slice aL b.AQ.length cL,.slice aN b.AH.length cN',.slice aX b.AL.length cX,.slice aT b.sn.length cT,.slice aF b.fr.length cF,.slice aR b.rws.length cR⟩,AA,b,x,rfl,HF.out,hz,HK.out⟩
       |exact⟨⟨.slice aW AA.length cW,.slice aP b.AM.length cP,.slice aL b.AQ.length cL,.slice aN b.AH.length cN',.slice aX b.AL.length cX,.slice aT b.sn.length cT,.slice aF b.fr.length cF,.slice aR b.rws.length cR⟩,⟨x,rfl⟩,AA,b,HF.out,hz,HK.out⟩
    ·
     skip
     have HG:=Lib.hid (AV wb w.heap.size #[.slice aW AA.length cW,.slice aP b.AM.length cP,.slice aL b.AQ.length cL,.slice aN b.AH.length cN',.slice aX b.AL.length cX,.slice aT b.sn.length cT,.slice aF b.fr.length cF,.slice aR b.rws.length cR]);have HZ0:=Lib.hid (setRow_heap wb w.heap.size _ #[.slice aW AA.length cW,.slice aP b.AM.length cP,.slice aL b.AQ.length cL,.slice aN b.AH.length cN',.slice aX b.AL.length cX,.slice aT b.sn.length cT,.slice aF b.fr.length cF,.slice aR b.rws.length cR] _ _ Tl);have FS:=FB.on (CV.grown HG.out (by omega));have KS:=KB.grown HG.out (fun k hk=>by have:=Option.some.inj hk;omega);have zS:D<(wb.setRow w.heap.size #[.slice aW AA.length cW,.slice aP b.AM.length cP,.slice aL b.AQ.length cL,.slice aN b.AH.length cN',.slice aX b.AL.length cX,.slice aT b.sn.length cT,.slice aF b.fr.length cF,.slice aR b.rws.length cR]).heap.size:=Nat.lt_of_lt_of_le (by omega) HG.out.size;have DS:=(HG.out.block D (by omega) (fun e=>by have:=Option.some.inj e;omega)).trans DB';rw[if_pos (by simp[Region.wanted])];refine wp_store_row 30 _ _ rfl w.heap.size _ rfl rfl 30 _ Tl AF rfl (by simp[Value.oneCell']) ?_;refine hK.out _ _ ?_ (fun hHeld=>?_)
     . exact⟨(World.cell?_of_block (HG.out.block D (by omega) (fun e=>by have:=Option.some.inj e;omega))).trans a0,(World.cell?_of_block (HG.out.block D (by omega) (fun e=>by have:=Option.some.inj e;omega))).trans a1,(World.cell?_of_block (HG.out.block D (by omega) (fun e=>by have:=Option.some.inj e;omega))).trans a2,(World.cell?_of_block (HG.out.block D (by omega) (fun e=>by have:=Option.some.inj e;omega))).trans a3,(World.cell?_of_block (HG.out.block D (by omega) (fun e=>by have:=Option.some.inj e;omega))).trans a4,(World.cell?_of_block (HG.out.block D (by omega) (fun e=>by have:=Option.some.inj e;omega))).trans a5,(World.cell?_of_block (HG.out.block D (by omega) (fun e=>by have:=Option.some.inj e;omega))).trans a6,(World.cell?_of_block (HG.out.block D (by omega) (fun e=>by have:=Option.some.inj e;omega))).trans a7⟩
     clear hK K hHeld;simp only[Act.put];refine wpAnyH_ready (rs:=[1]) (by kernel_rfl) (by simp) ?_;refine AllReadyH.cons rfl (fun K hK=>?_) AllReadyH.nil;go_simp;have kc:AC (wb.setRow w.heap.size #[.slice aW AA.length cW,.slice aP b.AM.length cP,.slice aL b.AQ.length cL,.slice aN b.AH.length cN',.slice aX b.AL.length cX,.slice aT b.sn.length cT,.slice aF b.fr.length cF,.slice aR b.rws.length cR]) ((wb.setRow w.heap.size #[.slice aW AA.length cW,.slice aP b.AM.length cP,.slice aL b.AQ.length cL,.slice aN b.AH.length cN',.slice aX b.AL.length cX,.slice aT b.sn.length cT,.slice aF b.fr.length cF,.slice aR b.rws.length cR]).alloc (.cells #[.int .i64 (-1),.int .i64 0,.int .i64 2,.int .i64 3,.int .i64 9,.int .i64 10,.int .i64 12,.int .i64 13] 2)):=(AC.refl _).alloc _;have HK:=Lib.hid (KS.trans kc);have DC:=(Below.block kc D zS).trans DS;have HF:=Lib.hid ((FS.on (CV.keep kc)).mono (show w.heap.size+1<=w.heap.size+2 by omega));have HZ:=Lib.hid ((Below.block kc w.heap.size (by omega)).trans HZ0.out);have yB:(wb.setRow w.heap.size #[.slice aW AA.length cW,.slice aP b.AM.length cP,.slice aL b.AQ.length cL,.slice aN b.AH.length cN',.slice aX b.AL.length cX,.slice aT b.sn.length cT,.slice aF b.fr.length cF,.slice aR b.rws.length cR]).heap.size=wb.heap.size:=by simp
     have NC:((wb.setRow w.heap.size #[.slice aW AA.length cW,.slice aP b.AM.length cP,.slice aL b.AQ.length cL,.slice aN b.AH.length cN',.slice aX b.AL.length cX,.slice aT b.sn.length cT,.slice aF b.fr.length cF,.slice aR b.rws.length cR]).alloc (.cells #[.int .i64 (-1),.int .i64 0,.int .i64 2,.int .i64 3,.int .i64 9,.int .i64 10,.int .i64 12,.int .i64 13] 2)).heap[(wb.setRow w.heap.size #[.slice aW AA.length cW,.slice aP b.AM.length cP,.slice aL b.AQ.length cL,.slice aN b.AH.length cN',.slice aX b.AL.length cX,.slice aT b.sn.length cT,.slice aF b.fr.length cF,.slice aR b.rws.length cR]).heap.size]? = some (.cells #[.int .i64 (-1),.int .i64 0,.int .i64 2,.int .i64 3,.int .i64 9,.int .i64 10,.int .i64 12,.int .i64 13] 2 (0,0)):=heap_alloc_new (wb.setRow w.heap.size #[.slice aW AA.length cW,.slice aP b.AM.length cP,.slice aL b.AQ.length cL,.slice aN b.AH.length cN',.slice aX b.AL.length cX,.slice aT b.sn.length cT,.slice aF b.fr.length cF,.slice aR b.rws.length cR]) _;rw[yB] at NC;clear yB;have v0:((wb.setRow w.heap.size #[.slice aW AA.length cW,.slice aP b.AM.length cP,.slice aL b.AQ.length cL,.slice aN b.AH.length cN',.slice aX b.AL.length cX,.slice aT b.sn.length cT,.slice aF b.fr.length cF,.slice aR b.rws.length cR]).alloc (.cells #[.int .i64 (-1),.int .i64 0,.int .i64 2,.int .i64 3,.int .i64 9,.int .i64 10,.int .i64 12,.int .i64 13] 2)).cell? ⟨D,0,none⟩=some (.slice aW AA.length cW):=by rw[cell_of_row ((wb.setRow w.heap.size #[.slice aW AA.length cW,.slice aP b.AM.length cP,.slice aL b.AQ.length cL,.slice aN b.AH.length cN',.slice aX b.AL.length cX,.slice aT b.sn.length cT,.slice aF b.fr.length cF,.slice aR b.rws.length cR]).alloc (.cells #[.int .i64 (-1),.int .i64 0,.int .i64 2,.int .i64 3,.int .i64 9,.int .i64 10,.int .i64 12,.int .i64 13] 2)) _ 0 _ _ _ DC];rfl
     have v1:((wb.setRow w.heap.size #[.slice aW AA.length cW,.slice aP b.AM.length cP,.slice aL b.AQ.length cL,.slice aN b.AH.length cN',.slice aX b.AL.length cX,.slice aT b.sn.length cT,.slice aF b.fr.length cF,.slice aR b.rws.length cR]).alloc (.cells #[.int .i64 (-1),.int .i64 0,.int .i64 2,.int .i64 3,.int .i64 9,.int .i64 10,.int .i64 12,.int .i64 13] 2)).cell? ⟨D,1,none⟩=some (.slice aP b.AM.length cP):=by rw[cell_of_row ((wb.setRow w.heap.size #[.slice aW AA.length cW,.slice aP b.AM.length cP,.slice aL b.AQ.length cL,.slice aN b.AH.length cN',.slice aX b.AL.length cX,.slice aT b.sn.length cT,.slice aF b.fr.length cF,.slice aR b.rws.length cR]).alloc (.cells #[.int .i64 (-1),.int .i64 0,.int .i64 2,.int .i64 3,.int .i64 9,.int .i64 10,.int .i64 12,.int .i64 13] 2)) _ 1 _ _ _ DC];rfl
     have v2:((wb.setRow w.heap.size #[.slice aW AA.length cW,.slice aP b.AM.length cP,.slice aL b.AQ.length cL,.slice aN b.AH.length cN',.slice aX b.AL.length cX,.slice aT b.sn.length cT,.slice aF b.fr.length cF,.slice aR b.rws.length cR]).alloc (.cells #[.int .i64 (-1),.int .i64 0,.int .i64 2,.int .i64 3,.int .i64 9,.int .i64 10,.int .i64 12,.int .i64 13] 2)).cell? ⟨D,2,none⟩=some (.slice aL b.AQ.length cL):=by rw[cell_of_row ((wb.setRow w.heap.size #[.slice aW AA.length cW,.slice aP b.AM.length cP,.slice aL b.AQ.length cL,.slice aN b.AH.length cN',.slice aX b.AL.length cX,.slice aT b.sn.length cT,.slice aF b.fr.length cF,.slice aR b.rws.length cR]).alloc (.cells #[.int .i64 (-1),.int .i64 0,.int .i64 2,.int .i64 3,.int .i64 9,.int .i64 10,.int .i64 12,.int .i64 13] 2)) _ 2 _ _ _ DC];rfl
     have v3:((wb.setRow w.heap.size #[.slice aW AA.length cW,.slice aP b.AM.length cP,.slice aL b.AQ.length cL,.slice aN b.AH.length cN',.slice aX b.AL.length cX,.slice aT b.sn.length cT,.slice aF b.fr.length cF,.slice aR b.rws.length cR]).alloc (.cells #[.int .i64 (-1),.int .i64 0,.int .i64 2,.int .i64 3,.int .i64 9,.int .i64 10,.int .i64 12,.int .i64 13] 2)).cell? ⟨D,3,none⟩=some (.slice aN b.AH.length cN'):=by rw[cell_of_row ((wb.setRow w.heap.size #[.slice aW AA.length cW,.slice aP b.AM.length cP,.slice aL b.AQ.length cL,.slice aN b.AH.length cN',.slice aX b.AL.length cX,.slice aT b.sn.length cT,.slice aF b.fr.length cF,.slice aR b.rws.length cR]).alloc (.cells #[.int .i64 (-1),.int .i64 0,.int .i64 2,.int .i64 3,.int .i64 9,.int .i64 10,.int .i64 12,.int .i64 13] 2)) _ 3 _ _ _ DC];rfl
     have v4:((wb.setRow w.heap.size #[.slice aW AA.length cW,.slice aP b.AM.length cP,.slice aL b.AQ.length cL,.slice aN b.AH.length cN',.slice aX b.AL.length cX,.slice aT b.sn.length cT,.slice aF b.fr.length cF,.slice aR b.rws.length cR]).alloc (.cells #[.int .i64 (-1),.int .i64 0,.int .i64 2,.int .i64 3,.int .i64 9,.int .i64 10,.int .i64 12,.int .i64 13] 2)).cell? ⟨D,4,none⟩=some (.slice aX b.AL.length cX):=by rw[cell_of_row ((wb.setRow w.heap.size #[.slice aW AA.length cW,.slice aP b.AM.length cP,.slice aL b.AQ.length cL,.slice aN b.AH.length cN',.slice aX b.AL.length cX,.slice aT b.sn.length cT,.slice aF b.fr.length cF,.slice aR b.rws.length cR]).alloc (.cells #[.int .i64 (-1),.int .i64 0,.int .i64 2,.int .i64 3,.int .i64 9,.int .i64 10,.int .i64 12,.int .i64 13] 2)) _ 4 _ _ _ DC];rfl
     have v5:((wb.setRow w.heap.size #[.slice aW AA.length cW,.slice aP b.AM.length cP,.slice aL b.AQ.length cL,.slice aN b.AH.length cN',.slice aX b.AL.length cX,.slice aT b.sn.length cT,.slice aF b.fr.length cF,.slice aR b.rws.length cR]).alloc (.cells #[.int .i64 (-1),.int .i64 0,.int .i64 2,.int .i64 3,.int .i64 9,.int .i64 10,.int .i64 12,.int .i64 13] 2)).cell? ⟨D,5,none⟩=some (.slice aT b.sn.length cT):=by rw[cell_of_row ((wb.setRow w.heap.size #[.slice aW AA.length cW,.slice aP b.AM.length cP,.slice aL b.AQ.length cL,.slice aN b.AH.length cN',.slice aX b.AL.length cX,.slice aT b.sn.length cT,.slice aF b.fr.length cF,.slice aR b.rws.length cR]).alloc (.cells #[.int .i64 (-1),.int .i64 0,.int .i64 2,.int .i64 3,.int .i64 9,.int .i64 10,.int .i64 12,.int .i64 13] 2)) _ 5 _ _ _ DC];rfl
     have v6:((wb.setRow w.heap.size #[.slice aW AA.length cW,.slice aP b.AM.length cP,.slice aL b.AQ.length cL,.slice aN b.AH.length cN',.slice aX b.AL.length cX,.slice aT b.sn.length cT,.slice aF b.fr.length cF,.slice aR b.rws.length cR]).alloc (.cells #[.int .i64 (-1),.int .i64 0,.int .i64 2,.int .i64 3,.int .i64 9,.int .i64 10,.int .i64 12,.int .i64 13] 2)).cell? ⟨D,6,none⟩=some (.slice aF b.fr.length cF):=by rw[cell_of_row ((wb.setRow w.heap.size #[.slice aW AA.length cW,.slice aP b.AM.length cP,.slice aL b.AQ.length cL,.slice aN b.AH.length cN',.slice aX b.AL.length cX,.slice aT b.sn.length cT,.slice aF b.fr.length cF,.slice aR b.rws.length cR]).alloc (.cells #[.int .i64 (-1),.int .i64 0,.int .i64 2,.int .i64 3,.int .i64 9,.int .i64 10,.int .i64 12,.int .i64 13] 2)) _ 6 _ _ _ DC];rfl
     have v7:((wb.setRow w.heap.size #[.slice aW AA.length cW,.slice aP b.AM.length cP,.slice aL b.AQ.length cL,.slice aN b.AH.length cN',.slice aX b.AL.length cX,.slice aT b.sn.length cT,.slice aF b.fr.length cF,.slice aR b.rws.length cR]).alloc (.cells #[.int .i64 (-1),.int .i64 0,.int .i64 2,.int .i64 3,.int .i64 9,.int .i64 10,.int .i64 12,.int .i64 13] 2)).cell? ⟨D,7,none⟩=some (.slice aR b.rws.length cR):=by rw[cell_of_row ((wb.setRow w.heap.size #[.slice aW AA.length cW,.slice aP b.AM.length cP,.slice aL b.AQ.length cL,.slice aN b.AH.length cN',.slice aX b.AL.length cX,.slice aT b.sn.length cT,.slice aF b.fr.length cF,.slice aR b.rws.length cR]).alloc (.cells #[.int .i64 (-1),.int .i64 0,.int .i64 2,.int .i64 3,.int .i64 9,.int .i64 10,.int .i64 12,.int .i64 13] 2)) _ 7 _ _ _ DC];rfl
     refine hK.out _ _ ?_ (fun hHeld=>?_)
     . exact⟨v0,v1,v2,v3,v4,v5,v6,v7⟩
     clear hK K hHeld;obtain⟨j,rfl⟩:∃j:Nat,y=(j:Int):=⟨y.toNat,by omega⟩;have j8:j<8:=by omega
     obtain⟨x,hx⟩:∃x:Int,((wb.setRow w.heap.size #[.slice aW AA.length cW,.slice aP b.AM.length cP,.slice aL b.AQ.length cL,.slice aN b.AH.length cN',.slice aX b.AL.length cX,.slice aT b.sn.length cT,.slice aF b.fr.length cF,.slice aR b.rws.length cR]).alloc (.cells #[.int .i64 (-1),.int .i64 0,.int .i64 2,.int .i64 3,.int .i64 9,.int .i64 10,.int .i64 12,.int .i64 13] 2)).cell? ⟨wb.heap.size,j,none⟩=some (.int .i64 x):=by
      have h8:j=0\/j=1\/j=2\/j=3\/j=4\/j=5\/j=6\/j=7:=by omega
      rcases h8 with rfl|rfl|rfl|rfl|rfl|rfl|rfl|rfl
      . exact⟨(-1),by rw[cell_of_row _ _ 0 _ _ _ NC];rfl⟩
      . exact⟨0,by rw[cell_of_row _ _ 1 _ _ _ NC];rfl⟩
      . exact⟨2,by rw[cell_of_row _ _ 2 _ _ _ NC];rfl⟩
      . exact⟨3,by rw[cell_of_row _ _ 3 _ _ _ NC];rfl⟩
      . exact⟨9,by rw[cell_of_row _ _ 4 _ _ _ NC];rfl⟩
      . exact⟨10,by rw[cell_of_row _ _ 5 _ _ _ NC];rfl⟩
      . exact⟨12,by rw[cell_of_row _ _ 6 _ _ _ NC];rfl⟩
      . exact⟨13,by rw[cell_of_row _ _ 7 _ _ _ NC];rfl⟩
     have i1:(0:Int)<=(j:Int):=Int.natCast_nonneg _;have i2:(j:Int)<8:=by omega
     generalize ((wb.setRow w.heap.size #[.slice aW AA.length cW,.slice aP b.AM.length cP,.slice aL b.AQ.length cL,.slice aN b.AH.length cN',.slice aX b.AL.length cX,.slice aT b.sn.length cT,.slice aF b.fr.length cF,.slice aR b.rws.length cR]).alloc (.cells #[.int .i64 (-1),.int .i64 0,.int .i64 2,.int .i64 3,.int .i64 9,.int .i64 10,.int .i64 12,.int .i64 13] 2))=wT at *;refine wpAnyH_ready (rs:=[4]) (by kernel_rfl) (by simp) ?_;refine AllReadyH.cons rfl (fun K hK=>?_) AllReadyH.nil;go_simp;refine hK.out _ _ ?_ (fun hHeld=>?_)
     . exact⟨v0,v1,v2,v3,v4,v5,v6,v7⟩
     clear hK K hHeld;refine wpAnyH_ready (rs:=[5]) (by kernel_rfl) (by simp) ?_;refine AllReadyH.cons rfl (fun K hK=>?_) AllReadyH.nil;go_simp;refine hK.out _ _ ?_ (fun hHeld=>?_)
     . exact⟨v0,v1,v2,v3,v4,v5,v6,v7⟩
     clear hK K;refine AO 7 3 (v:=?_) ?_ ?_;rotate_left
     ·
      intro wx hSw;go_simp;with_reducible rfl
     simp only[Act.put,List.setIfInBounds_toArray,List.set_cons_zero,List.set_cons_succ];refine wpAnyH_done (by kernel_rfl) ?_ _;go_wp2_with fail
     refine bodyPost_ret (AZ (by rfl) _ _ w.heap.size _ _ (0,0) _ (.int .i64 x) rfl HZ.out rfl Tryz.underlying30 rfl AF) rfl ?_
     first
      |exact⟨⟨.slice aW AA.length cW,.slice aP b.AM.length cP,.slice aL b.AQ.length cL,.slice aN b.AH.length cN',.slice aX b.AL.length cX,.slice aT b.sn.length cT,.slice aF b.fr.length cF,.slice aR b.rws.length cR⟩,AA,b,x,rfl,HF.out,hz,HK.out⟩
      |exact⟨⟨.slice aW AA.length cW,.slice aP b.AM.length cP,.slice aL b.AQ.length cL,.slice aN b.AH.length cN',.slice aX b.AL.length cX,.slice aT b.sn.length cT,.slice aF b.fr.length cF,.slice aR b.rws.length cR⟩,⟨x,rfl⟩,AA,b,HF.out,hz,HK.out⟩
  ·
   replace hl:=hl rfl;obtain⟨a',c',e',hp⟩:=hpw;simp only[Value.slice.injEq,true_and] at e';obtain⟨rfl,rfl⟩:=e';rcases hp with h0|⟨bp,oo,rfl,lU,hcp5⟩
   . exfalso;rw[h0] at hl;simp at hl
   have hb3:w3.heap.size<=bp:=hge bp rfl;clear hge;go_upto_region 6 with fail
   have u0:wc.cell? ⟨D,0,none⟩=some (.slice aW AA.length cW):=by rw[cell_of_row wc _ 0 _ _ _ hD5];rfl
   have u1:wc.cell? ⟨D,1,none⟩=some (.slice aP b.AM.length cP):=by rw[cell_of_row wc _ 1 _ _ _ hD5];rfl
   have u2:wc.cell? ⟨D,2,none⟩=some (.slice aL b.AQ.length cL):=by rw[cell_of_row wc _ 2 _ _ _ hD5];rfl
   have u3:wc.cell? ⟨D,3,none⟩=some (.slice aN b.AH.length cN'):=by rw[cell_of_row wc _ 3 _ _ _ hD5];rfl
   have u4:wc.cell? ⟨D,4,none⟩=some (.slice aX b.AL.length cX):=by rw[cell_of_row wc _ 4 _ _ _ hD5];rfl
   have u5:wc.cell? ⟨D,5,none⟩=some (.slice aT b.sn.length cT):=by rw[cell_of_row wc _ 5 _ _ _ hD5];rfl
   have u6:wc.cell? ⟨D,6,none⟩=some (.slice aF b.fr.length cF):=by rw[cell_of_row wc _ 6 _ _ _ hD5];rfl
   have u7:wc.cell? ⟨D,7,none⟩=some (.slice aR b.rws.length cR):=by rw[cell_of_row wc _ 7 _ _ _ hD5];rfl
   have uL:∀i,i<L.length->wc.cell? ⟨bp,oo+i,none⟩=some (.int .i64 (L.getD i 0)):=hcp5;have DK:AC wc wc.drew:=(AC.refl wc).drew;refine wp_region_held_drew (S:=(fun w'=>w'.cell? ⟨D,0,none⟩=some (.slice aW AA.length cW)/\w'.cell? ⟨D,1,none⟩=some (.slice aP b.AM.length cP)/\w'.cell? ⟨D,2,none⟩=some (.slice aL b.AQ.length cL)/\w'.cell? ⟨D,3,none⟩=some (.slice aN b.AH.length cN')/\w'.cell? ⟨D,4,none⟩=some (.slice aX b.AL.length cX)/\w'.cell? ⟨D,5,none⟩=some (.slice aT b.sn.length cT)/\w'.cell? ⟨D,6,none⟩=some (.slice aF b.fr.length cF)/\w'.cell? ⟨D,7,none⟩=some (.slice aR b.rws.length cR)/\∀i,i<L.length->w'.cell? ⟨bp,oo+i,none⟩=some (.int .i64 (L.getD i 0)))) (by kernel_rfl) ?_ (fun hHeld=>?_)
   . exact⟨u0,u1,u2,u3,u4,u5,u6,u7,uL⟩
   refine AO 0 23 (v:=?_) ?_ ?_;rotate_left
   ·
    intro wx hSw;go_simp;with_reducible rfl
   simp only[Act.put,List.setIfInBounds_toArray,List.set_cons_zero,List.set_cons_succ];refine AO 1 24 (v:=?_) ?_ ?_;rotate_left
   ·
    intro wx hSw;go_simp;with_reducible rfl
   simp only[Act.put,List.setIfInBounds_toArray,List.set_cons_zero,List.set_cons_succ];refine AO 2 25 (v:=?_) ?_ ?_;rotate_left
   ·
    intro wx hSw;go_simp;with_reducible rfl
   simp only[Act.put,List.setIfInBounds_toArray,List.set_cons_zero,List.set_cons_succ];refine AO 3 26 (v:=?_) ?_ ?_;rotate_left
   ·
    intro wx hSw;go_simp;with_reducible rfl
   simp only[Act.put,List.setIfInBounds_toArray,List.set_cons_zero,List.set_cons_succ];refine wpAnyH_ready (rs:=[4]) (by kernel_rfl) (by simp) ?_;refine AllReadyH.cons rfl (fun K hK=>?_) AllReadyH.nil;go_simp;refine (Ao _ _ _ _ (KX.keep DK) (by omega)).mono ?_;rintro e wb ⟨y,rfl,yl,yh,Zs,gb⟩;have KB:=(K5.trans DK).grown gb (fun k hk=>by have:=Option.some.inj hk;omega);have Tl:=(gb.block w.heap.size (by show w.heap.size<wc.heap.size;omega) (fun e=>by have:=Option.some.inj e;omega)).trans hR5;have DB':=(gb.block D (by show D<wc.heap.size;omega) (fun e=>by have:=Option.some.inj e;omega)).trans hD5;have FB:=(f5.on (CV.keep DK)).on (CV.grown gb (by omega));have KN:D<wb.heap.size:=Nat.lt_of_lt_of_le (show D<wc.heap.size by omega) gb.size;have vL:∀i,i<L.length->wb.cell? ⟨bp,oo+i,none⟩=some (.int .i64 (L.getD i 0)):=fun i hi=>(World.cell?_of_block (gb.block bp lU (fun e=>by have:=Option.some.inj e;omega))).trans (uL i hi)
   have v0:wb.cell? ⟨D,0,none⟩=some (.slice aW AA.length cW):=by rw[cell_of_row wb _ 0 _ _ _ DB'];rfl
   have v1:wb.cell? ⟨D,1,none⟩=some (.slice aP b.AM.length cP):=by rw[cell_of_row wb _ 1 _ _ _ DB'];rfl
   have v2:wb.cell? ⟨D,2,none⟩=some (.slice aL b.AQ.length cL):=by rw[cell_of_row wb _ 2 _ _ _ DB'];rfl
   have v3:wb.cell? ⟨D,3,none⟩=some (.slice aN b.AH.length cN'):=by rw[cell_of_row wb _ 3 _ _ _ DB'];rfl
   have v4:wb.cell? ⟨D,4,none⟩=some (.slice aX b.AL.length cX):=by rw[cell_of_row wb _ 4 _ _ _ DB'];rfl
   have v5:wb.cell? ⟨D,5,none⟩=some (.slice aT b.sn.length cT):=by rw[cell_of_row wb _ 5 _ _ _ DB'];rfl
   have v6:wb.cell? ⟨D,6,none⟩=some (.slice aF b.fr.length cF):=by rw[cell_of_row wb _ 6 _ _ _ DB'];rfl
   have v7:wb.cell? ⟨D,7,none⟩=some (.slice aR b.rws.length cR):=by rw[cell_of_row wb _ 7 _ _ _ DB'];rfl
   go_wp2_with fail
   refine hK.out _ _ ?_ (fun hHeld=>?_)
   . exact⟨v0,v1,v2,v3,v4,v5,v6,v7,vL⟩
   clear hK K;obtain⟨j,rfl⟩:∃j:Nat,y=(j:Int):=⟨y.toNat,by omega⟩;have jl:j<L.length:=by omega
   have i1:(0:Int)<=(j:Int):=Int.natCast_nonneg _;have i2:(j:Int)<(L.length:Int):=by omega
   have hx:=vL j jl;have jG:bp<wb.heap.size:=Nat.lt_of_lt_of_le lU gb.size;have zY:w.heap.size<bp:=by omega
   have HG:=Lib.hid (AV wb w.heap.size #[.slice aW AA.length cW,.slice aP b.AM.length cP,.slice aL b.AQ.length cL,.slice aN b.AH.length cN',.slice aX b.AL.length cX,.slice aT b.sn.length cT,.slice aF b.fr.length cF,.slice aR b.rws.length cR]);have HZ:=Lib.hid (setRow_heap wb w.heap.size _ #[.slice aW AA.length cW,.slice aP b.AM.length cP,.slice aL b.AQ.length cL,.slice aN b.AH.length cN',.slice aX b.AL.length cX,.slice aT b.sn.length cT,.slice aF b.fr.length cF,.slice aR b.rws.length cR] _ _ Tl);have HF:=Lib.hid ((FB.on (CV.grown HG.out (by omega))).mono (show w.heap.size+1<=w.heap.size+2 by omega));have HK:=Lib.hid (KB.grown HG.out (fun k hk=>by have:=Option.some.inj hk;omega));have HX:=Lib.hid hx;have HX2:=Lib.hid ((World.cell?_of_block (HG.out.block bp jG (fun e=>by have:=Option.some.inj e;omega))).trans hx);have HS1:=Lib.hid (show (fun w'=>w'.cell? ⟨D,0,none⟩=some (.slice aW AA.length cW)/\w'.cell? ⟨D,1,none⟩=some (.slice aP b.AM.length cP)/\w'.cell? ⟨D,2,none⟩=some (.slice aL b.AQ.length cL)/\w'.cell? ⟨D,3,none⟩=some (.slice aN b.AH.length cN')/\w'.cell? ⟨D,4,none⟩=some (.slice aX b.AL.length cX)/\w'.cell? ⟨D,5,none⟩=some (.slice aT b.sn.length cT)/\w'.cell? ⟨D,6,none⟩=some (.slice aF b.fr.length cF)/\w'.cell? ⟨D,7,none⟩=some (.slice aR b.rws.length cR)/\∀i,i<L.length->w'.cell? ⟨bp,oo+i,none⟩=some (.int .i64 (L.getD i 0))) wb from ⟨v0,v1,v2,v3,v4,v5,v6,v7,vL⟩);have HS2:=Lib.hid (show (fun w'=>w'.cell? ⟨D,0,none⟩=some (.slice aW AA.length cW)/\w'.cell? ⟨D,1,none⟩=some (.slice aP b.AM.length cP)/\w'.cell? ⟨D,2,none⟩=some (.slice aL b.AQ.length cL)/\w'.cell? ⟨D,3,none⟩=some (.slice aN b.AH.length cN')/\w'.cell? ⟨D,4,none⟩=some (.slice aX b.AL.length cX)/\w'.cell? ⟨D,5,none⟩=some (.slice aT b.sn.length cT)/\w'.cell? ⟨D,6,none⟩=some (.slice aF b.fr.length cF)/\w'.cell? ⟨D,7,none⟩=some (.slice aR b.rws.length cR)/\∀i,i<L.length->w'.cell? ⟨bp,oo+i,none⟩=some (.int .i64 (L.getD i 0))) (wb.setRow w.heap.size #[.slice aW AA.length cW,.slice aP b.AM.length cP,.slice aL b.AQ.length cL,.slice aN b.AH.length cN',.slice aX b.AL.length cX,.slice aT b.sn.length cT,.slice aF b.fr.length cF,.slice aR b.rws.length cR]) from ⟨(World.cell?_of_block (HG.out.block D KN (fun e=>by have:=Option.some.inj e;omega))).trans v0,(World.cell?_of_block (HG.out.block D KN (fun e=>by have:=Option.some.inj e;omega))).trans v1,(World.cell?_of_block (HG.out.block D KN (fun e=>by have:=Option.some.inj e;omega))).trans v2,(World.cell?_of_block (HG.out.block D KN (fun e=>by have:=Option.some.inj e;omega))).trans v3,(World.cell?_of_block (HG.out.block D KN (fun e=>by have:=Option.some.inj e;omega))).trans v4,(World.cell?_of_block (HG.out.block D KN (fun e=>by have:=Option.some.inj e;omega))).trans v5,(World.cell?_of_block (HG.out.block D KN (fun e=>by have:=Option.some.inj e;omega))).trans v6,(World.cell?_of_block (HG.out.block D KN (fun e=>by have:=Option.some.inj e;omega))).trans v7,fun i hi=>(World.cell?_of_block (HG.out.block bp jG (fun e=>by have:=Option.some.inj e;omega))).trans (vL i hi)⟩);clear hx hHeld vL uL hcp5;obtain⟨X,yM⟩:∃X,X=L.getD j 0:=⟨_,rfl⟩;rw[<-yM] at HX HX2;clear yM;refine wpAnyH_ready (rs:=[5,7]) (by kernel_rfl) (by simp) ?_;refine AllReadyH.cons rfl (fun K hK=>?_) (AllReadyH.cons rfl (fun K hK=>?_) (AllReadyH.nil))
   ·
    skip
    go_simp;refine hK.out _ _ ?_ (fun hHeld=>?_)
    . exact HS1.out
    clear hK K hHeld;refine wpAnyH_ready (rs:=[6,7]) (by kernel_rfl) (by simp) ?_;refine AllReadyH.cons rfl (fun K hK=>?_) (AllReadyH.cons rfl (fun K hK=>?_) (AllReadyH.nil))
    ·
     skip
     have hx:=HX.out;go_simp;refine hK.out _ _ ?_ (fun hHeld=>?_)
     . exact HS1.out
     clear hK K hHeld hx;refine wpAnyH_ready (rs:=[7]) (by kernel_rfl) (by simp) ?_;refine AllReadyH.cons rfl (fun K hK=>?_) (AllReadyH.nil);rw[if_pos (by simp[Region.wanted])];refine wp_store_row 30 _ _ rfl w.heap.size _ rfl rfl 30 _ Tl AF rfl (by simp[Value.oneCell']) ?_;refine hK.out _ _ ?_ (fun hHeld=>?_)
     . exact HS2.out
     clear hK K hHeld;simp only[Act.put];have hHeld:=HS2.out;refine AO 8 3 (v:=?_) ?_ ?_;rotate_left
     ·
      intro wx hSw;go_simp;with_reducible rfl
     simp only[Act.put,List.setIfInBounds_toArray];refine wpAnyH_done (by kernel_rfl) ?_ _;go_wp2_with fail
     refine bodyPost_ret (AZ (by rfl) _ _ w.heap.size _ _ (0,0) _ (.int .i64 X) rfl HZ.out rfl Tryz.underlying30 rfl AF) rfl ?_
     first
      |exact⟨⟨.slice aW AA.length cW,.slice aP b.AM.length cP,.slice aL b.AQ.length cL,.slice aN b.AH.length cN',.slice aX b.AL.length cX,.slice aT b.sn.length cT,.slice aF b.fr.length cF,.slice aR b.rws.length cR⟩,AA,b,X,rfl,HF.out,hz,HK.out⟩
      |exact⟨⟨.slice aW AA.length cW,.slice aP b.AM.length cP,.slice aL b.AQ.length cL,.slice aN b.AH.length cN',.slice aX b.AL.length cX,.slice aT b.sn.length cT,.slice aF b.fr.length cF,.slice aR b.rws.length cR⟩,⟨X,rfl⟩,AA,b,HF.out,hz,HK.out⟩
    ·
     skip
     rw[if_pos (by simp[Region.wanted])];refine wp_store_row 30 _ _ rfl w.heap.size _ rfl rfl 30 _ Tl AF rfl (by simp[Value.oneCell']) ?_;refine hK.out _ _ ?_ (fun hHeld=>?_)
     . exact HS2.out
     clear hK K hHeld;simp only[Act.put];refine wpAnyH_ready (rs:=[6]) (by kernel_rfl) (by simp) ?_;refine AllReadyH.cons rfl (fun K hK=>?_) (AllReadyH.nil);have hx:=HX2.out;go_simp;refine hK.out _ _ ?_ (fun hHeld=>?_)
     . exact HS2.out
     clear hK K hHeld hx;have hHeld:=HS2.out;refine AO 8 3 (v:=?_) ?_ ?_;rotate_left
     ·
      intro wx hSw;go_simp;with_reducible rfl
     simp only[Act.put,List.setIfInBounds_toArray];refine wpAnyH_done (by kernel_rfl) ?_ _;go_wp2_with fail
     refine bodyPost_ret (AZ (by rfl) _ _ w.heap.size _ _ (0,0) _ (.int .i64 X) rfl HZ.out rfl Tryz.underlying30 rfl AF) rfl ?_
     first
      |exact⟨⟨.slice aW AA.length cW,.slice aP b.AM.length cP,.slice aL b.AQ.length cL,.slice aN b.AH.length cN',.slice aX b.AL.length cX,.slice aT b.sn.length cT,.slice aF b.fr.length cF,.slice aR b.rws.length cR⟩,AA,b,X,rfl,HF.out,hz,HK.out⟩
      |exact⟨⟨.slice aW AA.length cW,.slice aP b.AM.length cP,.slice aL b.AQ.length cL,.slice aN b.AH.length cN',.slice aX b.AL.length cX,.slice aT b.sn.length cT,.slice aF b.fr.length cF,.slice aR b.rws.length cR⟩,⟨X,rfl⟩,AA,b,HF.out,hz,HK.out⟩
   ·
    skip
    rw[if_pos (by simp[Region.wanted])];refine wp_store_row 30 _ _ rfl w.heap.size _ rfl rfl 30 _ Tl AF rfl (by simp[Value.oneCell']) ?_;refine hK.out _ _ ?_ (fun hHeld=>?_)
    . exact HS2.out
    clear hK K hHeld;simp only[Act.put];refine wpAnyH_ready (rs:=[5]) (by kernel_rfl) (by simp) ?_;refine AllReadyH.cons rfl (fun K hK=>?_) (AllReadyH.nil);go_simp;refine hK.out _ _ ?_ (fun hHeld=>?_)
    . exact HS2.out
    clear hK K hHeld;refine wpAnyH_ready (rs:=[6]) (by kernel_rfl) (by simp) ?_;refine AllReadyH.cons rfl (fun K hK=>?_) (AllReadyH.nil);have hx:=HX2.out;go_simp;refine hK.out _ _ ?_ (fun hHeld=>?_)
    . exact HS2.out
    clear hK K hHeld hx;have hHeld:=HS2.out;refine AO 8 3 (v:=?_) ?_ ?_;rotate_left
    ·
     intro wx hSw;go_simp;with_reducible rfl
    simp only[Act.put,List.setIfInBounds_toArray];refine wpAnyH_done (by kernel_rfl) ?_ _;go_wp2_with fail
    refine bodyPost_ret (AZ (by rfl) _ _ w.heap.size _ _ (0,0) _ (.int .i64 X) rfl HZ.out rfl Tryz.underlying30 rfl AF) rfl ?_
    first
     |exact⟨⟨.slice aW AA.length cW,.slice aP b.AM.length cP,.slice aL b.AQ.length cL,.slice aN b.AH.length cN',.slice aX b.AL.length cX,.slice aT b.sn.length cT,.slice aF b.fr.length cF,.slice aR b.rws.length cR⟩,AA,b,X,rfl,HF.out,hz,HK.out⟩
     |exact⟨⟨.slice aW AA.length cW,.slice aP b.AM.length cP,.slice aL b.AQ.length cL,.slice aN b.AH.length cN',.slice aX b.AL.length cX,.slice aT b.sn.length cT,.slice aF b.fr.length cF,.slice aR b.rws.length cR⟩,⟨X,rfl⟩,AA,b,HF.out,hz,HK.out⟩
end Go.Proofs.YtgakfkjjkobpiaaGreat
