/- Gathered texts. -/
import Derived.Test.YtgakfkjjkobpiaaGreatMO
set_option maxRecDepth 100000
set_option maxHeartbeats 8000000
namespace Go.Proofs.YtgakfkjjkobpiaaGreat
open Go.ChangeShapes Go.WideShapes Go.ChangeAt Go.RowKit
section
theorem ST {w:World}{m n:Nat}{a:Option Addr}{cap:Nat}{zs:List Int}(h:A8 w m (.slice a n cap) zs)(hz:0<zs.length):∃g,a=some ⟨g,0,none⟩:=by
 rcases h.2 with ⟨e,h0⟩|⟨g,c,cur,e,_⟩
 . omega
 ·
  simp only[Value.slice.injEq] at e;exact⟨g,e.1⟩
theorem Dr.Ll {w wr w':World}{B c:Nat}{row:Option Nat}(h:Dr w wr B c)(hg:wr.grownBy w' row)(hl:∀k,row=some k->w.heap.size<=k)(hc:c<w.heap.size)(hB:B<=c):Dr w w' B c:=
  ⟨h.1.kept hg (fun e=>by have:=hl c e;omega) (fun k hk=>by have:=hl k hk;omega),
   hg.os.trans h.2.os,hg.tape.trans h.2.tape,hg.output.trans h.2.output,Nat.le_trans h.2.size hg.size,fun k hk hne=>(hg.block k (Nat.lt_of_lt_of_le hk h.2.size) (fun e=>by have:=hl k e.symm;omega)).trans (h.2.block k hk hne)⟩
section
variable {w:World} {m D:Nat} {v:BV} {nv rv:List Value} {bs N:Nat} {AA:List (List Dd)} {b:Bd}
theorem AR.atR (h:AR w m D v nv rv bs N AA b){a:Option Addr}{n cap p:Nat}(hv:v.R = .slice a n cap)(hp:p<b.rws.length):∃g,a=some ⟨g,0,none⟩/\w.cell? ⟨g,p,none⟩=some (rv.getD p AE)/\m<=g:=by
 have hge:=h.ge .rws trivial;obtain⟨a',c',e,h1⟩:=h.hR;rw[hv] at e;simp only[Value.slice.injEq] at e;obtain⟨rfl,rfl,rfl⟩:=e;rcases h1 with h1|⟨g,rfl,_,hc⟩
 . rw[h1] at hp;simp at hp
 . exact⟨g,rfl,hc p hp,hge g (by show v.R.ownBlock=some g;rw[hv];rfl)⟩
theorem AR.VT (h:AR w m D v nv rv bs N AA b){a:Option Addr}{n cap p:Nat}(hv:v.N = .slice a n cap)(hp:p<b.AH.length):∃g,a=some ⟨g,0,none⟩/\w.cell? ⟨g,p,none⟩=some (nv.getD p AE)/\m<=g:=by
 have hge:=h.ge .AH trivial;obtain⟨a',c',e,h1⟩:=h.hN;rw[hv] at e;simp only[Value.slice.injEq] at e;obtain⟨rfl,rfl,rfl⟩:=e;rcases h1 with h1|⟨g,rfl,_,hc⟩
 . rw[h1] at hp;simp at hp
 . exact⟨g,rfl,hc p hp,hge g (by show v.N.ownBlock=some g;rw[hv];rfl)⟩
theorem AR.hR2 (h:AR w m D v nv rv bs N AA b){g n cap p:Nat}(hv:v.R = .slice (some ⟨g,0,none⟩) n cap)(hp:p<b.rws.length):w.cell? ⟨g,p,none⟩=some (rv.getD p AE):=by
 obtain⟨g',e,h1,_⟩:=h.atR hv hp;simp only[Option.some.injEq,Addr.mk.injEq,and_true] at e;rw[e];exact h1
theorem AR.hN2 (h:AR w m D v nv rv bs N AA b){g n cap p:Nat}(hv:v.N = .slice (some ⟨g,0,none⟩) n cap)(hp:p<b.AH.length):w.cell? ⟨g,p,none⟩=some (nv.getD p AE):=by
 obtain⟨g',e,h1,_⟩:=h.VT hv hp;simp only[Option.some.injEq,Addr.mk.injEq,and_true] at e;rw[e];exact h1
end
structure CV (m:Nat)(w w':World):Prop where
 size:w.heap.size<=w'.heap.size
 block:∀q,m<=q->q<w.heap.size->w'.heap[q]? = w.heap[q]?
theorem CV.trans {m:Nat}{a b c:World}(h:CV m a b)(k:CV m b c):CV m a c:=⟨Nat.le_trans h.size k.size,fun q hm hq=>(k.block q hm (Nat.lt_of_lt_of_le hq h.size)).trans (h.block q hm hq)⟩
theorem CV.grown {m:Nat}{w w':World}{g:Nat}(h:w.grownBy w' (some g))(hg:g<m):CV m w w':=⟨h.size,fun q hm hq=>h.block q hq (fun e=>by have:=Option.some.inj e;omega)⟩
theorem CV.keep {m:Nat}{w w':World}(k:AC w w'):CV m w w':=⟨Below.size k,fun q _ hq=>Below.block k q hq⟩
def Gp (m:Nat)(w:World)(v:BV)(AA:List (List Dd))(b:Bd):Prop:=∀w',CV m w w'->CJ w' v AA b
theorem Gp.rd {m:Nat}{w:World}{v:BV}{AA:List (List Dd)}{b:Bd}(h:Gp m w v AA b):CJ w v AA b:=h w ⟨Nat.le_refl _,fun _ _ _=>rfl⟩
theorem Gp.on {m:Nat}{w w':World}{v:BV}{AA:List (List Dd)}{b:Bd}(h:Gp m w v AA b)(k:CV m w w'):Gp m w' v AA b:=fun _ k'=>h _ (k.trans k')
theorem Gp.mono {m m':Nat}{w:World}{v:BV}{AA:List (List Dd)}{b:Bd}(h:Gp m w v AA b)(hm:m'<=m):Gp m' w v AA b:=fun w' k=>h w' ⟨k.size,fun q hq=>k.block q (Nat.le_trans hm hq)⟩
theorem MP {m base size n:Nat}{e:TypeId}{w w':World}{v:Value}{xs:List Value}(k:CV m w w')(h:w.ownsRow base e size v n xs)(hb:m<=base):w'.ownsRow base e size v n xs:=by
 refine⟨h.1,?_⟩;rcases h.2 with h2|⟨g,cap,cur,hv,hg,hh,hr⟩
 . exact .inl h2
 . exact .inr ⟨g,cap,cur,hv,hg,(k.block g (Nat.le_trans hb hg) (Array.getElem?_eq_some_iff.1 hh).1).trans hh,hr⟩
theorem ZN {m base:Nat}{w w':World}{v:Value}{AA:List (List Dd)}(k:CV m w w')(h:OM w base v AA)(hb:m<=base):OM w' base v AA:=by
 obtain⟨a,cap,hv,h⟩:=h;refine⟨a,cap,hv,?_⟩;rcases h with h|⟨b,off,ha,hbb,hl,hc⟩
 . exact .inl h
 ·
  refine .inr ⟨b,off,ha,hbb,Nat.lt_of_lt_of_le hl k.size,fun i hi=>?_⟩;obtain⟨vi,h1,h2⟩:=hc i hi;exact⟨vi,(World.cell?_of_block (a:=⟨b,off+i,none⟩) (k.block b (Nat.le_trans hb hbb) hl)).trans h1,MP k h2 hb⟩
theorem W4 {m base N:Nat}{w w':World}{v:Value}{AA:List (List Dd)}(k:CV m w w')(h:G3 w base N v AA)(hb:m<=base):G3 w' base N v AA:=by
 obtain⟨a,cap,hv,h⟩:=h;refine⟨a,cap,hv,?_⟩;rcases h with h|⟨b,off,ha,hbb,hN,hl,hc⟩
 . exact .inl h
 ·
  refine .inr ⟨b,off,ha,hbb,hN,Nat.lt_of_lt_of_le hl k.size,fun i hi=>?_⟩;obtain⟨vi,h1,h2,h3⟩:=hc i hi;exact⟨vi,(World.cell?_of_block (a:=⟨b,off+i,none⟩) (k.block b (Nat.le_trans hb hbb) hl)).trans h1,MP k h2 hb,h3⟩
theorem AR.fixed {w:World}{m D:Nat}{v:BV}{nv rv:List Value}{bs N:Nat}{AA:List (List Dd)}{b:Bd}(h:AR w m D v nv rv bs N AA b)(hb:m<=bs):Gp m w v AA b:=by
 intro w' k;have:AR w' m D v nv rv bs N AA b:=⟨⟨fun i hi=>MP k (h.Al.own i hi) (Nat.le_refl _),h.Al.apart⟩,h.ln,h.lr,W4 k h.work hb,Nat.le_trans h.top k.size,h.out⟩;exact this.rd
theorem L6 (w:World)(B c:Nat)(hc:IU w B c):
  Calls Tryz.prog 37 #[.pointer (some ⟨c,0,none⟩)] w fun e w'=>∃bv AA b,e = .returned (BV.agg bv)/\Gp (w.heap.size+1) w' bv AA b/\(Cg AA b/\Fk b)/\Dr w w' B c:=by
 have hcl:=hc.lt;have hB:=hc.1;have D0:Dr w (w.alloc (.cells #[AE,AE,AE,AE,AE,AE,AE,AE] 30)) B c:=(Dr.refl hc).alloc _;have H0:(w.alloc (.cells #[AE,AE,AE,AE,AE,AE,AE,AE] 30)).heap[w.heap.size]? = some (.cells #[AE,AE,AE,AE,AE,AE,AE,AE] 30 (0,0)):=heap_alloc_new w _;have y0:(w.alloc (.cells #[AE,AE,AE,AE,AE,AE,AE,AE] 30)).heap.size=w.heap.size+1:=AD _ _;go_enter Tryz.func37,Tryz.ntmps37
 go_wp2_with fail
 refine (QJ _ B c D0.1).mono ?_;rintro e w1 ⟨bv,AA,b,rfl,d1,jC⟩;have D1:Dr w w1 B c:=D0.step d1.1 d1.2;have hR1:=(d1.2.block w.heap.size (by omega) (fun e=>by have:=Option.some.inj e;omega)).trans H0;have y1:=d1.2.size;rw[y0] at y1;unfold Zd at jC;rw[y0] at jC;clear D0 H0 d1 y0;rcases jC with ⟨hb,rfl,⟨v,rfl,rx⟩,q1,q2⟩|⟨hb,RN,nv,rv,bs,N,m,hV,hm0,hmb⟩
 ·
  obtain⟨av,cv,rfl,-⟩:=id rx.rd;go_upto_region 2 with fail
  obtain⟨w2,hw2⟩:∃W:World,W=w1.alloc (.cells #[.slice av AA.length cv,AE,AE,AE,AE,AE,AE,AE] 30):=⟨_,rfl⟩;have k2:AC w1 w2:=by rw[hw2];exact (AC.refl w1).alloc _
  have hD2:w2.heap[w1.heap.size]? = some (.cells #[.slice av AA.length cv,AE,AE,AE,AE,AE,AE,AE] 30 (0,0)):=by rw[hw2];exact heap_alloc_new _ _
  rw[<-hw2];clear hw2;have hR:=(Below.block k2 w.heap.size (by omega)).trans hR1;have D2:=D1.keep k2;have rx2:=rx.keep k2;have c1:w2.cell? ⟨w1.heap.size,1,none⟩=some AE:=by rw[cell_of_row w2 _ 1 _ _ _ hD2];rfl
  generalize w1.heap.size=D at *;have HG:=Lib.hid (AV w2 w.heap.size #[.slice av AA.length cv,AE,AE,AE,AE,AE,AE,AE]);have HZ:=Lib.hid (setRow_heap w2 w.heap.size _ #[.slice av AA.length cv,AE,AE,AE,AE,AE,AE,AE] _ _ hR);have HD:Hid (Dr w (w2.setRow w.heap.size #[.slice av AA.length cv,AE,AE,AE,AE,AE,AE,AE]) B c):=Lib.hid (D2.far HG.out (by omega) hcl hB);have HW:=Lib.hid (rx2.kept HG.out (by omega));have hz:Cg AA PR/\Fk PR:=⟨⟨by omega,fun i hi=>by have:=q2 i hi;omega,by simp,by simp,by simp,by simp,by simp,by simp,by simp,by simp,by simp⟩,fun c=>by simp,fun p=>by simp⟩;go_wp2_with (first|refine wpList_load_row rfl 30 _ rfl D rfl 30 _ (0,0) _ hD2 Tryz.underlying30 rfl AF ?_|refine wpList_store_row rfl 30 _ _ rfl w.heap.size _ rfl rfl 30 _ hR AF rfl (by simp[Value.oneCell']) ?_)
  refine bodyPost_ret (Ac (by rfl) _ _ w.heap.size _ _ (0,0) _ rfl HZ.out Tryz.underlying30 rfl AF) rfl ?_;exact⟨⟨.slice av AA.length cv,AE,AE,AE,AE,AE,AE,AE⟩,AA,PR,rfl,fun w' k=>⟨(ZN k HW.out (by omega)).rd,⟨none,0,rfl,.inl rfl⟩,⟨none,0,rfl,.inl rfl⟩,⟨none,0,rfl,.inl rfl⟩,⟨none,0,rfl,.inl rfl⟩,⟨none,0,rfl,.inl rfl⟩,⟨none,0,rfl,.inl rfl⟩,⟨none,0,rfl,.inl rfl⟩⟩,hz,HD.out⟩
 ·
  have Lr:=RN.board hb;have LO:=Lib.hid RN.low;obtain⟨aW,aP,aL,aN,aX,aT,aF,aR,cW,cP,cL,cN',cX,cT,cF,cR,rfl⟩:=hV.rd0.shapes;have H2:=(hV.BE (show w.heap.size+1<=m from hm0)).box y1;go_upto_region 2 with fail
  obtain⟨w2,hw2⟩:∃W:World,W=w1.alloc (.cells #[.slice aW AA.length cW,.slice aP b.AM.length cP,.slice aL b.AQ.length cL,.slice aN b.AH.length cN',.slice aX b.AL.length cX,.slice aT b.sn.length cT,.slice aF b.fr.length cF,.slice aR b.rws.length cR] 30):=⟨_,rfl⟩;have k2:AC w1 w2:=by rw[hw2];exact (AC.refl w1).alloc _
  replace H2:AR w2 (w.heap.size+1) w1.heap.size ⟨.slice aW AA.length cW,.slice aP b.AM.length cP,.slice aL b.AQ.length cL,.slice aN b.AH.length cN',.slice aX b.AL.length cX,.slice aT b.sn.length cT,.slice aF b.fr.length cF,.slice aR b.rws.length cR⟩ nv rv bs N AA b:=by rw[hw2];exact H2
  rw[<-hw2];clear hw2 hV;have hR2:=(Below.block k2 w.heap.size (by omega)).trans hR1;have D2:=D1.keep k2;have zD:w.heap.size<w1.heap.size:=by omega
  generalize w1.heap.size=D at *;clear k2 D1 hR1 hm0;have BL:=Lib.hid (En Lr)
  have hd1:1<=AA.length/\AA.length<=3:=by
   have:=hb;simp only[AW,Bool.and_eq_true,decide_eq_true_eq] at this;exact this.1.1.1.1
  have p3:((b.AM.length:Int)==3)=true:=by have:=BL.out.2.1;simp;omega
  have lens:Hid (b.AM.length=3/\b.AQ.length=3/\b.rws.length=3/\b.AH.length=AA.length/\b.AL.length=AA.length):=Lib.hid ⟨BL.out.2.1,BL.out.2.2.1,BL.out.2.2.2.1,BL.out.2.2.2.2.1,BL.out.2.2.2.2.2.1⟩;have lP:3<=b.AM.length:=by have:=lens.out.1;omega
  have lL:3<=b.AQ.length:=by have:=lens.out.2.1;omega
  have lR:3<=b.rws.length:=by have:=lens.out.2.2.1;omega
  have lN:1<=b.AH.length:=by have:=lens.out.2.2.2.1;omega
  have lX:1<=b.AL.length:=by have:=lens.out.2.2.2.2;omega
  obtain⟨-,e1,-,-,-,-,-,-⟩:=H2.cells;simp only at e1;have di:=D2.1;go_wp2_with fail
  refine (C2 _ B c 8 di (by omega)).mono ?_;rintro e w3 ⟨t,rfl,Zr,g3⟩;have EX:Dr w w3 B c:=D2.step Zr g3;have H:=H2.far g3 (fun k hk=>by have:=Option.some.inj hk;omega);have hR:=(g3.block w.heap.size (by have:=H2.base;omega) (fun e=>by have:=Option.some.inj e;omega)).trans hR2;clear H2 D2 hR2 Zr g3 di e1;cases t
  ·
   have hz:=And.intro (EU Lr) (Bm LO.out);have Bh:=H.B6;simp only[BV.arr] at Bh;have HG:=Lib.hid (AV w3 w.heap.size #[.slice aW AA.length cW,.slice aP b.AM.length cP,.slice aL b.AQ.length cL,.slice aN b.AH.length cN',.slice aX b.AL.length cX,.slice aT b.sn.length cT,.slice aF b.fr.length cF,.slice aR b.rws.length cR]);have HZ:=Lib.hid (setRow_heap w3 w.heap.size _ #[.slice aW AA.length cW,.slice aP b.AM.length cP,.slice aL b.AQ.length cL,.slice aN b.AH.length cN',.slice aX b.AL.length cX,.slice aT b.sn.length cT,.slice aF b.fr.length cF,.slice aR b.rws.length cR] _ _ hR);have HO:=Lib.hid ((H.far HG.out (fun g hg=>by have:=Option.some.inj hg;omega)).fixed hmb);have HD:Hid (Dr w (w3.setRow w.heap.size #[.slice aW AA.length cW,.slice aP b.AM.length cP,.slice aL b.AQ.length cL,.slice aN b.AH.length cN',.slice aX b.AL.length cX,.slice aT b.sn.length cT,.slice aF b.fr.length cF,.slice aR b.rws.length cR]) B c):=Lib.hid (EX.far HG.out (by omega) hcl hB);go_wp2_with (first|refine wpList_load_row rfl 30 _ rfl D rfl 30 _ (0,0) _ Bh Tryz.underlying30 rfl AF ?_|refine wpList_store_row rfl 30 _ _ rfl w.heap.size _ rfl rfl 30 _ hR AF rfl (by simp[Value.oneCell']) ?_)
   refine bodyPost_ret (Ac (by rfl) _ _ w.heap.size _ _ (0,0) _ rfl HZ.out Tryz.underlying30 rfl AF) rfl ?_;exact⟨⟨.slice aW AA.length cW,.slice aP b.AM.length cP,.slice aL b.AQ.length cL,.slice aN b.AH.length cN',.slice aX b.AL.length cX,.slice aT b.sn.length cT,.slice aF b.fr.length cF,.slice aR b.rws.length cR⟩,AA,b,rfl,HO.out,hz,HD.out⟩
  ·
   have Zr:=EX.1;go_wp2_with fail
   refine (Ao _ B c 6 Zr (by omega)).mono ?_;rintro e w4 ⟨x,rfl,x0,x1,Xo,g4⟩;have Mr:Dr w w4 B c:=EX.step Xo g4;have H4:=H.far g4 (fun k hk=>by have:=Option.some.inj hk;omega);have hR4:=(g4.block w.heap.size (by have:=H.base;omega) (fun e=>by have:=Option.some.inj e;omega)).trans hR;clear EX H hR Xo g4 Zr;have hx6:x=0\/x=1\/x=2\/x=3\/x=4\/x=5:=by omega
   clear x0 x1;rcases hx6 with rfl|rfl|rfl|rfl|rfl|rfl
   ·
    go_upto_region 5 with fail
    have z:=EU Lr;obtain⟨gP,rfl⟩:=ST H4.oP (show 0<b.AM.length by omega);have i3:0<b.AM.length:=by omega
    have i4:(0:Int)<(b.AM.length:Int):=by omega
    have HA:=H4.drew;have DA:=Mr.drew;have hcW:c<w4.drew.heap.size:=DA.1.lt;have RA:w4.drew.heap[w.heap.size]? = some (.cells #[AE,AE,AE,AE,AE,AE,AE,AE] 30 (0,0)):=hR4;refine wp_region_held_drew (S:=(fun w'=>w'.cell? ⟨D,1,none⟩=some (.slice (some ⟨gP,0,none⟩) b.AM.length cP))) (by kernel_rfl) ?_ (fun hHeld=>?_)
    . exact HA.cells.2.1
    refine AO 0 18 (v:=?_) ?_ ?_;rotate_left
    ·
     intro wx hSw;go_simp;with_reducible rfl
    refine AO 1 19 (v:=?_) ?_ ?_;rotate_left
    ·
     intro wx hSw;go_simp;with_reducible rfl
    refine AO 3 21 (v:=?_) ?_ ?_;rotate_left
    ·
     intro wx hSw;go_simp;with_reducible rfl
    simp only[Act.put,List.setIfInBounds_toArray,List.set_cons_zero,List.set_cons_succ];refine wpAnyH_ready (rs:=[2,4]) (by kernel_rfl) (by simp) ?_;refine AllReadyH.cons rfl (fun K hK=>?_) (AllReadyH.cons rfl (fun K hK=>?_) AllReadyH.nil)
    ·
     go_simp;have K5':AC w4.drew (w4.drew.alloc (.cells #[.int .i64 (-1),.int .i64 9,.int .i64 10] 2)):=(AC.refl _).alloc _;have EL:=DA.keep K5';have H5':=HA.keep K5';have hR5':=(Below.block K5' w.heap.size (by have:=HA.base;omega)).trans RA;have HN5:(w4.drew.alloc (.cells #[.int .i64 (-1),.int .i64 9,.int .i64 10] 2)).heap[w4.drew.heap.size]? = some (.cells #[.int .i64 (-1),.int .i64 9,.int .i64 10] 2 (0,0)):=heap_alloc_new _ _;have HS5:(w4.drew.alloc (.cells #[.int .i64 (-1),.int .i64 9,.int .i64 10] 2)).heap.size=w4.drew.heap.size+1:=AD _ _;refine hK.out _ _ ?_ (fun hHeld=>?_)
     . exact H5'.cells.2.1
     clear hK K;refine wpAnyH_ready (rs:=[4]) (by kernel_rfl) (by simp) ?_;refine AllReadyH.cons rfl (fun K hK=>?_) AllReadyH.nil;go_simp;refine (Ao _ B c 3 EL.1 (by omega)).mono ?_;rintro e v6 ⟨y,rfl,yl,yh,dm,g6⟩;have Cs:Dr w v6 B c:=EL.step dm g6;have H6':=H5'.far g6 (fun k hk=>by have:=Option.some.inj hk;omega);have hR6':=(g6.block w.heap.size (by have:=H5'.base;omega) (fun e=>by have:=Option.some.inj e;omega)).trans hR5';have HN6:=(g6.block w4.drew.heap.size (by rw[HS5];omega) (fun e=>by have:=Option.some.inj e;have:=H5'.base;have:=hcW;omega)).trans HN5;go_wp2_with fail
     refine hK.out _ _ ?_ (fun hHeld=>?_)
     . exact H6'.cells.2.1
     clear hK K;have hy3:y=0\/y=1\/y=2:=by omega
     clear yl yh;rcases hy3 with rfl|rfl|rfl
     ·
      have lc:v6.cell? ⟨w4.heap.size,0,none⟩=some (.int .i64 (-1)):=(cell_of_row _ _ 0 _ _ _ HN6).trans rfl;refine wpAnyH_ready (rs:=[5]) (by kernel_rfl) (by simp) ?_;refine AllReadyH.cons rfl (fun K hK=>?_) AllReadyH.nil;go_simp;refine hK.out _ _ ?_ (fun hHeld=>?_)
      . exact H6'.cells.2.1
      clear hK K;refine wpAnyH_ready (rs:=[6]) (by kernel_rfl) (by simp) ?_;refine AllReadyH.cons rfl (fun K hK=>?_) AllReadyH.nil;go_simp;refine hK.out _ _ ?_ (fun hHeld=>?_)
      . exact H6'.cells.2.1
      clear hK K;refine wpAnyH_ready (rs:=[7]) (by kernel_rfl) (by simp) ?_;refine AllReadyH.cons rfl (fun K hK=>?_) AllReadyH.nil;go_simp;refine hK.out _ _ ?_ (fun hHeld=>?_)
      . exact H6'.cells.2.1
      clear hK K;have o5:=H6'.oP;have d5:=World.ownsRow.cellAt o5 0 (by omega);obtain⟨u5,hu5⟩:∃u,(b.AM.map (Value.int .i64))[0]? = some u:=⟨_,List.getElem?_eq_getElem (by rw[List.length_map];omega)⟩;rw[hu5] at d5;have PT:=DR (k:=0) (x:=(-1)) (H6'.Al.own .AM trivial) rfl;have fz5:=PT.2.2;refine wpAnyH_ready (rs:=[8]) (by kernel_rfl) (by simp) ?_;refine AllReadyH.cons rfl (fun K hK=>?_) AllReadyH.nil;go_simp;refine hK.out _ _ ?_ (fun hHeld=>?_)
      . exact (H6'.stay .AM trivial (by simp) PT.2.1 1).trans H6'.cells.2.1
      clear hK K;refine wpAnyH_done (by kernel_rfl) ?_ _;have gz:v6.grownBy (v6.setCell ⟨gP,0,none⟩ (.int .i64 (-1))) (some gP):=PT.2.1;have hR:=(gz.block w.heap.size (by have:=H6'.base;omega) (fun e=>by have:=(World.ownsRow.lt o5 gP rfl).1;have:=Option.some.inj e;omega)).trans hR6';have EX:=Cs.far gz (by have:=(World.ownsRow.lt o5 gP rfl).1;omega) hcl hB;have H:=H6'.Ox (k:=0) (x:=(-1)) rfl;have hz:Cg AA { b with AM:=b.AM.set 0 (-1) }/\Fk { b with AM:=b.AM.set 0 (-1) }:=⟨⟨z.w1,z.w2,by simpa using z.AM,z.AQ,z.n1,z.n2,z.AL,z.sn,z.fr,z.r1,z.r2⟩,Bm LO.out⟩;clear gz PT o5 d5 fz5 lc;have Bh:=H.B6;simp only[BV.arr] at Bh;have HG:=Lib.hid (AV (v6.setCell ⟨gP,0,none⟩ (.int .i64 (-1))) w.heap.size #[.slice aW AA.length cW,.slice (some ⟨gP,0,none⟩) b.AM.length cP,.slice aL b.AQ.length cL,.slice aN b.AH.length cN',.slice aX b.AL.length cX,.slice aT b.sn.length cT,.slice aF b.fr.length cF,.slice aR b.rws.length cR]);have HZ:=Lib.hid (setRow_heap (v6.setCell ⟨gP,0,none⟩ (.int .i64 (-1))) w.heap.size _ #[.slice aW AA.length cW,.slice (some ⟨gP,0,none⟩) b.AM.length cP,.slice aL b.AQ.length cL,.slice aN b.AH.length cN',.slice aX b.AL.length cX,.slice aT b.sn.length cT,.slice aF b.fr.length cF,.slice aR b.rws.length cR] _ _ hR);have HO:=Lib.hid ((H.far HG.out (fun g hg=>by have:=Option.some.inj hg;omega)).fixed hmb);have HD:Hid (Dr w ((v6.setCell ⟨gP,0,none⟩ (.int .i64 (-1))).setRow w.heap.size #[.slice aW AA.length cW,.slice (some ⟨gP,0,none⟩) b.AM.length cP,.slice aL b.AQ.length cL,.slice aN b.AH.length cN',.slice aX b.AL.length cX,.slice aT b.sn.length cT,.slice aF b.fr.length cF,.slice aR b.rws.length cR]) B c):=Lib.hid (EX.far HG.out (by omega) hcl hB);go_wp2_with (first|refine wpList_load_row rfl 30 _ rfl D rfl 30 _ (0,0) _ Bh Tryz.underlying30 rfl AF ?_|refine wpList_store_row rfl 30 _ _ rfl w.heap.size _ rfl rfl 30 _ hR AF rfl (by simp[Value.oneCell']) ?_)
      refine bodyPost_ret (Ac (by rfl) _ _ w.heap.size _ _ (0,0) _ rfl HZ.out Tryz.underlying30 rfl AF) rfl ?_;exact⟨⟨.slice aW AA.length cW,.slice (some ⟨gP,0,none⟩) b.AM.length cP,.slice aL b.AQ.length cL,.slice aN b.AH.length cN',.slice aX b.AL.length cX,.slice aT b.sn.length cT,.slice aF b.fr.length cF,.slice aR b.rws.length cR⟩,AA,{ b with AM:=b.AM.set 0 (-1) },rfl,HO.out,hz,HD.out⟩
     ·
      have lc:v6.cell? ⟨w4.heap.size,1,none⟩=some (.int .i64 9):=(cell_of_row _ _ 1 _ _ _ HN6).trans rfl;refine wpAnyH_ready (rs:=[5]) (by kernel_rfl) (by simp) ?_;refine AllReadyH.cons rfl (fun K hK=>?_) AllReadyH.nil;go_simp;refine hK.out _ _ ?_ (fun hHeld=>?_)
      . exact H6'.cells.2.1
      clear hK K;refine wpAnyH_ready (rs:=[6]) (by kernel_rfl) (by simp) ?_;refine AllReadyH.cons rfl (fun K hK=>?_) AllReadyH.nil;go_simp;refine hK.out _ _ ?_ (fun hHeld=>?_)
      . exact H6'.cells.2.1
      clear hK K;refine wpAnyH_ready (rs:=[7]) (by kernel_rfl) (by simp) ?_;refine AllReadyH.cons rfl (fun K hK=>?_) AllReadyH.nil;go_simp;refine hK.out _ _ ?_ (fun hHeld=>?_)
      . exact H6'.cells.2.1
      clear hK K;have o5:=H6'.oP;have d5:=World.ownsRow.cellAt o5 0 (by omega);obtain⟨u5,hu5⟩:∃u,(b.AM.map (Value.int .i64))[0]? = some u:=⟨_,List.getElem?_eq_getElem (by rw[List.length_map];omega)⟩;rw[hu5] at d5;have PT:=DR (k:=0) (x:=9) (H6'.Al.own .AM trivial) rfl;have fz5:=PT.2.2;refine wpAnyH_ready (rs:=[8]) (by kernel_rfl) (by simp) ?_;refine AllReadyH.cons rfl (fun K hK=>?_) AllReadyH.nil;go_simp;refine hK.out _ _ ?_ (fun hHeld=>?_)
      . exact (H6'.stay .AM trivial (by simp) PT.2.1 1).trans H6'.cells.2.1
      clear hK K;refine wpAnyH_done (by kernel_rfl) ?_ _;have gz:v6.grownBy (v6.setCell ⟨gP,0,none⟩ (.int .i64 9)) (some gP):=PT.2.1;have hR:=(gz.block w.heap.size (by have:=H6'.base;omega) (fun e=>by have:=(World.ownsRow.lt o5 gP rfl).1;have:=Option.some.inj e;omega)).trans hR6';have EX:=Cs.far gz (by have:=(World.ownsRow.lt o5 gP rfl).1;omega) hcl hB;have H:=H6'.Ox (k:=0) (x:=9) rfl;have hz:Cg AA { b with AM:=b.AM.set 0 9 }/\Fk { b with AM:=b.AM.set 0 9 }:=⟨⟨z.w1,z.w2,by simpa using z.AM,z.AQ,z.n1,z.n2,z.AL,z.sn,z.fr,z.r1,z.r2⟩,Bm LO.out⟩;clear gz PT o5 d5 fz5 lc;have Bh:=H.B6;simp only[BV.arr] at Bh;have HG:=Lib.hid (AV (v6.setCell ⟨gP,0,none⟩ (.int .i64 9)) w.heap.size #[.slice aW AA.length cW,.slice (some ⟨gP,0,none⟩) b.AM.length cP,.slice aL b.AQ.length cL,.slice aN b.AH.length cN',.slice aX b.AL.length cX,.slice aT b.sn.length cT,.slice aF b.fr.length cF,.slice aR b.rws.length cR]);have HZ:=Lib.hid (setRow_heap (v6.setCell ⟨gP,0,none⟩ (.int .i64 9)) w.heap.size _ #[.slice aW AA.length cW,.slice (some ⟨gP,0,none⟩) b.AM.length cP,.slice aL b.AQ.length cL,.slice aN b.AH.length cN',.slice aX b.AL.length cX,.slice aT b.sn.length cT,.slice aF b.fr.length cF,.slice aR b.rws.length cR] _ _ hR);have HO:=Lib.hid ((H.far HG.out (fun g hg=>by have:=Option.some.inj hg;omega)).fixed hmb);have HD:Hid (Dr w ((v6.setCell ⟨gP,0,none⟩ (.int .i64 9)).setRow w.heap.size #[.slice aW AA.length cW,.slice (some ⟨gP,0,none⟩) b.AM.length cP,.slice aL b.AQ.length cL,.slice aN b.AH.length cN',.slice aX b.AL.length cX,.slice aT b.sn.length cT,.slice aF b.fr.length cF,.slice aR b.rws.length cR]) B c):=Lib.hid (EX.far HG.out (by omega) hcl hB);go_wp2_with (first|refine wpList_load_row rfl 30 _ rfl D rfl 30 _ (0,0) _ Bh Tryz.underlying30 rfl AF ?_|refine wpList_store_row rfl 30 _ _ rfl w.heap.size _ rfl rfl 30 _ hR AF rfl (by simp[Value.oneCell']) ?_)
      refine bodyPost_ret (Ac (by rfl) _ _ w.heap.size _ _ (0,0) _ rfl HZ.out Tryz.underlying30 rfl AF) rfl ?_;exact⟨⟨.slice aW AA.length cW,.slice (some ⟨gP,0,none⟩) b.AM.length cP,.slice aL b.AQ.length cL,.slice aN b.AH.length cN',.slice aX b.AL.length cX,.slice aT b.sn.length cT,.slice aF b.fr.length cF,.slice aR b.rws.length cR⟩,AA,{ b with AM:=b.AM.set 0 9 },rfl,HO.out,hz,HD.out⟩
     ·
      have lc:v6.cell? ⟨w4.heap.size,2,none⟩=some (.int .i64 10):=(cell_of_row _ _ 2 _ _ _ HN6).trans rfl;refine wpAnyH_ready (rs:=[5]) (by kernel_rfl) (by simp) ?_;refine AllReadyH.cons rfl (fun K hK=>?_) AllReadyH.nil;go_simp;refine hK.out _ _ ?_ (fun hHeld=>?_)
      . exact H6'.cells.2.1
      clear hK K;refine wpAnyH_ready (rs:=[6]) (by kernel_rfl) (by simp) ?_;refine AllReadyH.cons rfl (fun K hK=>?_) AllReadyH.nil;go_simp;refine hK.out _ _ ?_ (fun hHeld=>?_)
      . exact H6'.cells.2.1
      clear hK K;refine wpAnyH_ready (rs:=[7]) (by kernel_rfl) (by simp) ?_;refine AllReadyH.cons rfl (fun K hK=>?_) AllReadyH.nil;go_simp;refine hK.out _ _ ?_ (fun hHeld=>?_)
      . exact H6'.cells.2.1
      clear hK K;have o5:=H6'.oP;have d5:=World.ownsRow.cellAt o5 0 (by omega);obtain⟨u5,hu5⟩:∃u,(b.AM.map (Value.int .i64))[0]? = some u:=⟨_,List.getElem?_eq_getElem (by rw[List.length_map];omega)⟩;rw[hu5] at d5;have PT:=DR (k:=0) (x:=10) (H6'.Al.own .AM trivial) rfl;have fz5:=PT.2.2;refine wpAnyH_ready (rs:=[8]) (by kernel_rfl) (by simp) ?_;refine AllReadyH.cons rfl (fun K hK=>?_) AllReadyH.nil;go_simp;refine hK.out _ _ ?_ (fun hHeld=>?_)
      . exact (H6'.stay .AM trivial (by simp) PT.2.1 1).trans H6'.cells.2.1
      clear hK K;refine wpAnyH_done (by kernel_rfl) ?_ _;have gz:v6.grownBy (v6.setCell ⟨gP,0,none⟩ (.int .i64 10)) (some gP):=PT.2.1;have hR:=(gz.block w.heap.size (by have:=H6'.base;omega) (fun e=>by have:=(World.ownsRow.lt o5 gP rfl).1;have:=Option.some.inj e;omega)).trans hR6';have EX:=Cs.far gz (by have:=(World.ownsRow.lt o5 gP rfl).1;omega) hcl hB;have H:=H6'.Ox (k:=0) (x:=10) rfl;have hz:Cg AA { b with AM:=b.AM.set 0 10 }/\Fk { b with AM:=b.AM.set 0 10 }:=⟨⟨z.w1,z.w2,by simpa using z.AM,z.AQ,z.n1,z.n2,z.AL,z.sn,z.fr,z.r1,z.r2⟩,Bm LO.out⟩;clear gz PT o5 d5 fz5 lc;have Bh:=H.B6;simp only[BV.arr] at Bh;have HG:=Lib.hid (AV (v6.setCell ⟨gP,0,none⟩ (.int .i64 10)) w.heap.size #[.slice aW AA.length cW,.slice (some ⟨gP,0,none⟩) b.AM.length cP,.slice aL b.AQ.length cL,.slice aN b.AH.length cN',.slice aX b.AL.length cX,.slice aT b.sn.length cT,.slice aF b.fr.length cF,.slice aR b.rws.length cR]);have HZ:=Lib.hid (setRow_heap (v6.setCell ⟨gP,0,none⟩ (.int .i64 10)) w.heap.size _ #[.slice aW AA.length cW,.slice (some ⟨gP,0,none⟩) b.AM.length cP,.slice aL b.AQ.length cL,.slice aN b.AH.length cN',.slice aX b.AL.length cX,.slice aT b.sn.length cT,.slice aF b.fr.length cF,.slice aR b.rws.length cR] _ _ hR);have HO:=Lib.hid ((H.far HG.out (fun g hg=>by have:=Option.some.inj hg;omega)).fixed hmb);have HD:Hid (Dr w ((v6.setCell ⟨gP,0,none⟩ (.int .i64 10)).setRow w.heap.size #[.slice aW AA.length cW,.slice (some ⟨gP,0,none⟩) b.AM.length cP,.slice aL b.AQ.length cL,.slice aN b.AH.length cN',.slice aX b.AL.length cX,.slice aT b.sn.length cT,.slice aF b.fr.length cF,.slice aR b.rws.length cR]) B c):=Lib.hid (EX.far HG.out (by omega) hcl hB);go_wp2_with (first|refine wpList_load_row rfl 30 _ rfl D rfl 30 _ (0,0) _ Bh Tryz.underlying30 rfl AF ?_|refine wpList_store_row rfl 30 _ _ rfl w.heap.size _ rfl rfl 30 _ hR AF rfl (by simp[Value.oneCell']) ?_)
      refine bodyPost_ret (Ac (by rfl) _ _ w.heap.size _ _ (0,0) _ rfl HZ.out Tryz.underlying30 rfl AF) rfl ?_;exact⟨⟨.slice aW AA.length cW,.slice (some ⟨gP,0,none⟩) b.AM.length cP,.slice aL b.AQ.length cL,.slice aN b.AH.length cN',.slice aX b.AL.length cX,.slice aT b.sn.length cT,.slice aF b.fr.length cF,.slice aR b.rws.length cR⟩,AA,{ b with AM:=b.AM.set 0 10 },rfl,HO.out,hz,HD.out⟩
    ·
     go_simp;refine (Ao _ B c 3 DA.1 (by omega)).mono ?_;rintro e v5 ⟨y,rfl,yl,yh,KX,g5⟩;have EL:Dr w v5 B c:=DA.step KX g5;have H5':=HA.far g5 (fun k hk=>by have:=Option.some.inj hk;omega);have hR5':=(g5.block w.heap.size (by have:=HA.base;omega) (fun e=>by have:=Option.some.inj e;omega)).trans RA;go_wp2_with fail
     refine hK.out _ _ ?_ (fun hHeld=>?_)
     . exact H5'.cells.2.1
     clear hK K;refine wpAnyH_ready (rs:=[2]) (by kernel_rfl) (by simp) ?_;refine AllReadyH.cons rfl (fun K hK=>?_) AllReadyH.nil;go_simp;have K6':AC v5 (v5.alloc (.cells #[.int .i64 (-1),.int .i64 9,.int .i64 10] 2)):=(AC.refl _).alloc _;have Cs:=EL.keep K6';have H6':=H5'.keep K6';have hR6':=(Below.block K6' w.heap.size (by have:=H5'.base;omega)).trans hR5';have HN6:(v5.alloc (.cells #[.int .i64 (-1),.int .i64 9,.int .i64 10] 2)).heap[v5.heap.size]? = some (.cells #[.int .i64 (-1),.int .i64 9,.int .i64 10] 2 (0,0)):=heap_alloc_new _ _;have HS6:(v5.alloc (.cells #[.int .i64 (-1),.int .i64 9,.int .i64 10] 2)).heap.size=v5.heap.size+1:=AD _ _;refine hK.out _ _ ?_ (fun hHeld=>?_)
     . exact H6'.cells.2.1
     clear hK K;have hy3:y=0\/y=1\/y=2:=by omega
     clear yl yh;rcases hy3 with rfl|rfl|rfl
     ·
      have lc:(v5.alloc (.cells #[.int .i64 (-1),.int .i64 9,.int .i64 10] 2)).cell? ⟨v5.heap.size,0,none⟩=some (.int .i64 (-1)):=(cell_of_row _ _ 0 _ _ _ HN6).trans rfl;refine wpAnyH_ready (rs:=[5]) (by kernel_rfl) (by simp) ?_;refine AllReadyH.cons rfl (fun K hK=>?_) AllReadyH.nil;go_simp;refine hK.out _ _ ?_ (fun hHeld=>?_)
      . exact H6'.cells.2.1
      clear hK K;refine wpAnyH_ready (rs:=[6]) (by kernel_rfl) (by simp) ?_;refine AllReadyH.cons rfl (fun K hK=>?_) AllReadyH.nil;go_simp;refine hK.out _ _ ?_ (fun hHeld=>?_)
      . exact H6'.cells.2.1
      clear hK K;refine wpAnyH_ready (rs:=[7]) (by kernel_rfl) (by simp) ?_;refine AllReadyH.cons rfl (fun K hK=>?_) AllReadyH.nil;go_simp;refine hK.out _ _ ?_ (fun hHeld=>?_)
      . exact H6'.cells.2.1
      clear hK K;have o5:=H6'.oP;have d5:=World.ownsRow.cellAt o5 0 (by omega);obtain⟨u5,hu5⟩:∃u,(b.AM.map (Value.int .i64))[0]? = some u:=⟨_,List.getElem?_eq_getElem (by rw[List.length_map];omega)⟩;rw[hu5] at d5;have PT:=DR (k:=0) (x:=(-1)) (H6'.Al.own .AM trivial) rfl;have fz5:=PT.2.2;refine wpAnyH_ready (rs:=[8]) (by kernel_rfl) (by simp) ?_;refine AllReadyH.cons rfl (fun K hK=>?_) AllReadyH.nil;go_simp;refine hK.out _ _ ?_ (fun hHeld=>?_)
      . exact (H6'.stay .AM trivial (by simp) PT.2.1 1).trans H6'.cells.2.1
      clear hK K;refine wpAnyH_done (by kernel_rfl) ?_ _;have gz:(v5.alloc (.cells #[.int .i64 (-1),.int .i64 9,.int .i64 10] 2)).grownBy ((v5.alloc (.cells #[.int .i64 (-1),.int .i64 9,.int .i64 10] 2)).setCell ⟨gP,0,none⟩ (.int .i64 (-1))) (some gP):=PT.2.1;have hR:=(gz.block w.heap.size (by have:=H6'.base;omega) (fun e=>by have:=(World.ownsRow.lt o5 gP rfl).1;have:=Option.some.inj e;omega)).trans hR6';have EX:=Cs.far gz (by have:=(World.ownsRow.lt o5 gP rfl).1;omega) hcl hB;have H:=H6'.Ox (k:=0) (x:=(-1)) rfl;have hz:Cg AA { b with AM:=b.AM.set 0 (-1) }/\Fk { b with AM:=b.AM.set 0 (-1) }:=⟨⟨z.w1,z.w2,by simpa using z.AM,z.AQ,z.n1,z.n2,z.AL,z.sn,z.fr,z.r1,z.r2⟩,Bm LO.out⟩;clear gz PT o5 d5 fz5 lc;have Bh:=H.B6;simp only[BV.arr] at Bh;have HG:=Lib.hid (AV ((v5.alloc (.cells #[.int .i64 (-1),.int .i64 9,.int .i64 10] 2)).setCell ⟨gP,0,none⟩ (.int .i64 (-1))) w.heap.size #[.slice aW AA.length cW,.slice (some ⟨gP,0,none⟩) b.AM.length cP,.slice aL b.AQ.length cL,.slice aN b.AH.length cN',.slice aX b.AL.length cX,.slice aT b.sn.length cT,.slice aF b.fr.length cF,.slice aR b.rws.length cR]);have HZ:=Lib.hid (setRow_heap ((v5.alloc (.cells #[.int .i64 (-1),.int .i64 9,.int .i64 10] 2)).setCell ⟨gP,0,none⟩ (.int .i64 (-1))) w.heap.size _ #[.slice aW AA.length cW,.slice (some ⟨gP,0,none⟩) b.AM.length cP,.slice aL b.AQ.length cL,.slice aN b.AH.length cN',.slice aX b.AL.length cX,.slice aT b.sn.length cT,.slice aF b.fr.length cF,.slice aR b.rws.length cR] _ _ hR);have HO:=Lib.hid ((H.far HG.out (fun g hg=>by have:=Option.some.inj hg;omega)).fixed hmb);have HD:Hid (Dr w (((v5.alloc (.cells #[.int .i64 (-1),.int .i64 9,.int .i64 10] 2)).setCell ⟨gP,0,none⟩ (.int .i64 (-1))).setRow w.heap.size #[.slice aW AA.length cW,.slice (some ⟨gP,0,none⟩) b.AM.length cP,.slice aL b.AQ.length cL,.slice aN b.AH.length cN',.slice aX b.AL.length cX,.slice aT b.sn.length cT,.slice aF b.fr.length cF,.slice aR b.rws.length cR]) B c):=Lib.hid (EX.far HG.out (by omega) hcl hB);go_wp2_with (first|refine wpList_load_row rfl 30 _ rfl D rfl 30 _ (0,0) _ Bh Tryz.underlying30 rfl AF ?_|refine wpList_store_row rfl 30 _ _ rfl w.heap.size _ rfl rfl 30 _ hR AF rfl (by simp[Value.oneCell']) ?_)
      refine bodyPost_ret (Ac (by rfl) _ _ w.heap.size _ _ (0,0) _ rfl HZ.out Tryz.underlying30 rfl AF) rfl ?_;exact⟨⟨.slice aW AA.length cW,.slice (some ⟨gP,0,none⟩) b.AM.length cP,.slice aL b.AQ.length cL,.slice aN b.AH.length cN',.slice aX b.AL.length cX,.slice aT b.sn.length cT,.slice aF b.fr.length cF,.slice aR b.rws.length cR⟩,AA,{ b with AM:=b.AM.set 0 (-1) },rfl,HO.out,hz,HD.out⟩
     ·
      have lc:(v5.alloc (.cells #[.int .i64 (-1),.int .i64 9,.int .i64 10] 2)).cell? ⟨v5.heap.size,1,none⟩=some (.int .i64 9):=(cell_of_row _ _ 1 _ _ _ HN6).trans rfl;refine wpAnyH_ready (rs:=[5]) (by kernel_rfl) (by simp) ?_;refine AllReadyH.cons rfl (fun K hK=>?_) AllReadyH.nil;go_simp;refine hK.out _ _ ?_ (fun hHeld=>?_)
      . exact H6'.cells.2.1
      clear hK K;refine wpAnyH_ready (rs:=[6]) (by kernel_rfl) (by simp) ?_;refine AllReadyH.cons rfl (fun K hK=>?_) AllReadyH.nil;go_simp;refine hK.out _ _ ?_ (fun hHeld=>?_)
      . exact H6'.cells.2.1
      clear hK K;refine wpAnyH_ready (rs:=[7]) (by kernel_rfl) (by simp) ?_;refine AllReadyH.cons rfl (fun K hK=>?_) AllReadyH.nil;go_simp;refine hK.out _ _ ?_ (fun hHeld=>?_)
      . exact H6'.cells.2.1
      clear hK K;have o5:=H6'.oP;have d5:=World.ownsRow.cellAt o5 0 (by omega);obtain⟨u5,hu5⟩:∃u,(b.AM.map (Value.int .i64))[0]? = some u:=⟨_,List.getElem?_eq_getElem (by rw[List.length_map];omega)⟩;rw[hu5] at d5;have PT:=DR (k:=0) (x:=9) (H6'.Al.own .AM trivial) rfl;have fz5:=PT.2.2;refine wpAnyH_ready (rs:=[8]) (by kernel_rfl) (by simp) ?_;refine AllReadyH.cons rfl (fun K hK=>?_) AllReadyH.nil;go_simp;refine hK.out _ _ ?_ (fun hHeld=>?_)
      . exact (H6'.stay .AM trivial (by simp) PT.2.1 1).trans H6'.cells.2.1
      clear hK K;refine wpAnyH_done (by kernel_rfl) ?_ _;have gz:(v5.alloc (.cells #[.int .i64 (-1),.int .i64 9,.int .i64 10] 2)).grownBy ((v5.alloc (.cells #[.int .i64 (-1),.int .i64 9,.int .i64 10] 2)).setCell ⟨gP,0,none⟩ (.int .i64 9)) (some gP):=PT.2.1;have hR:=(gz.block w.heap.size (by have:=H6'.base;omega) (fun e=>by have:=(World.ownsRow.lt o5 gP rfl).1;have:=Option.some.inj e;omega)).trans hR6';have EX:=Cs.far gz (by have:=(World.ownsRow.lt o5 gP rfl).1;omega) hcl hB;have H:=H6'.Ox (k:=0) (x:=9) rfl;have hz:Cg AA { b with AM:=b.AM.set 0 9 }/\Fk { b with AM:=b.AM.set 0 9 }:=⟨⟨z.w1,z.w2,by simpa using z.AM,z.AQ,z.n1,z.n2,z.AL,z.sn,z.fr,z.r1,z.r2⟩,Bm LO.out⟩;clear gz PT o5 d5 fz5 lc;have Bh:=H.B6;simp only[BV.arr] at Bh;have HG:=Lib.hid (AV ((v5.alloc (.cells #[.int .i64 (-1),.int .i64 9,.int .i64 10] 2)).setCell ⟨gP,0,none⟩ (.int .i64 9)) w.heap.size #[.slice aW AA.length cW,.slice (some ⟨gP,0,none⟩) b.AM.length cP,.slice aL b.AQ.length cL,.slice aN b.AH.length cN',.slice aX b.AL.length cX,.slice aT b.sn.length cT,.slice aF b.fr.length cF,.slice aR b.rws.length cR]);have HZ:=Lib.hid (setRow_heap ((v5.alloc (.cells #[.int .i64 (-1),.int .i64 9,.int .i64 10] 2)).setCell ⟨gP,0,none⟩ (.int .i64 9)) w.heap.size _ #[.slice aW AA.length cW,.slice (some ⟨gP,0,none⟩) b.AM.length cP,.slice aL b.AQ.length cL,.slice aN b.AH.length cN',.slice aX b.AL.length cX,.slice aT b.sn.length cT,.slice aF b.fr.length cF,.slice aR b.rws.length cR] _ _ hR);have HO:=Lib.hid ((H.far HG.out (fun g hg=>by have:=Option.some.inj hg;omega)).fixed hmb);have HD:Hid (Dr w (((v5.alloc (.cells #[.int .i64 (-1),.int .i64 9,.int .i64 10] 2)).setCell ⟨gP,0,none⟩ (.int .i64 9)).setRow w.heap.size #[.slice aW AA.length cW,.slice (some ⟨gP,0,none⟩) b.AM.length cP,.slice aL b.AQ.length cL,.slice aN b.AH.length cN',.slice aX b.AL.length cX,.slice aT b.sn.length cT,.slice aF b.fr.length cF,.slice aR b.rws.length cR]) B c):=Lib.hid (EX.far HG.out (by omega) hcl hB);go_wp2_with (first|refine wpList_load_row rfl 30 _ rfl D rfl 30 _ (0,0) _ Bh Tryz.underlying30 rfl AF ?_|refine wpList_store_row rfl 30 _ _ rfl w.heap.size _ rfl rfl 30 _ hR AF rfl (by simp[Value.oneCell']) ?_)
      refine bodyPost_ret (Ac (by rfl) _ _ w.heap.size _ _ (0,0) _ rfl HZ.out Tryz.underlying30 rfl AF) rfl ?_;exact⟨⟨.slice aW AA.length cW,.slice (some ⟨gP,0,none⟩) b.AM.length cP,.slice aL b.AQ.length cL,.slice aN b.AH.length cN',.slice aX b.AL.length cX,.slice aT b.sn.length cT,.slice aF b.fr.length cF,.slice aR b.rws.length cR⟩,AA,{ b with AM:=b.AM.set 0 9 },rfl,HO.out,hz,HD.out⟩
     ·
      have lc:(v5.alloc (.cells #[.int .i64 (-1),.int .i64 9,.int .i64 10] 2)).cell? ⟨v5.heap.size,2,none⟩=some (.int .i64 10):=(cell_of_row _ _ 2 _ _ _ HN6).trans rfl;refine wpAnyH_ready (rs:=[5]) (by kernel_rfl) (by simp) ?_;refine AllReadyH.cons rfl (fun K hK=>?_) AllReadyH.nil;go_simp;refine hK.out _ _ ?_ (fun hHeld=>?_)
      . exact H6'.cells.2.1
      clear hK K;refine wpAnyH_ready (rs:=[6]) (by kernel_rfl) (by simp) ?_;refine AllReadyH.cons rfl (fun K hK=>?_) AllReadyH.nil;go_simp;refine hK.out _ _ ?_ (fun hHeld=>?_)
      . exact H6'.cells.2.1
      clear hK K;refine wpAnyH_ready (rs:=[7]) (by kernel_rfl) (by simp) ?_;refine AllReadyH.cons rfl (fun K hK=>?_) AllReadyH.nil;go_simp;refine hK.out _ _ ?_ (fun hHeld=>?_)
      . exact H6'.cells.2.1
      clear hK K;have o5:=H6'.oP;have d5:=World.ownsRow.cellAt o5 0 (by omega);obtain⟨u5,hu5⟩:∃u,(b.AM.map (Value.int .i64))[0]? = some u:=⟨_,List.getElem?_eq_getElem (by rw[List.length_map];omega)⟩;rw[hu5] at d5;have PT:=DR (k:=0) (x:=10) (H6'.Al.own .AM trivial) rfl;have fz5:=PT.2.2;refine wpAnyH_ready (rs:=[8]) (by kernel_rfl) (by simp) ?_;refine AllReadyH.cons rfl (fun K hK=>?_) AllReadyH.nil;go_simp;refine hK.out _ _ ?_ (fun hHeld=>?_)
      . exact (H6'.stay .AM trivial (by simp) PT.2.1 1).trans H6'.cells.2.1
      clear hK K;refine wpAnyH_done (by kernel_rfl) ?_ _;have gz:(v5.alloc (.cells #[.int .i64 (-1),.int .i64 9,.int .i64 10] 2)).grownBy ((v5.alloc (.cells #[.int .i64 (-1),.int .i64 9,.int .i64 10] 2)).setCell ⟨gP,0,none⟩ (.int .i64 10)) (some gP):=PT.2.1;have hR:=(gz.block w.heap.size (by have:=H6'.base;omega) (fun e=>by have:=(World.ownsRow.lt o5 gP rfl).1;have:=Option.some.inj e;omega)).trans hR6';have EX:=Cs.far gz (by have:=(World.ownsRow.lt o5 gP rfl).1;omega) hcl hB;have H:=H6'.Ox (k:=0) (x:=10) rfl;have hz:Cg AA { b with AM:=b.AM.set 0 10 }/\Fk { b with AM:=b.AM.set 0 10 }:=⟨⟨z.w1,z.w2,by simpa using z.AM,z.AQ,z.n1,z.n2,z.AL,z.sn,z.fr,z.r1,z.r2⟩,Bm LO.out⟩;clear gz PT o5 d5 fz5 lc;have Bh:=H.B6;simp only[BV.arr] at Bh;have HG:=Lib.hid (AV ((v5.alloc (.cells #[.int .i64 (-1),.int .i64 9,.int .i64 10] 2)).setCell ⟨gP,0,none⟩ (.int .i64 10)) w.heap.size #[.slice aW AA.length cW,.slice (some ⟨gP,0,none⟩) b.AM.length cP,.slice aL b.AQ.length cL,.slice aN b.AH.length cN',.slice aX b.AL.length cX,.slice aT b.sn.length cT,.slice aF b.fr.length cF,.slice aR b.rws.length cR]);have HZ:=Lib.hid (setRow_heap ((v5.alloc (.cells #[.int .i64 (-1),.int .i64 9,.int .i64 10] 2)).setCell ⟨gP,0,none⟩ (.int .i64 10)) w.heap.size _ #[.slice aW AA.length cW,.slice (some ⟨gP,0,none⟩) b.AM.length cP,.slice aL b.AQ.length cL,.slice aN b.AH.length cN',.slice aX b.AL.length cX,.slice aT b.sn.length cT,.slice aF b.fr.length cF,.slice aR b.rws.length cR] _ _ hR);have HO:=Lib.hid ((H.far HG.out (fun g hg=>by have:=Option.some.inj hg;omega)).fixed hmb);have HD:Hid (Dr w (((v5.alloc (.cells #[.int .i64 (-1),.int .i64 9,.int .i64 10] 2)).setCell ⟨gP,0,none⟩ (.int .i64 10)).setRow w.heap.size #[.slice aW AA.length cW,.slice (some ⟨gP,0,none⟩) b.AM.length cP,.slice aL b.AQ.length cL,.slice aN b.AH.length cN',.slice aX b.AL.length cX,.slice aT b.sn.length cT,.slice aF b.fr.length cF,.slice aR b.rws.length cR]) B c):=Lib.hid (EX.far HG.out (by omega) hcl hB);go_wp2_with (first|refine wpList_load_row rfl 30 _ rfl D rfl 30 _ (0,0) _ Bh Tryz.underlying30 rfl AF ?_|refine wpList_store_row rfl 30 _ _ rfl w.heap.size _ rfl rfl 30 _ hR AF rfl (by simp[Value.oneCell']) ?_)
      refine bodyPost_ret (Ac (by rfl) _ _ w.heap.size _ _ (0,0) _ rfl HZ.out Tryz.underlying30 rfl AF) rfl ?_;exact⟨⟨.slice aW AA.length cW,.slice (some ⟨gP,0,none⟩) b.AM.length cP,.slice aL b.AQ.length cL,.slice aN b.AH.length cN',.slice aX b.AL.length cX,.slice aT b.sn.length cT,.slice aF b.fr.length cF,.slice aR b.rws.length cR⟩,AA,{ b with AM:=b.AM.set 0 10 },rfl,HO.out,hz,HD.out⟩
   ·
    go_upto_region 7 with fail
    have z:=EU Lr;obtain⟨gX,rfl⟩:=ST H4.oX (show 0<b.AL.length by omega);have e4:=H4.cells.2.2.2.2.1;simp only at e4;have i2:(0:Int)<(b.AL.length:Int):=by omega
    have i3:0<b.AL.length:=by omega
    refine wp_region_held_drew (S:=(fun w'=>w'.cell? ⟨D,4,none⟩=some (.slice (some ⟨gX,0,none⟩) b.AL.length cX))) (by kernel_rfl) ?_ (fun hHeld=>?_)
    . exact e4
    refine AO 0 28 (v:=?_) ?_ ?_;rotate_left
    ·
     intro wx hSw;go_simp;with_reducible rfl
    refine AO 1 29 (v:=?_) ?_ ?_;rotate_left
    ·
     intro wx hSw;go_simp;with_reducible rfl
    refine AO 2 30 (v:=?_) ?_ ?_;rotate_left
    ·
     intro wx hSw;go_simp;with_reducible rfl
    simp only[Act.put,List.setIfInBounds_toArray,List.set_cons_zero,List.set_cons_succ];refine wpAnyH_ready (rs:=[3]) (by kernel_rfl) (by simp) ?_;refine AllReadyH.cons rfl (fun K hK=>?_) AllReadyH.nil;go_simp;refine (CM _ B c (-1) 6 Mr.drew.1 (by omega) (by omega) (by omega)).mono ?_;rintro e w5 ⟨y,rfl,-,-,KX,g5⟩;have VA:Dr w w5 B c:=Mr.drew.step KX g5;have H5:=H4.drew.far g5 (fun k hk=>by have:=Option.some.inj hk;omega);have hR5:=(g5.block w.heap.size (by have:=H4.base;show w.heap.size<w4.heap.size;omega) (fun e=>by have:=Option.some.inj e;omega)).trans hR4;have e5:=H5.cells.2.2.2.2.1;simp only at e5;have o5:=H5.oX;have d5:=World.ownsRow.cellAt o5 0 (by omega);obtain⟨u5,hu5⟩:∃u,(b.AL.map (Value.int .i64))[0]? = some u:=⟨_,List.getElem?_eq_getElem (by rw[List.length_map];omega)⟩;rw[hu5] at d5;have PT:=DR (k:=0) (x:=y) (H5.Al.own .AL trivial) rfl;have fz5:=PT.2.2;go_wp2_with fail
    refine hK.out _ _ ?_ (fun hHeld=>?_)
    . exact e5
    clear hK K;refine AO 4 32 (v:=?_) ?_ ?_;rotate_left
    ·
     intro wx hSw;go_simp;with_reducible rfl
    simp only[Act.put,List.setIfInBounds_toArray,List.set_cons_zero,List.set_cons_succ];refine wpAnyH_ready (rs:=[5]) (by kernel_rfl) (by simp) ?_;refine AllReadyH.cons rfl (fun K hK=>?_) AllReadyH.nil;go_simp;refine hK.out _ _ ?_ (fun hHeld=>?_)
    . exact (H5.stay .AL trivial (by simp) PT.2.1 4).trans e5
    clear hK K;refine wpAnyH_done (by kernel_rfl) ?_ _;have hR:=(PT.2.1.block w.heap.size (by have:=H5.base;omega) (fun e=>by have:=(World.ownsRow.lt o5 _ e.symm).1;omega)).trans hR5;have gz:w5.grownBy (w5.setCell ⟨gX,0,none⟩ (.int .i64 y)) (some gX):=PT.2.1;have EX:=VA.far gz (by have:=(World.ownsRow.lt o5 gX rfl).1;omega) hcl hB;have H:=H5.gM (k:=0) (x:=y) rfl;have hz:Cg AA { b with AL:=b.AL.set 0 y }/\Fk { b with AL:=b.AL.set 0 y }:=⟨⟨z.w1,z.w2,z.AM,z.AQ,z.n1,z.n2,by simpa using z.AL,z.sn,z.fr,z.r1,z.r2⟩,Bm LO.out⟩;clear gz PT H5 VA hR5 o5 d5 fz5 e5 hHeld e4 H4 Mr hR4 z;have Bh:=H.B6;simp only[BV.arr] at Bh;have HG:=Lib.hid (AV (w5.setCell ⟨gX,0,none⟩ (.int .i64 y)) w.heap.size #[.slice aW AA.length cW,.slice aP b.AM.length cP,.slice aL b.AQ.length cL,.slice aN b.AH.length cN',.slice (some ⟨gX,0,none⟩) b.AL.length cX,.slice aT b.sn.length cT,.slice aF b.fr.length cF,.slice aR b.rws.length cR]);have HZ:=Lib.hid (setRow_heap (w5.setCell ⟨gX,0,none⟩ (.int .i64 y)) w.heap.size _ #[.slice aW AA.length cW,.slice aP b.AM.length cP,.slice aL b.AQ.length cL,.slice aN b.AH.length cN',.slice (some ⟨gX,0,none⟩) b.AL.length cX,.slice aT b.sn.length cT,.slice aF b.fr.length cF,.slice aR b.rws.length cR] _ _ hR);have HO:=Lib.hid ((H.far HG.out (fun g hg=>by have:=Option.some.inj hg;omega)).fixed hmb);have HD:Hid (Dr w ((w5.setCell ⟨gX,0,none⟩ (.int .i64 y)).setRow w.heap.size #[.slice aW AA.length cW,.slice aP b.AM.length cP,.slice aL b.AQ.length cL,.slice aN b.AH.length cN',.slice (some ⟨gX,0,none⟩) b.AL.length cX,.slice aT b.sn.length cT,.slice aF b.fr.length cF,.slice aR b.rws.length cR]) B c):=Lib.hid (EX.far HG.out (by omega) hcl hB);go_wp2_with (first|refine wpList_load_row rfl 30 _ rfl D rfl 30 _ (0,0) _ Bh Tryz.underlying30 rfl AF ?_|refine wpList_store_row rfl 30 _ _ rfl w.heap.size _ rfl rfl 30 _ hR AF rfl (by simp[Value.oneCell']) ?_)
    refine bodyPost_ret (Ac (by rfl) _ _ w.heap.size _ _ (0,0) _ rfl HZ.out Tryz.underlying30 rfl AF) rfl ?_;exact⟨⟨.slice aW AA.length cW,.slice aP b.AM.length cP,.slice aL b.AQ.length cL,.slice aN b.AH.length cN',.slice (some ⟨gX,0,none⟩) b.AL.length cX,.slice aT b.sn.length cT,.slice aF b.fr.length cF,.slice aR b.rws.length cR⟩,AA,{ b with AL:=b.AL.set 0 y },rfl,HO.out,hz,HD.out⟩
   ·
    go_upto_region 9 with fail
    have z:=EU Lr;obtain⟨gL,rfl⟩:=ST H4.oL (show 0<b.AQ.length by omega);have e4:=H4.cells.2.2.1;simp only at e4;have i2:(1:Int)<(b.AQ.length:Int):=by omega
    have i3:1<b.AQ.length:=by omega
    refine wp_region_held_drew (S:=(fun w'=>w'.cell? ⟨D,2,none⟩=some (.slice (some ⟨gL,0,none⟩) b.AQ.length cL))) (by kernel_rfl) ?_ (fun hHeld=>?_)
    . exact e4
    refine AO 0 35 (v:=?_) ?_ ?_;rotate_left
    ·
     intro wx hSw;go_simp;with_reducible rfl
    refine AO 1 36 (v:=?_) ?_ ?_;rotate_left
    ·
     intro wx hSw;go_simp;with_reducible rfl
    refine AO 2 37 (v:=?_) ?_ ?_;rotate_left
    ·
     intro wx hSw;go_simp;with_reducible rfl
    simp only[Act.put,List.setIfInBounds_toArray,List.set_cons_zero,List.set_cons_succ];refine wpAnyH_ready (rs:=[3]) (by kernel_rfl) (by simp) ?_;refine AllReadyH.cons rfl (fun K hK=>?_) AllReadyH.nil;go_simp;refine (CM _ B c (-1) 10 Mr.drew.1 (by omega) (by omega) (by omega)).mono ?_;rintro e w5 ⟨y,rfl,-,-,KX,g5⟩;have VA:Dr w w5 B c:=Mr.drew.step KX g5;have H5:=H4.drew.far g5 (fun k hk=>by have:=Option.some.inj hk;omega);have hR5:=(g5.block w.heap.size (by have:=H4.base;show w.heap.size<w4.heap.size;omega) (fun e=>by have:=Option.some.inj e;omega)).trans hR4;have e5:=H5.cells.2.2.1;simp only at e5;have o5:=H5.oL;have d5:=World.ownsRow.cellAt o5 1 (by omega);obtain⟨u5,hu5⟩:∃u,(b.AQ.map (Value.int .i64))[1]? = some u:=⟨_,List.getElem?_eq_getElem (by rw[List.length_map];omega)⟩;rw[hu5] at d5;have PT:=DR (k:=1) (x:=y) (H5.Al.own .AQ trivial) rfl;have fz5:=PT.2.2;go_wp2_with fail
    refine hK.out _ _ ?_ (fun hHeld=>?_)
    . exact e5
    clear hK K;refine AO 4 39 (v:=?_) ?_ ?_;rotate_left
    ·
     intro wx hSw;go_simp;with_reducible rfl
    simp only[Act.put,List.setIfInBounds_toArray,List.set_cons_zero,List.set_cons_succ];refine wpAnyH_ready (rs:=[5]) (by kernel_rfl) (by simp) ?_;refine AllReadyH.cons rfl (fun K hK=>?_) AllReadyH.nil;go_simp;refine hK.out _ _ ?_ (fun hHeld=>?_)
    . exact (H5.stay .AQ trivial (by simp) PT.2.1 2).trans e5
    clear hK K;refine wpAnyH_done (by kernel_rfl) ?_ _;have hR:=(PT.2.1.block w.heap.size (by have:=H5.base;omega) (fun e=>by have:=(World.ownsRow.lt o5 _ e.symm).1;omega)).trans hR5;have gz:w5.grownBy (w5.setCell ⟨gL,1,none⟩ (.int .i64 y)) (some gL):=PT.2.1;have EX:=VA.far gz (by have:=(World.ownsRow.lt o5 gL rfl).1;omega) hcl hB;have H:=H5.ZM (k:=1) (x:=y) rfl;have hz:Cg AA { b with AQ:=b.AQ.set 1 y }/\Fk { b with AQ:=b.AQ.set 1 y }:=⟨⟨z.w1,z.w2,z.AM,by simpa using z.AQ,z.n1,z.n2,z.AL,z.sn,z.fr,z.r1,z.r2⟩,Bm LO.out⟩;clear gz PT H5 VA hR5 o5 d5 fz5 e5 hHeld e4 H4 Mr hR4 z;have Bh:=H.B6;simp only[BV.arr] at Bh;have HG:=Lib.hid (AV (w5.setCell ⟨gL,1,none⟩ (.int .i64 y)) w.heap.size #[.slice aW AA.length cW,.slice aP b.AM.length cP,.slice (some ⟨gL,0,none⟩) b.AQ.length cL,.slice aN b.AH.length cN',.slice aX b.AL.length cX,.slice aT b.sn.length cT,.slice aF b.fr.length cF,.slice aR b.rws.length cR]);have HZ:=Lib.hid (setRow_heap (w5.setCell ⟨gL,1,none⟩ (.int .i64 y)) w.heap.size _ #[.slice aW AA.length cW,.slice aP b.AM.length cP,.slice (some ⟨gL,0,none⟩) b.AQ.length cL,.slice aN b.AH.length cN',.slice aX b.AL.length cX,.slice aT b.sn.length cT,.slice aF b.fr.length cF,.slice aR b.rws.length cR] _ _ hR);have HO:=Lib.hid ((H.far HG.out (fun g hg=>by have:=Option.some.inj hg;omega)).fixed hmb);have HD:Hid (Dr w ((w5.setCell ⟨gL,1,none⟩ (.int .i64 y)).setRow w.heap.size #[.slice aW AA.length cW,.slice aP b.AM.length cP,.slice (some ⟨gL,0,none⟩) b.AQ.length cL,.slice aN b.AH.length cN',.slice aX b.AL.length cX,.slice aT b.sn.length cT,.slice aF b.fr.length cF,.slice aR b.rws.length cR]) B c):=Lib.hid (EX.far HG.out (by omega) hcl hB);go_wp2_with (first|refine wpList_load_row rfl 30 _ rfl D rfl 30 _ (0,0) _ Bh Tryz.underlying30 rfl AF ?_|refine wpList_store_row rfl 30 _ _ rfl w.heap.size _ rfl rfl 30 _ hR AF rfl (by simp[Value.oneCell']) ?_)
    refine bodyPost_ret (Ac (by rfl) _ _ w.heap.size _ _ (0,0) _ rfl HZ.out Tryz.underlying30 rfl AF) rfl ?_;exact⟨⟨.slice aW AA.length cW,.slice aP b.AM.length cP,.slice (some ⟨gL,0,none⟩) b.AQ.length cL,.slice aN b.AH.length cN',.slice aX b.AL.length cX,.slice aT b.sn.length cT,.slice aF b.fr.length cF,.slice aR b.rws.length cR⟩,AA,{ b with AQ:=b.AQ.set 1 y },rfl,HO.out,hz,HD.out⟩
   ·
    go_upto_region 11 with fail
    have z:=EU Lr;have i3:0<b.AH.length:=by omega
    have i4:(0:Int)<(b.AH.length:Int):=by omega
    obtain⟨gN,rfl,-,gge⟩:=H4.VT rfl i3;have r20:=BL.out.2.2.2.2.2.2.2.2.2 0 (by omega);obtain⟨ar,cr0,er,-⟩:=BW.rd Dg (H4.oN (c:=0) i3);obtain⟨Z,hZ⟩:∃Z,Z=b.AH.getD 0 []:=⟨_,rfl⟩;rw[<-hZ] at r20 er;generalize Z.length+cr0=cr at er;have PX:=Lib.hid hZ;clear hZ;obtain⟨i0,hi,hz0,hz1,hz2⟩:=info_parts Tryz.Rz;have HA:=H4.drew;have DA:=Mr.drew;have RA:w4.drew.heap[w.heap.size]? = some (.cells #[AE,AE,AE,AE,AE,AE,AE,AE] 30 (0,0)):=hR4;refine wp_region_held_drew (S:=(fun w'=>w'.cell? ⟨D,3,none⟩=some (.slice (some ⟨gN,0,none⟩) b.AH.length cN'))) (by kernel_rfl) ?_ (fun hHeld=>?_)
    . exact HA.cells.2.2.2.1
    refine AO 0 42 (v:=?_) ?_ ?_;rotate_left
    ·
     intro wx hSw;go_simp;with_reducible rfl
    refine AO 1 43 (v:=?_) ?_ ?_;rotate_left
    ·
     intro wx hSw;go_simp;with_reducible rfl
    refine AO 2 44 (v:=?_) ?_ ?_;rotate_left
    ·
     intro wx hSw;go_simp;with_reducible rfl
    refine AO 3 45 (v:=?_) ?_ ?_;rotate_left
    ·
     intro wx hSw;go_simp;with_reducible rfl
    refine AO 4 46 (v:=?_) ?_ ?_;rotate_left
    ·
     intro wx hSw;go_simp;with_reducible rfl
    refine AO 6 48 (v:=?_) ?_ ?_;rotate_left
    ·
     intro wx hSw;go_simp;with_reducible rfl
    refine AO 8 50 (v:=?_) ?_ ?_;rotate_left
    ·
     intro wx hSw;go_simp;with_reducible rfl
    refine AO 10 52 (v:=?_) ?_ ?_;rotate_left
    ·
     intro wx hSw;go_simp;with_reducible rfl
    simp only[Act.put,List.setIfInBounds_toArray,List.set_cons_zero,List.set_cons_succ];refine wpAnyH_ready (rs:=[5,7]) (by kernel_rfl) (by simp) ?_;refine AllReadyH.cons rfl (fun K hK=>?_) (AllReadyH.cons rfl (fun K hK=>?_) AllReadyH.nil)
    ·
     have hh:=HA.hN2 rfl i3;rw[er] at hh;go_simp;refine hK.out _ _ ?_ (fun hHeld=>?_)
     . exact HA.cells.2.2.2.1
     clear hK K;clear hh;refine wpAnyH_ready (rs:=[7]) (by kernel_rfl) (by simp) ?_;refine AllReadyH.cons rfl (fun K hK=>?_) AllReadyH.nil;go_simp;refine (CM _ B c (-1) 3 DA.1 (by omega) (by omega) (by omega)).mono ?_;rintro e v5 ⟨y5,rfl,-,-,KX,g5⟩;have EL:Dr w v5 B c:=DA.step KX g5;have H5':=HA.far g5 (fun k hk=>by have:=Option.some.inj hk;omega);have hR5':=(g5.block w.heap.size (by have:=HA.base;omega) (fun e=>by have:=Option.some.inj e;omega)).trans RA;go_wp2_with fail
     refine hK.out _ _ ?_ (fun hHeld=>?_)
     . exact H5'.cells.2.2.2.1
     clear hK K;refine wpAnyH_ready (rs:=[9]) (by kernel_rfl) (by simp) ?_;refine AllReadyH.cons rfl (fun K hK=>?_) AllReadyH.nil;go_simp;refine (CM _ B c (-1) 10 EL.1 (by omega) (by omega) (by omega)).mono ?_;rintro e v6 ⟨y6,rfl,-,-,dm,g6⟩;have Cs:Dr w v6 B c:=EL.step dm g6;have H6':=H5'.far g6 (fun k hk=>by have:=Option.some.inj hk;omega);have hR6':=(g6.block w.heap.size (by have:=H5'.base;omega) (fun e=>by have:=Option.some.inj e;omega)).trans hR5';go_wp2_with fail
     refine hK.out _ _ ?_ (fun hHeld=>?_)
     . exact H6'.cells.2.2.2.1
     clear hK K;refine wpAnyH_ready (rs:=[11]) (by kernel_rfl) (by simp) ?_;refine AllReadyH.cons rfl (fun K hK=>?_) AllReadyH.nil;go_simp;refine (CM _ B c (-1) 5 Cs.1 (by omega) (by omega) (by omega)).mono ?_;rintro e v7 ⟨y7,rfl,-,-,UA,g7⟩;have J6:Dr w v7 B c:=Cs.step UA g7;have H7':=H6'.far g7 (fun k hk=>by have:=Option.some.inj hk;omega);have hR7':=(g7.block w.heap.size (by have:=H6'.base;omega) (fun e=>by have:=Option.some.inj e;omega)).trans hR6';go_wp2_with fail
     refine hK.out _ _ ?_ (fun hHeld=>?_)
     . exact H7'.cells.2.2.2.1
     clear hK K;refine AO 12 54 (v:=?_) ?_ ?_;rotate_left
     ·
      intro wx hSw;go_simp;with_reducible rfl
     simp only[Act.put,List.setIfInBounds_toArray,List.set_cons_zero,List.set_cons_succ];refine wpAnyH_ready (rs:=[13]) (by kernel_rfl) (by simp) ?_;refine AllReadyH.cons rfl (fun K hK=>?_) AllReadyH.nil;go_simp;have K8':AC v7 (v7.alloc (.cells #[.int .i64 y5,.int .i64 y6,.int .i64 y7] 44)):=(AC.refl _).alloc _;have JD:=J6.keep K8';have H8':=H7'.keep K8';have hR8':=(Below.block K8' w.heap.size (by have:=H7'.base;omega)).trans hR7';have HN8:(v7.alloc (.cells #[.int .i64 y5,.int .i64 y6,.int .i64 y7] 44)).heap[v7.heap.size]? = some (.cells #[.int .i64 y5,.int .i64 y6,.int .i64 y7] 44 (0,0)):=heap_alloc_new _ _;have HS8:(v7.alloc (.cells #[.int .i64 y5,.int .i64 y6,.int .i64 y7] 44)).heap.size=v7.heap.size+1:=AD _ _;refine hK.out _ _ ?_ (fun hHeld=>?_)
     . exact H8'.cells.2.2.2.1
     clear hK K;refine wpAnyH_ready (rs:=[14]) (by kernel_rfl) (by simp) ?_;refine AllReadyH.cons rfl (fun K hK=>?_) AllReadyH.nil;have o3:(v7.alloc (.cells #[.int .i64 y5,.int .i64 y6,.int .i64 y7] 44)).ownsRow (w.heap.size+1) 44 3 (.slice ar Z.length cr) Z.length (Z.flatMap cN):=by have:=H8'.oN (c:=0) (by omega);rw[er,<-PX.out] at this;exact this
     have s3:w.heap.size+1<=(v7.alloc (.cells #[.int .i64 y5,.int .i64 y6,.int .i64 y7] 44)).heap.size:=by have:=H8'.base;omega
     refine step_append_lies _ (by rfl) _ _ _ (by rfl) (w.heap.size+1) 44 i0 _ 3 24 Tryz.underlying42 hi hz0 hz1 hz2 rfl (by omega) (.slice ar Z.length cr) Z.length (Z.flatMap cN) (by rfl) o3 ⟨v7.heap.size,0,none⟩ 1 1 [.int .i64 y5,.int .i64 y6,.int .i64 y7] (by rfl) (by rfl) (World.news_of_block (cs:=#[.int .i64 y5,.int .i64 y6,.int .i64 y7]) (t:=44) (fr:=(0,0)) HN8) (by simp[Value.oneCell']) (by omega) (by unfold maxLen;omega) (by omega) s3 _ rfl ?_;intro gg cap5 w6 hown6 hgrow hat hlt6;have oN:BW cN 44 3 w6 (w.heap.size+1) (Value.slice (some ⟨gg,0,none⟩) (Z.length+1) cap5) (Z++[(y5,y6,y7)]):=De hown6
     have hb6:(Value.slice (some ⟨gg,0,none⟩) (Z.length+1) cap5).ownBlock=(nv.getD 0 AE).ownBlock\/(Value.slice (some ⟨gg,0,none⟩) (Z.length+1) cap5).ownBlock=some (v7.alloc (.cells #[.int .i64 y5,.int .i64 y6,.int .i64 y7] 44)).heap.size\/(Value.slice (some ⟨gg,0,none⟩) (Z.length+1) cap5).ownBlock=none:=by
      rcases hat with q|q
      . exact .inl (by rw[er,q];rfl)
      . exact .inr (.inl (by rw[q];rfl))
     have hgr:(v7.alloc (.cells #[.int .i64 y5,.int .i64 y6,.int .i64 y7] 44)).grownBy w6 (nv.getD 0 AE).ownBlock:=by rw[er];exact hgrow
     have HD6:=H8'.Lu (c:=0) (by omega) hgr hb6 oN rfl;have HS6:=(H8'.stay (.nt 0) (show 0<nv.length by rw[H8'.ln];omega) (by simp) hgr 3).trans H8'.cells.2.2.2.1;have gl:∀k,(nv.getD 0 AE).ownBlock=some k->w.heap.size<=k:=fun k hk=>by have:=(H8'.ge (.nt 0) (show 0<nv.length by rw[H8'.ln];omega)) k hk;omega
     have E0:=JD.Ll hgr gl hcl hB;have hR6:=(hgr.block w.heap.size (by have:=H8'.base;omega) (fun e=>by have:=(H8'.ge (.nt 0) (show 0<nv.length by rw[H8'.ln];omega)) _ e.symm;omega)).trans hR8';have c6:=HD6.2.1;have f6:=HD6.2.2;have z6:w.heap.size<w6.heap.size:=by have:=hgr.size;omega
     rw[er] at c6;refine hK.out _ _ ?_ (fun hHeld=>?_)
     . exact HS6
     clear hK K;simp only[Act.put,List.setIfInBounds_toArray];refine AO 15 57 (v:=?_) ?_ ?_;rotate_left
     ·
      intro wx hSw;go_simp;with_reducible rfl
     simp only[Act.put];refine wpAnyH_ready (rs:=[16]) (by kernel_rfl) (by simp) ?_;refine AllReadyH.cons rfl (fun K hK=>?_) AllReadyH.nil;go_simp;refine hK.out _ _ ?_ (fun hHeld=>?_)
     . exact HD6.1.cells.2.2.2.1
     clear hK K;refine wpAnyH_done (by kernel_rfl) ?_ _;have gz:w6.grownBy (w6.setCell ⟨gN,0,none⟩ (.slice (some ⟨gg,0,none⟩) (Z.length+1) cap5)) (some gN):=Ad w6 gN 0 _;have hR:=(gz.block w.heap.size z6 (fun e=>by have:=Option.some.inj e;omega)).trans hR6;have EX:=E0.far gz (by omega) hcl hB;have H:=HD6.1
     have hz:Cg AA { b with AH:=b.AH.set 0 (Z++[(y5,y6,y7)]) }/\Fk { b with AH:=b.AH.set 0 (Z++[(y5,y6,y7)]) }:=⟨⟨z.w1,z.w2,z.AM,z.AQ,by simpa using z.n1,fun i hi=>by
      show ((b.AH.set 0 (Z++[(y5,y6,y7)])).getD i []).length<=1048576;rw[Ah _ _ _ _ (by omega)];split
      . rw[List.length_append];simp only[List.length_cons,List.length_nil];omega
      . exact z.n2 i (by simpa using hi),z.AL,z.sn,z.fr,z.r1,z.r2⟩,fun i=>by
      show ((b.AH.set 0 (Z++[(y5,y6,y7)])).getD i []).length<=7;rw[Ah _ _ _ _ (by omega)];split
      . rw[List.length_append,PX.out];have:=LO.out.1 0;simp only[List.length_cons,List.length_nil];omega
      . exact (Bm LO.out).1 i,(Bm LO.out).2⟩
     clear HD6 HS6 E0 hR6 c6 f6 hgr gl hown6 hgrow oN gz;have Bh:=H.B6;simp only[BV.arr] at Bh;have HG:=Lib.hid (AV (w6.setCell ⟨gN,0,none⟩ (.slice (some ⟨gg,0,none⟩) (Z.length+1) cap5)) w.heap.size #[.slice aW AA.length cW,.slice aP b.AM.length cP,.slice aL b.AQ.length cL,.slice (some ⟨gN,0,none⟩) b.AH.length cN',.slice aX b.AL.length cX,.slice aT b.sn.length cT,.slice aF b.fr.length cF,.slice aR b.rws.length cR]);have HZ:=Lib.hid (setRow_heap (w6.setCell ⟨gN,0,none⟩ (.slice (some ⟨gg,0,none⟩) (Z.length+1) cap5)) w.heap.size _ #[.slice aW AA.length cW,.slice aP b.AM.length cP,.slice aL b.AQ.length cL,.slice (some ⟨gN,0,none⟩) b.AH.length cN',.slice aX b.AL.length cX,.slice aT b.sn.length cT,.slice aF b.fr.length cF,.slice aR b.rws.length cR] _ _ hR);have HO:=Lib.hid ((H.far HG.out (fun g hg=>by have:=Option.some.inj hg;omega)).fixed hmb);have HD:Hid (Dr w ((w6.setCell ⟨gN,0,none⟩ (.slice (some ⟨gg,0,none⟩) (Z.length+1) cap5)).setRow w.heap.size #[.slice aW AA.length cW,.slice aP b.AM.length cP,.slice aL b.AQ.length cL,.slice (some ⟨gN,0,none⟩) b.AH.length cN',.slice aX b.AL.length cX,.slice aT b.sn.length cT,.slice aF b.fr.length cF,.slice aR b.rws.length cR]) B c):=Lib.hid (EX.far HG.out (by omega) hcl hB);go_wp2_with (first|refine wpList_load_row rfl 30 _ rfl D rfl 30 _ (0,0) _ Bh Tryz.underlying30 rfl AF ?_|refine wpList_store_row rfl 30 _ _ rfl w.heap.size _ rfl rfl 30 _ hR AF rfl (by simp[Value.oneCell']) ?_)
     refine bodyPost_ret (Ac (by rfl) _ _ w.heap.size _ _ (0,0) _ rfl HZ.out Tryz.underlying30 rfl AF) rfl ?_;exact⟨⟨.slice aW AA.length cW,.slice aP b.AM.length cP,.slice aL b.AQ.length cL,.slice (some ⟨gN,0,none⟩) b.AH.length cN',.slice aX b.AL.length cX,.slice aT b.sn.length cT,.slice aF b.fr.length cF,.slice aR b.rws.length cR⟩,AA,{ b with AH:=b.AH.set 0 (Z++[(y5,y6,y7)]) },rfl,HO.out,hz,HD.out⟩
    ·
     go_simp;refine (CM _ B c (-1) 3 DA.1 (by omega) (by omega) (by omega)).mono ?_;rintro e v5 ⟨y5,rfl,-,-,KX,g5⟩;have EL:Dr w v5 B c:=DA.step KX g5;have H5':=HA.far g5 (fun k hk=>by have:=Option.some.inj hk;omega);have hR5':=(g5.block w.heap.size (by have:=HA.base;omega) (fun e=>by have:=Option.some.inj e;omega)).trans RA;go_wp2_with fail
     refine hK.out _ _ ?_ (fun hHeld=>?_)
     . exact H5'.cells.2.2.2.1
     clear hK K;refine wpAnyH_ready (rs:=[5,9]) (by kernel_rfl) (by simp) ?_;refine AllReadyH.cons rfl (fun K hK=>?_) (AllReadyH.cons rfl (fun K hK=>?_) AllReadyH.nil)
     ·
      have hh:=H5'.hN2 rfl i3;rw[er] at hh;go_simp;refine hK.out _ _ ?_ (fun hHeld=>?_)
      . exact H5'.cells.2.2.2.1
      clear hK K;clear hh;refine wpAnyH_ready (rs:=[9]) (by kernel_rfl) (by simp) ?_;refine AllReadyH.cons rfl (fun K hK=>?_) AllReadyH.nil;go_simp;refine (CM _ B c (-1) 10 EL.1 (by omega) (by omega) (by omega)).mono ?_;rintro e v6 ⟨y6,rfl,-,-,dm,g6⟩;have Cs:Dr w v6 B c:=EL.step dm g6;have H6':=H5'.far g6 (fun k hk=>by have:=Option.some.inj hk;omega);have hR6':=(g6.block w.heap.size (by have:=H5'.base;omega) (fun e=>by have:=Option.some.inj e;omega)).trans hR5';go_wp2_with fail
      refine hK.out _ _ ?_ (fun hHeld=>?_)
      . exact H6'.cells.2.2.2.1
      clear hK K;refine wpAnyH_ready (rs:=[11]) (by kernel_rfl) (by simp) ?_;refine AllReadyH.cons rfl (fun K hK=>?_) AllReadyH.nil;go_simp;refine (CM _ B c (-1) 5 Cs.1 (by omega) (by omega) (by omega)).mono ?_;rintro e v7 ⟨y7,rfl,-,-,UA,g7⟩;have J6:Dr w v7 B c:=Cs.step UA g7;have H7':=H6'.far g7 (fun k hk=>by have:=Option.some.inj hk;omega);have hR7':=(g7.block w.heap.size (by have:=H6'.base;omega) (fun e=>by have:=Option.some.inj e;omega)).trans hR6';go_wp2_with fail
      refine hK.out _ _ ?_ (fun hHeld=>?_)
      . exact H7'.cells.2.2.2.1
      clear hK K;refine AO 12 54 (v:=?_) ?_ ?_;rotate_left
      ·
       intro wx hSw;go_simp;with_reducible rfl
      simp only[Act.put,List.setIfInBounds_toArray,List.set_cons_zero,List.set_cons_succ];refine wpAnyH_ready (rs:=[13]) (by kernel_rfl) (by simp) ?_;refine AllReadyH.cons rfl (fun K hK=>?_) AllReadyH.nil;go_simp;have K8':AC v7 (v7.alloc (.cells #[.int .i64 y5,.int .i64 y6,.int .i64 y7] 44)):=(AC.refl _).alloc _;have JD:=J6.keep K8';have H8':=H7'.keep K8';have hR8':=(Below.block K8' w.heap.size (by have:=H7'.base;omega)).trans hR7';have HN8:(v7.alloc (.cells #[.int .i64 y5,.int .i64 y6,.int .i64 y7] 44)).heap[v7.heap.size]? = some (.cells #[.int .i64 y5,.int .i64 y6,.int .i64 y7] 44 (0,0)):=heap_alloc_new _ _;have HS8:(v7.alloc (.cells #[.int .i64 y5,.int .i64 y6,.int .i64 y7] 44)).heap.size=v7.heap.size+1:=AD _ _;refine hK.out _ _ ?_ (fun hHeld=>?_)
      . exact H8'.cells.2.2.2.1
      clear hK K;refine wpAnyH_ready (rs:=[14]) (by kernel_rfl) (by simp) ?_;refine AllReadyH.cons rfl (fun K hK=>?_) AllReadyH.nil;have o3:(v7.alloc (.cells #[.int .i64 y5,.int .i64 y6,.int .i64 y7] 44)).ownsRow (w.heap.size+1) 44 3 (.slice ar Z.length cr) Z.length (Z.flatMap cN):=by have:=H8'.oN (c:=0) (by omega);rw[er,<-PX.out] at this;exact this
      have s3:w.heap.size+1<=(v7.alloc (.cells #[.int .i64 y5,.int .i64 y6,.int .i64 y7] 44)).heap.size:=by have:=H8'.base;omega
      refine step_append_lies _ (by rfl) _ _ _ (by rfl) (w.heap.size+1) 44 i0 _ 3 24 Tryz.underlying42 hi hz0 hz1 hz2 rfl (by omega) (.slice ar Z.length cr) Z.length (Z.flatMap cN) (by rfl) o3 ⟨v7.heap.size,0,none⟩ 1 1 [.int .i64 y5,.int .i64 y6,.int .i64 y7] (by rfl) (by rfl) (World.news_of_block (cs:=#[.int .i64 y5,.int .i64 y6,.int .i64 y7]) (t:=44) (fr:=(0,0)) HN8) (by simp[Value.oneCell']) (by omega) (by unfold maxLen;omega) (by omega) s3 _ rfl ?_;intro gg cap5 w6 hown6 hgrow hat hlt6;have oN:BW cN 44 3 w6 (w.heap.size+1) (Value.slice (some ⟨gg,0,none⟩) (Z.length+1) cap5) (Z++[(y5,y6,y7)]):=De hown6
      have hb6:(Value.slice (some ⟨gg,0,none⟩) (Z.length+1) cap5).ownBlock=(nv.getD 0 AE).ownBlock\/(Value.slice (some ⟨gg,0,none⟩) (Z.length+1) cap5).ownBlock=some (v7.alloc (.cells #[.int .i64 y5,.int .i64 y6,.int .i64 y7] 44)).heap.size\/(Value.slice (some ⟨gg,0,none⟩) (Z.length+1) cap5).ownBlock=none:=by
       rcases hat with q|q
       . exact .inl (by rw[er,q];rfl)
       . exact .inr (.inl (by rw[q];rfl))
      have hgr:(v7.alloc (.cells #[.int .i64 y5,.int .i64 y6,.int .i64 y7] 44)).grownBy w6 (nv.getD 0 AE).ownBlock:=by rw[er];exact hgrow
      have HD6:=H8'.Lu (c:=0) (by omega) hgr hb6 oN rfl;have HS6:=(H8'.stay (.nt 0) (show 0<nv.length by rw[H8'.ln];omega) (by simp) hgr 3).trans H8'.cells.2.2.2.1;have gl:∀k,(nv.getD 0 AE).ownBlock=some k->w.heap.size<=k:=fun k hk=>by have:=(H8'.ge (.nt 0) (show 0<nv.length by rw[H8'.ln];omega)) k hk;omega
      have E0:=JD.Ll hgr gl hcl hB;have hR6:=(hgr.block w.heap.size (by have:=H8'.base;omega) (fun e=>by have:=(H8'.ge (.nt 0) (show 0<nv.length by rw[H8'.ln];omega)) _ e.symm;omega)).trans hR8';have c6:=HD6.2.1;have f6:=HD6.2.2;have z6:w.heap.size<w6.heap.size:=by have:=hgr.size;omega
      rw[er] at c6;refine hK.out _ _ ?_ (fun hHeld=>?_)
      . exact HS6
      clear hK K;simp only[Act.put,List.setIfInBounds_toArray];refine AO 15 57 (v:=?_) ?_ ?_;rotate_left
      ·
       intro wx hSw;go_simp;with_reducible rfl
      simp only[Act.put];refine wpAnyH_ready (rs:=[16]) (by kernel_rfl) (by simp) ?_;refine AllReadyH.cons rfl (fun K hK=>?_) AllReadyH.nil;go_simp;refine hK.out _ _ ?_ (fun hHeld=>?_)
      . exact HD6.1.cells.2.2.2.1
      clear hK K;refine wpAnyH_done (by kernel_rfl) ?_ _;have gz:w6.grownBy (w6.setCell ⟨gN,0,none⟩ (.slice (some ⟨gg,0,none⟩) (Z.length+1) cap5)) (some gN):=Ad w6 gN 0 _;have hR:=(gz.block w.heap.size z6 (fun e=>by have:=Option.some.inj e;omega)).trans hR6;have EX:=E0.far gz (by omega) hcl hB;have H:=HD6.1
      have hz:Cg AA { b with AH:=b.AH.set 0 (Z++[(y5,y6,y7)]) }/\Fk { b with AH:=b.AH.set 0 (Z++[(y5,y6,y7)]) }:=⟨⟨z.w1,z.w2,z.AM,z.AQ,by simpa using z.n1,fun i hi=>by
       show ((b.AH.set 0 (Z++[(y5,y6,y7)])).getD i []).length<=1048576;rw[Ah _ _ _ _ (by omega)];split
       . rw[List.length_append];simp only[List.length_cons,List.length_nil];omega
       . exact z.n2 i (by simpa using hi),z.AL,z.sn,z.fr,z.r1,z.r2⟩,fun i=>by
       show ((b.AH.set 0 (Z++[(y5,y6,y7)])).getD i []).length<=7;rw[Ah _ _ _ _ (by omega)];split
       . rw[List.length_append,PX.out];have:=LO.out.1 0;simp only[List.length_cons,List.length_nil];omega
       . exact (Bm LO.out).1 i,(Bm LO.out).2⟩
      clear HD6 HS6 E0 hR6 c6 f6 hgr gl hown6 hgrow oN gz;have Bh:=H.B6;simp only[BV.arr] at Bh;have HG:=Lib.hid (AV (w6.setCell ⟨gN,0,none⟩ (.slice (some ⟨gg,0,none⟩) (Z.length+1) cap5)) w.heap.size #[.slice aW AA.length cW,.slice aP b.AM.length cP,.slice aL b.AQ.length cL,.slice (some ⟨gN,0,none⟩) b.AH.length cN',.slice aX b.AL.length cX,.slice aT b.sn.length cT,.slice aF b.fr.length cF,.slice aR b.rws.length cR]);have HZ:=Lib.hid (setRow_heap (w6.setCell ⟨gN,0,none⟩ (.slice (some ⟨gg,0,none⟩) (Z.length+1) cap5)) w.heap.size _ #[.slice aW AA.length cW,.slice aP b.AM.length cP,.slice aL b.AQ.length cL,.slice (some ⟨gN,0,none⟩) b.AH.length cN',.slice aX b.AL.length cX,.slice aT b.sn.length cT,.slice aF b.fr.length cF,.slice aR b.rws.length cR] _ _ hR);have HO:=Lib.hid ((H.far HG.out (fun g hg=>by have:=Option.some.inj hg;omega)).fixed hmb);have HD:Hid (Dr w ((w6.setCell ⟨gN,0,none⟩ (.slice (some ⟨gg,0,none⟩) (Z.length+1) cap5)).setRow w.heap.size #[.slice aW AA.length cW,.slice aP b.AM.length cP,.slice aL b.AQ.length cL,.slice (some ⟨gN,0,none⟩) b.AH.length cN',.slice aX b.AL.length cX,.slice aT b.sn.length cT,.slice aF b.fr.length cF,.slice aR b.rws.length cR]) B c):=Lib.hid (EX.far HG.out (by omega) hcl hB);go_wp2_with (first|refine wpList_load_row rfl 30 _ rfl D rfl 30 _ (0,0) _ Bh Tryz.underlying30 rfl AF ?_|refine wpList_store_row rfl 30 _ _ rfl w.heap.size _ rfl rfl 30 _ hR AF rfl (by simp[Value.oneCell']) ?_)
      refine bodyPost_ret (Ac (by rfl) _ _ w.heap.size _ _ (0,0) _ rfl HZ.out Tryz.underlying30 rfl AF) rfl ?_;exact⟨⟨.slice aW AA.length cW,.slice aP b.AM.length cP,.slice aL b.AQ.length cL,.slice (some ⟨gN,0,none⟩) b.AH.length cN',.slice aX b.AL.length cX,.slice aT b.sn.length cT,.slice aF b.fr.length cF,.slice aR b.rws.length cR⟩,AA,{ b with AH:=b.AH.set 0 (Z++[(y5,y6,y7)]) },rfl,HO.out,hz,HD.out⟩
     ·
      go_simp;refine (CM _ B c (-1) 10 EL.1 (by omega) (by omega) (by omega)).mono ?_;rintro e v6 ⟨y6,rfl,-,-,dm,g6⟩;have Cs:Dr w v6 B c:=EL.step dm g6;have H6':=H5'.far g6 (fun k hk=>by have:=Option.some.inj hk;omega);have hR6':=(g6.block w.heap.size (by have:=H5'.base;omega) (fun e=>by have:=Option.some.inj e;omega)).trans hR5';go_wp2_with fail
      refine hK.out _ _ ?_ (fun hHeld=>?_)
      . exact H6'.cells.2.2.2.1
      clear hK K;refine wpAnyH_ready (rs:=[5,11]) (by kernel_rfl) (by simp) ?_;refine AllReadyH.cons rfl (fun K hK=>?_) (AllReadyH.cons rfl (fun K hK=>?_) AllReadyH.nil)
      ·
       have hh:=H6'.hN2 rfl i3;rw[er] at hh;go_simp;refine hK.out _ _ ?_ (fun hHeld=>?_)
       . exact H6'.cells.2.2.2.1
       clear hK K;clear hh;refine wpAnyH_ready (rs:=[11]) (by kernel_rfl) (by simp) ?_;refine AllReadyH.cons rfl (fun K hK=>?_) AllReadyH.nil;go_simp;refine (CM _ B c (-1) 5 Cs.1 (by omega) (by omega) (by omega)).mono ?_;rintro e v7 ⟨y7,rfl,-,-,UA,g7⟩;have J6:Dr w v7 B c:=Cs.step UA g7;have H7':=H6'.far g7 (fun k hk=>by have:=Option.some.inj hk;omega);have hR7':=(g7.block w.heap.size (by have:=H6'.base;omega) (fun e=>by have:=Option.some.inj e;omega)).trans hR6';go_wp2_with fail
       refine hK.out _ _ ?_ (fun hHeld=>?_)
       . exact H7'.cells.2.2.2.1
       clear hK K;refine AO 12 54 (v:=?_) ?_ ?_;rotate_left
       ·
        intro wx hSw;go_simp;with_reducible rfl
       simp only[Act.put,List.setIfInBounds_toArray,List.set_cons_zero,List.set_cons_succ];refine wpAnyH_ready (rs:=[13]) (by kernel_rfl) (by simp) ?_;refine AllReadyH.cons rfl (fun K hK=>?_) AllReadyH.nil;go_simp;have K8':AC v7 (v7.alloc (.cells #[.int .i64 y5,.int .i64 y6,.int .i64 y7] 44)):=(AC.refl _).alloc _;have JD:=J6.keep K8';have H8':=H7'.keep K8';have hR8':=(Below.block K8' w.heap.size (by have:=H7'.base;omega)).trans hR7';have HN8:(v7.alloc (.cells #[.int .i64 y5,.int .i64 y6,.int .i64 y7] 44)).heap[v7.heap.size]? = some (.cells #[.int .i64 y5,.int .i64 y6,.int .i64 y7] 44 (0,0)):=heap_alloc_new _ _;have HS8:(v7.alloc (.cells #[.int .i64 y5,.int .i64 y6,.int .i64 y7] 44)).heap.size=v7.heap.size+1:=AD _ _;refine hK.out _ _ ?_ (fun hHeld=>?_)
       . exact H8'.cells.2.2.2.1
       clear hK K;refine wpAnyH_ready (rs:=[14]) (by kernel_rfl) (by simp) ?_;refine AllReadyH.cons rfl (fun K hK=>?_) AllReadyH.nil;have o3:(v7.alloc (.cells #[.int .i64 y5,.int .i64 y6,.int .i64 y7] 44)).ownsRow (w.heap.size+1) 44 3 (.slice ar Z.length cr) Z.length (Z.flatMap cN):=by have:=H8'.oN (c:=0) (by omega);rw[er,<-PX.out] at this;exact this
       have s3:w.heap.size+1<=(v7.alloc (.cells #[.int .i64 y5,.int .i64 y6,.int .i64 y7] 44)).heap.size:=by have:=H8'.base;omega
       refine step_append_lies _ (by rfl) _ _ _ (by rfl) (w.heap.size+1) 44 i0 _ 3 24 Tryz.underlying42 hi hz0 hz1 hz2 rfl (by omega) (.slice ar Z.length cr) Z.length (Z.flatMap cN) (by rfl) o3 ⟨v7.heap.size,0,none⟩ 1 1 [.int .i64 y5,.int .i64 y6,.int .i64 y7] (by rfl) (by rfl) (World.news_of_block (cs:=#[.int .i64 y5,.int .i64 y6,.int .i64 y7]) (t:=44) (fr:=(0,0)) HN8) (by simp[Value.oneCell']) (by omega) (by unfold maxLen;omega) (by omega) s3 _ rfl ?_;intro gg cap5 w6 hown6 hgrow hat hlt6;have oN:BW cN 44 3 w6 (w.heap.size+1) (Value.slice (some ⟨gg,0,none⟩) (Z.length+1) cap5) (Z++[(y5,y6,y7)]):=De hown6
       have hb6:(Value.slice (some ⟨gg,0,none⟩) (Z.length+1) cap5).ownBlock=(nv.getD 0 AE).ownBlock\/(Value.slice (some ⟨gg,0,none⟩) (Z.length+1) cap5).ownBlock=some (v7.alloc (.cells #[.int .i64 y5,.int .i64 y6,.int .i64 y7] 44)).heap.size\/(Value.slice (some ⟨gg,0,none⟩) (Z.length+1) cap5).ownBlock=none:=by
        rcases hat with q|q
        . exact .inl (by rw[er,q];rfl)
        . exact .inr (.inl (by rw[q];rfl))
       have hgr:(v7.alloc (.cells #[.int .i64 y5,.int .i64 y6,.int .i64 y7] 44)).grownBy w6 (nv.getD 0 AE).ownBlock:=by rw[er];exact hgrow
       have HD6:=H8'.Lu (c:=0) (by omega) hgr hb6 oN rfl;have HS6:=(H8'.stay (.nt 0) (show 0<nv.length by rw[H8'.ln];omega) (by simp) hgr 3).trans H8'.cells.2.2.2.1;have gl:∀k,(nv.getD 0 AE).ownBlock=some k->w.heap.size<=k:=fun k hk=>by have:=(H8'.ge (.nt 0) (show 0<nv.length by rw[H8'.ln];omega)) k hk;omega
       have E0:=JD.Ll hgr gl hcl hB;have hR6:=(hgr.block w.heap.size (by have:=H8'.base;omega) (fun e=>by have:=(H8'.ge (.nt 0) (show 0<nv.length by rw[H8'.ln];omega)) _ e.symm;omega)).trans hR8';have c6:=HD6.2.1;have f6:=HD6.2.2;have z6:w.heap.size<w6.heap.size:=by have:=hgr.size;omega
       rw[er] at c6;refine hK.out _ _ ?_ (fun hHeld=>?_)
       . exact HS6
       clear hK K;simp only[Act.put,List.setIfInBounds_toArray];refine AO 15 57 (v:=?_) ?_ ?_;rotate_left
       ·
        intro wx hSw;go_simp;with_reducible rfl
       simp only[Act.put];refine wpAnyH_ready (rs:=[16]) (by kernel_rfl) (by simp) ?_;refine AllReadyH.cons rfl (fun K hK=>?_) AllReadyH.nil;go_simp;refine hK.out _ _ ?_ (fun hHeld=>?_)
       . exact HD6.1.cells.2.2.2.1
       clear hK K;refine wpAnyH_done (by kernel_rfl) ?_ _;have gz:w6.grownBy (w6.setCell ⟨gN,0,none⟩ (.slice (some ⟨gg,0,none⟩) (Z.length+1) cap5)) (some gN):=Ad w6 gN 0 _;have hR:=(gz.block w.heap.size z6 (fun e=>by have:=Option.some.inj e;omega)).trans hR6;have EX:=E0.far gz (by omega) hcl hB;have H:=HD6.1
       have hz:Cg AA { b with AH:=b.AH.set 0 (Z++[(y5,y6,y7)]) }/\Fk { b with AH:=b.AH.set 0 (Z++[(y5,y6,y7)]) }:=⟨⟨z.w1,z.w2,z.AM,z.AQ,by simpa using z.n1,fun i hi=>by
        show ((b.AH.set 0 (Z++[(y5,y6,y7)])).getD i []).length<=1048576;rw[Ah _ _ _ _ (by omega)];split
        . rw[List.length_append];simp only[List.length_cons,List.length_nil];omega
        . exact z.n2 i (by simpa using hi),z.AL,z.sn,z.fr,z.r1,z.r2⟩,fun i=>by
        show ((b.AH.set 0 (Z++[(y5,y6,y7)])).getD i []).length<=7;rw[Ah _ _ _ _ (by omega)];split
        . rw[List.length_append,PX.out];have:=LO.out.1 0;simp only[List.length_cons,List.length_nil];omega
        . exact (Bm LO.out).1 i,(Bm LO.out).2⟩
       clear HD6 HS6 E0 hR6 c6 f6 hgr gl hown6 hgrow oN gz;have Bh:=H.B6;simp only[BV.arr] at Bh;have HG:=Lib.hid (AV (w6.setCell ⟨gN,0,none⟩ (.slice (some ⟨gg,0,none⟩) (Z.length+1) cap5)) w.heap.size #[.slice aW AA.length cW,.slice aP b.AM.length cP,.slice aL b.AQ.length cL,.slice (some ⟨gN,0,none⟩) b.AH.length cN',.slice aX b.AL.length cX,.slice aT b.sn.length cT,.slice aF b.fr.length cF,.slice aR b.rws.length cR]);have HZ:=Lib.hid (setRow_heap (w6.setCell ⟨gN,0,none⟩ (.slice (some ⟨gg,0,none⟩) (Z.length+1) cap5)) w.heap.size _ #[.slice aW AA.length cW,.slice aP b.AM.length cP,.slice aL b.AQ.length cL,.slice (some ⟨gN,0,none⟩) b.AH.length cN',.slice aX b.AL.length cX,.slice aT b.sn.length cT,.slice aF b.fr.length cF,.slice aR b.rws.length cR] _ _ hR);have HO:=Lib.hid ((H.far HG.out (fun g hg=>by have:=Option.some.inj hg;omega)).fixed hmb);have HD:Hid (Dr w ((w6.setCell ⟨gN,0,none⟩ (.slice (some ⟨gg,0,none⟩) (Z.length+1) cap5)).setRow w.heap.size #[.slice aW AA.length cW,.slice aP b.AM.length cP,.slice aL b.AQ.length cL,.slice (some ⟨gN,0,none⟩) b.AH.length cN',.slice aX b.AL.length cX,.slice aT b.sn.length cT,.slice aF b.fr.length cF,.slice aR b.rws.length cR]) B c):=Lib.hid (EX.far HG.out (by omega) hcl hB);go_wp2_with (first|refine wpList_load_row rfl 30 _ rfl D rfl 30 _ (0,0) _ Bh Tryz.underlying30 rfl AF ?_|refine wpList_store_row rfl 30 _ _ rfl w.heap.size _ rfl rfl 30 _ hR AF rfl (by simp[Value.oneCell']) ?_)
       refine bodyPost_ret (Ac (by rfl) _ _ w.heap.size _ _ (0,0) _ rfl HZ.out Tryz.underlying30 rfl AF) rfl ?_;exact⟨⟨.slice aW AA.length cW,.slice aP b.AM.length cP,.slice aL b.AQ.length cL,.slice (some ⟨gN,0,none⟩) b.AH.length cN',.slice aX b.AL.length cX,.slice aT b.sn.length cT,.slice aF b.fr.length cF,.slice aR b.rws.length cR⟩,AA,{ b with AH:=b.AH.set 0 (Z++[(y5,y6,y7)]) },rfl,HO.out,hz,HD.out⟩
      ·
       go_simp;refine (CM _ B c (-1) 5 Cs.1 (by omega) (by omega) (by omega)).mono ?_;rintro e v7 ⟨y7,rfl,-,-,UA,g7⟩;have J6:Dr w v7 B c:=Cs.step UA g7;have H7':=H6'.far g7 (fun k hk=>by have:=Option.some.inj hk;omega);have hR7':=(g7.block w.heap.size (by have:=H6'.base;omega) (fun e=>by have:=Option.some.inj e;omega)).trans hR6';go_wp2_with fail
       refine hK.out _ _ ?_ (fun hHeld=>?_)
       . exact H7'.cells.2.2.2.1
       clear hK K;refine AO 12 54 (v:=?_) ?_ ?_;rotate_left
       ·
        intro wx hSw;go_simp;with_reducible rfl
       simp only[Act.put,List.setIfInBounds_toArray,List.set_cons_zero,List.set_cons_succ];refine wpAnyH_ready (rs:=[5,13]) (by kernel_rfl) (by simp) ?_;refine AllReadyH.cons rfl (fun K hK=>?_) (AllReadyH.cons rfl (fun K hK=>?_) AllReadyH.nil)
       ·
        have hh:=H7'.hN2 rfl i3;rw[er] at hh;go_simp;refine hK.out _ _ ?_ (fun hHeld=>?_)
        . exact H7'.cells.2.2.2.1
        clear hK K;clear hh;refine wpAnyH_ready (rs:=[13]) (by kernel_rfl) (by simp) ?_;refine AllReadyH.cons rfl (fun K hK=>?_) AllReadyH.nil;go_simp;have K8':AC v7 (v7.alloc (.cells #[.int .i64 y5,.int .i64 y6,.int .i64 y7] 44)):=(AC.refl _).alloc _;have JD:=J6.keep K8';have H8':=H7'.keep K8';have hR8':=(Below.block K8' w.heap.size (by have:=H7'.base;omega)).trans hR7';have HN8:(v7.alloc (.cells #[.int .i64 y5,.int .i64 y6,.int .i64 y7] 44)).heap[v7.heap.size]? = some (.cells #[.int .i64 y5,.int .i64 y6,.int .i64 y7] 44 (0,0)):=heap_alloc_new _ _;have HS8:(v7.alloc (.cells #[.int .i64 y5,.int .i64 y6,.int .i64 y7] 44)).heap.size=v7.heap.size+1:=AD _ _;refine hK.out _ _ ?_ (fun hHeld=>?_)
        . exact H8'.cells.2.2.2.1
        clear hK K;refine wpAnyH_ready (rs:=[14]) (by kernel_rfl) (by simp) ?_;refine AllReadyH.cons rfl (fun K hK=>?_) AllReadyH.nil;have o3:(v7.alloc (.cells #[.int .i64 y5,.int .i64 y6,.int .i64 y7] 44)).ownsRow (w.heap.size+1) 44 3 (.slice ar Z.length cr) Z.length (Z.flatMap cN):=by have:=H8'.oN (c:=0) (by omega);rw[er,<-PX.out] at this;exact this
        have s3:w.heap.size+1<=(v7.alloc (.cells #[.int .i64 y5,.int .i64 y6,.int .i64 y7] 44)).heap.size:=by have:=H8'.base;omega
        refine step_append_lies _ (by rfl) _ _ _ (by rfl) (w.heap.size+1) 44 i0 _ 3 24 Tryz.underlying42 hi hz0 hz1 hz2 rfl (by omega) (.slice ar Z.length cr) Z.length (Z.flatMap cN) (by rfl) o3 ⟨v7.heap.size,0,none⟩ 1 1 [.int .i64 y5,.int .i64 y6,.int .i64 y7] (by rfl) (by rfl) (World.news_of_block (cs:=#[.int .i64 y5,.int .i64 y6,.int .i64 y7]) (t:=44) (fr:=(0,0)) HN8) (by simp[Value.oneCell']) (by omega) (by unfold maxLen;omega) (by omega) s3 _ rfl ?_;intro gg cap5 w6 hown6 hgrow hat hlt6;have oN:BW cN 44 3 w6 (w.heap.size+1) (Value.slice (some ⟨gg,0,none⟩) (Z.length+1) cap5) (Z++[(y5,y6,y7)]):=De hown6
        have hb6:(Value.slice (some ⟨gg,0,none⟩) (Z.length+1) cap5).ownBlock=(nv.getD 0 AE).ownBlock\/(Value.slice (some ⟨gg,0,none⟩) (Z.length+1) cap5).ownBlock=some (v7.alloc (.cells #[.int .i64 y5,.int .i64 y6,.int .i64 y7] 44)).heap.size\/(Value.slice (some ⟨gg,0,none⟩) (Z.length+1) cap5).ownBlock=none:=by
         rcases hat with q|q
         . exact .inl (by rw[er,q];rfl)
         . exact .inr (.inl (by rw[q];rfl))
        have hgr:(v7.alloc (.cells #[.int .i64 y5,.int .i64 y6,.int .i64 y7] 44)).grownBy w6 (nv.getD 0 AE).ownBlock:=by rw[er];exact hgrow
        have HD6:=H8'.Lu (c:=0) (by omega) hgr hb6 oN rfl;have HS6:=(H8'.stay (.nt 0) (show 0<nv.length by rw[H8'.ln];omega) (by simp) hgr 3).trans H8'.cells.2.2.2.1;have gl:∀k,(nv.getD 0 AE).ownBlock=some k->w.heap.size<=k:=fun k hk=>by have:=(H8'.ge (.nt 0) (show 0<nv.length by rw[H8'.ln];omega)) k hk;omega
        have E0:=JD.Ll hgr gl hcl hB;have hR6:=(hgr.block w.heap.size (by have:=H8'.base;omega) (fun e=>by have:=(H8'.ge (.nt 0) (show 0<nv.length by rw[H8'.ln];omega)) _ e.symm;omega)).trans hR8';have c6:=HD6.2.1;have f6:=HD6.2.2;have z6:w.heap.size<w6.heap.size:=by have:=hgr.size;omega
        rw[er] at c6;refine hK.out _ _ ?_ (fun hHeld=>?_)
        . exact HS6
        clear hK K;simp only[Act.put,List.setIfInBounds_toArray];refine AO 15 57 (v:=?_) ?_ ?_;rotate_left
        ·
         intro wx hSw;go_simp;with_reducible rfl
        simp only[Act.put];refine wpAnyH_ready (rs:=[16]) (by kernel_rfl) (by simp) ?_;refine AllReadyH.cons rfl (fun K hK=>?_) AllReadyH.nil;go_simp;refine hK.out _ _ ?_ (fun hHeld=>?_)
        . exact HD6.1.cells.2.2.2.1
        clear hK K;refine wpAnyH_done (by kernel_rfl) ?_ _;have gz:w6.grownBy (w6.setCell ⟨gN,0,none⟩ (.slice (some ⟨gg,0,none⟩) (Z.length+1) cap5)) (some gN):=Ad w6 gN 0 _;have hR:=(gz.block w.heap.size z6 (fun e=>by have:=Option.some.inj e;omega)).trans hR6;have EX:=E0.far gz (by omega) hcl hB;have H:=HD6.1
        have hz:Cg AA { b with AH:=b.AH.set 0 (Z++[(y5,y6,y7)]) }/\Fk { b with AH:=b.AH.set 0 (Z++[(y5,y6,y7)]) }:=⟨⟨z.w1,z.w2,z.AM,z.AQ,by simpa using z.n1,fun i hi=>by
         show ((b.AH.set 0 (Z++[(y5,y6,y7)])).getD i []).length<=1048576;rw[Ah _ _ _ _ (by omega)];split
         . rw[List.length_append];simp only[List.length_cons,List.length_nil];omega
         . exact z.n2 i (by simpa using hi),z.AL,z.sn,z.fr,z.r1,z.r2⟩,fun i=>by
         show ((b.AH.set 0 (Z++[(y5,y6,y7)])).getD i []).length<=7;rw[Ah _ _ _ _ (by omega)];split
         . rw[List.length_append,PX.out];have:=LO.out.1 0;simp only[List.length_cons,List.length_nil];omega
         . exact (Bm LO.out).1 i,(Bm LO.out).2⟩
        clear HD6 HS6 E0 hR6 c6 f6 hgr gl hown6 hgrow oN gz;have Bh:=H.B6;simp only[BV.arr] at Bh;have HG:=Lib.hid (AV (w6.setCell ⟨gN,0,none⟩ (.slice (some ⟨gg,0,none⟩) (Z.length+1) cap5)) w.heap.size #[.slice aW AA.length cW,.slice aP b.AM.length cP,.slice aL b.AQ.length cL,.slice (some ⟨gN,0,none⟩) b.AH.length cN',.slice aX b.AL.length cX,.slice aT b.sn.length cT,.slice aF b.fr.length cF,.slice aR b.rws.length cR]);have HZ:=Lib.hid (setRow_heap (w6.setCell ⟨gN,0,none⟩ (.slice (some ⟨gg,0,none⟩) (Z.length+1) cap5)) w.heap.size _ #[.slice aW AA.length cW,.slice aP b.AM.length cP,.slice aL b.AQ.length cL,.slice (some ⟨gN,0,none⟩) b.AH.length cN',.slice aX b.AL.length cX,.slice aT b.sn.length cT,.slice aF b.fr.length cF,.slice aR b.rws.length cR] _ _ hR);have HO:=Lib.hid ((H.far HG.out (fun g hg=>by have:=Option.some.inj hg;omega)).fixed hmb);have HD:Hid (Dr w ((w6.setCell ⟨gN,0,none⟩ (.slice (some ⟨gg,0,none⟩) (Z.length+1) cap5)).setRow w.heap.size #[.slice aW AA.length cW,.slice aP b.AM.length cP,.slice aL b.AQ.length cL,.slice (some ⟨gN,0,none⟩) b.AH.length cN',.slice aX b.AL.length cX,.slice aT b.sn.length cT,.slice aF b.fr.length cF,.slice aR b.rws.length cR]) B c):=Lib.hid (EX.far HG.out (by omega) hcl hB);go_wp2_with (first|refine wpList_load_row rfl 30 _ rfl D rfl 30 _ (0,0) _ Bh Tryz.underlying30 rfl AF ?_|refine wpList_store_row rfl 30 _ _ rfl w.heap.size _ rfl rfl 30 _ hR AF rfl (by simp[Value.oneCell']) ?_)
        refine bodyPost_ret (Ac (by rfl) _ _ w.heap.size _ _ (0,0) _ rfl HZ.out Tryz.underlying30 rfl AF) rfl ?_;exact⟨⟨.slice aW AA.length cW,.slice aP b.AM.length cP,.slice aL b.AQ.length cL,.slice (some ⟨gN,0,none⟩) b.AH.length cN',.slice aX b.AL.length cX,.slice aT b.sn.length cT,.slice aF b.fr.length cF,.slice aR b.rws.length cR⟩,AA,{ b with AH:=b.AH.set 0 (Z++[(y5,y6,y7)]) },rfl,HO.out,hz,HD.out⟩
       ·
        go_simp;have K8':AC v7 (v7.alloc (.cells #[.int .i64 y5,.int .i64 y6,.int .i64 y7] 44)):=(AC.refl _).alloc _;have JD:=J6.keep K8';have H8':=H7'.keep K8';have hR8':=(Below.block K8' w.heap.size (by have:=H7'.base;omega)).trans hR7';have HN8:(v7.alloc (.cells #[.int .i64 y5,.int .i64 y6,.int .i64 y7] 44)).heap[v7.heap.size]? = some (.cells #[.int .i64 y5,.int .i64 y6,.int .i64 y7] 44 (0,0)):=heap_alloc_new _ _;have HS8:(v7.alloc (.cells #[.int .i64 y5,.int .i64 y6,.int .i64 y7] 44)).heap.size=v7.heap.size+1:=AD _ _;refine hK.out _ _ ?_ (fun hHeld=>?_)
        . exact H8'.cells.2.2.2.1
        clear hK K;refine wpAnyH_ready (rs:=[5]) (by kernel_rfl) (by simp) ?_;refine AllReadyH.cons rfl (fun K hK=>?_) AllReadyH.nil;have hh:=H8'.hN2 rfl i3;rw[er] at hh;go_simp;refine hK.out _ _ ?_ (fun hHeld=>?_)
        . exact H8'.cells.2.2.2.1
        clear hK K;clear hh;refine wpAnyH_ready (rs:=[14]) (by kernel_rfl) (by simp) ?_;refine AllReadyH.cons rfl (fun K hK=>?_) AllReadyH.nil;have o3:(v7.alloc (.cells #[.int .i64 y5,.int .i64 y6,.int .i64 y7] 44)).ownsRow (w.heap.size+1) 44 3 (.slice ar Z.length cr) Z.length (Z.flatMap cN):=by have:=H8'.oN (c:=0) (by omega);rw[er,<-PX.out] at this;exact this
        have s3:w.heap.size+1<=(v7.alloc (.cells #[.int .i64 y5,.int .i64 y6,.int .i64 y7] 44)).heap.size:=by have:=H8'.base;omega
        refine step_append_lies _ (by rfl) _ _ _ (by rfl) (w.heap.size+1) 44 i0 _ 3 24 Tryz.underlying42 hi hz0 hz1 hz2 rfl (by omega) (.slice ar Z.length cr) Z.length (Z.flatMap cN) (by rfl) o3 ⟨v7.heap.size,0,none⟩ 1 1 [.int .i64 y5,.int .i64 y6,.int .i64 y7] (by rfl) (by rfl) (World.news_of_block (cs:=#[.int .i64 y5,.int .i64 y6,.int .i64 y7]) (t:=44) (fr:=(0,0)) HN8) (by simp[Value.oneCell']) (by omega) (by unfold maxLen;omega) (by omega) s3 _ rfl ?_;intro gg cap5 w6 hown6 hgrow hat hlt6;have oN:BW cN 44 3 w6 (w.heap.size+1) (Value.slice (some ⟨gg,0,none⟩) (Z.length+1) cap5) (Z++[(y5,y6,y7)]):=De hown6
        have hb6:(Value.slice (some ⟨gg,0,none⟩) (Z.length+1) cap5).ownBlock=(nv.getD 0 AE).ownBlock\/(Value.slice (some ⟨gg,0,none⟩) (Z.length+1) cap5).ownBlock=some (v7.alloc (.cells #[.int .i64 y5,.int .i64 y6,.int .i64 y7] 44)).heap.size\/(Value.slice (some ⟨gg,0,none⟩) (Z.length+1) cap5).ownBlock=none:=by
         rcases hat with q|q
         . exact .inl (by rw[er,q];rfl)
         . exact .inr (.inl (by rw[q];rfl))
        have hgr:(v7.alloc (.cells #[.int .i64 y5,.int .i64 y6,.int .i64 y7] 44)).grownBy w6 (nv.getD 0 AE).ownBlock:=by rw[er];exact hgrow
        have HD6:=H8'.Lu (c:=0) (by omega) hgr hb6 oN rfl;have HS6:=(H8'.stay (.nt 0) (show 0<nv.length by rw[H8'.ln];omega) (by simp) hgr 3).trans H8'.cells.2.2.2.1;have gl:∀k,(nv.getD 0 AE).ownBlock=some k->w.heap.size<=k:=fun k hk=>by have:=(H8'.ge (.nt 0) (show 0<nv.length by rw[H8'.ln];omega)) k hk;omega
        have E0:=JD.Ll hgr gl hcl hB;have hR6:=(hgr.block w.heap.size (by have:=H8'.base;omega) (fun e=>by have:=(H8'.ge (.nt 0) (show 0<nv.length by rw[H8'.ln];omega)) _ e.symm;omega)).trans hR8';have c6:=HD6.2.1;have f6:=HD6.2.2;have z6:w.heap.size<w6.heap.size:=by have:=hgr.size;omega
        rw[er] at c6;refine hK.out _ _ ?_ (fun hHeld=>?_)
        . exact HS6
        clear hK K;simp only[Act.put,List.setIfInBounds_toArray];refine AO 15 57 (v:=?_) ?_ ?_;rotate_left
        ·
         intro wx hSw;go_simp;with_reducible rfl
        simp only[Act.put];refine wpAnyH_ready (rs:=[16]) (by kernel_rfl) (by simp) ?_;refine AllReadyH.cons rfl (fun K hK=>?_) AllReadyH.nil;go_simp;refine hK.out _ _ ?_ (fun hHeld=>?_)
        . exact HD6.1.cells.2.2.2.1
        clear hK K;refine wpAnyH_done (by kernel_rfl) ?_ _;have gz:w6.grownBy (w6.setCell ⟨gN,0,none⟩ (.slice (some ⟨gg,0,none⟩) (Z.length+1) cap5)) (some gN):=Ad w6 gN 0 _;have hR:=(gz.block w.heap.size z6 (fun e=>by have:=Option.some.inj e;omega)).trans hR6;have EX:=E0.far gz (by omega) hcl hB;have H:=HD6.1
        have hz:Cg AA { b with AH:=b.AH.set 0 (Z++[(y5,y6,y7)]) }/\Fk { b with AH:=b.AH.set 0 (Z++[(y5,y6,y7)]) }:=⟨⟨z.w1,z.w2,z.AM,z.AQ,by simpa using z.n1,fun i hi=>by
         show ((b.AH.set 0 (Z++[(y5,y6,y7)])).getD i []).length<=1048576;rw[Ah _ _ _ _ (by omega)];split
         . rw[List.length_append];simp only[List.length_cons,List.length_nil];omega
         . exact z.n2 i (by simpa using hi),z.AL,z.sn,z.fr,z.r1,z.r2⟩,fun i=>by
         show ((b.AH.set 0 (Z++[(y5,y6,y7)])).getD i []).length<=7;rw[Ah _ _ _ _ (by omega)];split
         . rw[List.length_append,PX.out];have:=LO.out.1 0;simp only[List.length_cons,List.length_nil];omega
         . exact (Bm LO.out).1 i,(Bm LO.out).2⟩
        clear HD6 HS6 E0 hR6 c6 f6 hgr gl hown6 hgrow oN gz;have Bh:=H.B6;simp only[BV.arr] at Bh;have HG:=Lib.hid (AV (w6.setCell ⟨gN,0,none⟩ (.slice (some ⟨gg,0,none⟩) (Z.length+1) cap5)) w.heap.size #[.slice aW AA.length cW,.slice aP b.AM.length cP,.slice aL b.AQ.length cL,.slice (some ⟨gN,0,none⟩) b.AH.length cN',.slice aX b.AL.length cX,.slice aT b.sn.length cT,.slice aF b.fr.length cF,.slice aR b.rws.length cR]);have HZ:=Lib.hid (setRow_heap (w6.setCell ⟨gN,0,none⟩ (.slice (some ⟨gg,0,none⟩) (Z.length+1) cap5)) w.heap.size _ #[.slice aW AA.length cW,.slice aP b.AM.length cP,.slice aL b.AQ.length cL,.slice (some ⟨gN,0,none⟩) b.AH.length cN',.slice aX b.AL.length cX,.slice aT b.sn.length cT,.slice aF b.fr.length cF,.slice aR b.rws.length cR] _ _ hR);have HO:=Lib.hid ((H.far HG.out (fun g hg=>by have:=Option.some.inj hg;omega)).fixed hmb);have HD:Hid (Dr w ((w6.setCell ⟨gN,0,none⟩ (.slice (some ⟨gg,0,none⟩) (Z.length+1) cap5)).setRow w.heap.size #[.slice aW AA.length cW,.slice aP b.AM.length cP,.slice aL b.AQ.length cL,.slice (some ⟨gN,0,none⟩) b.AH.length cN',.slice aX b.AL.length cX,.slice aT b.sn.length cT,.slice aF b.fr.length cF,.slice aR b.rws.length cR]) B c):=Lib.hid (EX.far HG.out (by omega) hcl hB);go_wp2_with (first|refine wpList_load_row rfl 30 _ rfl D rfl 30 _ (0,0) _ Bh Tryz.underlying30 rfl AF ?_|refine wpList_store_row rfl 30 _ _ rfl w.heap.size _ rfl rfl 30 _ hR AF rfl (by simp[Value.oneCell']) ?_)
        refine bodyPost_ret (Ac (by rfl) _ _ w.heap.size _ _ (0,0) _ rfl HZ.out Tryz.underlying30 rfl AF) rfl ?_;exact⟨⟨.slice aW AA.length cW,.slice aP b.AM.length cP,.slice aL b.AQ.length cL,.slice (some ⟨gN,0,none⟩) b.AH.length cN',.slice aX b.AL.length cX,.slice aT b.sn.length cT,.slice aF b.fr.length cF,.slice aR b.rws.length cR⟩,AA,{ b with AH:=b.AH.set 0 (Z++[(y5,y6,y7)]) },rfl,HO.out,hz,HD.out⟩
   ·
    go_upto_region 13 with fail
    have z:=EU Lr;have s12:=BL.out.2.2.2.2.2.2.1;obtain⟨i0,hi,hz0,hz1,hz2⟩:=info_parts Tryz.FL;have kA:AC w4 (w4.alloc (.cells #[.int .i64 0] 2)):=(AC.refl w4).alloc _;have HA:=H4.keep kA;have DA:=Mr.keep kA;have hbase:=H4.base;have RA:=(Below.block kA w.heap.size (by omega)).trans hR4;have HS:(w4.alloc (.cells #[.int .i64 0] 2)).ownsRow (w.heap.size+1) 2 1 (.slice aT b.sn.length cT) b.sn.length (b.sn.map (Value.int .i64)):=HA.oS;have d5:=H4.cells.2.2.2.2.2.1;simp only at d5;go_wp2_with (at_builtin;refine wpList_append_own_at _ rfl _ _ 26 rfl (w.heap.size+1) 2 i0 (.int .i64 0) 1 8 Tryz.underlying26 hi hz0 hz1 hz2 rfl (by decide) _ _ _ rfl HS ⟨_,0,none⟩ 1 1 [.int .i64 0] rfl rfl ?b1 ?b2 ?b3 ?b4 ?b5 ?_)
    case b1=>
     intro j u hj
     match j,hj with
     | 0,hj=>simp at hj;subst hj;simp[Addr.add]
    case b2=>intro u hu;simp at hu;subst hu;rfl
    case b3=>unfold maxLen;omega
    case b4=>omega
    case b5=>simp;omega
    intro v' w7 hown7 hgrow7 _ hblk7;have ho7:A8 w7 (w.heap.size+1) v' (b.sn++[0]):=Dp hown7;obtain⟨H8,c8',f8⟩:=HA.P8 hgrow7 (by rcases hblk7 with e|e;exact .inl e;exact .inr (.inl (by rw[AD];exact e))) ho7;have gl:∀k,(Value.slice aT b.sn.length cT).ownBlock=some k->w.heap.size<=k:=fun k hk=>by have:=(World.ownsRow.lt HS k hk).1;omega
    have DB:=DA.Ll hgrow7 gl hcl hB;have RB:=(hgrow7.block w.heap.size (by rw[AD];omega) (fun e=>by have:=(World.ownsRow.lt HS _ e.symm).1;omega)).trans RA;have z7:w.heap.size<w7.heap.size:=by have:=hgrow7.size;rw[AD] at this;omega
    obtain⟨a8,c8,e8,-⟩:=ho7.rd;rw[List.length_append] at e8;simp only[List.length_cons,List.length_nil,Nat.zero_add] at e8;subst e8;have H:=H8;have EX:=DB.far (Ad w7 D 5 (.slice a8 (b.sn.length+1) c8)) (by omega) hcl hB;have hR:=((Ad w7 D 5 (.slice a8 (b.sn.length+1) c8)).block w.heap.size z7 (fun e=>by have:=Option.some.inj e;omega)).trans RB;have hz:Cg AA { b with sn:=b.sn++[0] }/\Fk { b with sn:=b.sn++[0] }:=⟨⟨z.w1,z.w2,z.AM,z.AQ,z.n1,z.n2,z.AL,by show (b.sn++[0]).length<=1048576;rw[List.length_append];simp only[List.length_cons,List.length_nil];omega,z.fr,z.r1,z.r2⟩,Bm LO.out⟩;clear hown7 hgrow7 hblk7 ho7 H8 DB RB DA RA HS d5 gl;have Bh:=H.B6;simp only[BV.arr] at Bh;have HG:=Lib.hid (AV (w7.setCell ⟨D,5,none⟩ (.slice a8 (b.sn.length+1) c8)) w.heap.size #[.slice aW AA.length cW,.slice aP b.AM.length cP,.slice aL b.AQ.length cL,.slice aN b.AH.length cN',.slice aX b.AL.length cX,.slice a8 (b.sn.length+1) c8,.slice aF b.fr.length cF,.slice aR b.rws.length cR]);have HZ:=Lib.hid (setRow_heap (w7.setCell ⟨D,5,none⟩ (.slice a8 (b.sn.length+1) c8)) w.heap.size _ #[.slice aW AA.length cW,.slice aP b.AM.length cP,.slice aL b.AQ.length cL,.slice aN b.AH.length cN',.slice aX b.AL.length cX,.slice a8 (b.sn.length+1) c8,.slice aF b.fr.length cF,.slice aR b.rws.length cR] _ _ hR);have HO:=Lib.hid ((H.far HG.out (fun g hg=>by have:=Option.some.inj hg;omega)).fixed hmb);have HD:Hid (Dr w ((w7.setCell ⟨D,5,none⟩ (.slice a8 (b.sn.length+1) c8)).setRow w.heap.size #[.slice aW AA.length cW,.slice aP b.AM.length cP,.slice aL b.AQ.length cL,.slice aN b.AH.length cN',.slice aX b.AL.length cX,.slice a8 (b.sn.length+1) c8,.slice aF b.fr.length cF,.slice aR b.rws.length cR]) B c):=Lib.hid (EX.far HG.out (by omega) hcl hB);go_wp2_with (first|refine wpList_load_row rfl 30 _ rfl D rfl 30 _ (0,0) _ Bh Tryz.underlying30 rfl AF ?_|refine wpList_store_row rfl 30 _ _ rfl w.heap.size _ rfl rfl 30 _ hR AF rfl (by simp[Value.oneCell']) ?_)
    refine bodyPost_ret (Ac (by rfl) _ _ w.heap.size _ _ (0,0) _ rfl HZ.out Tryz.underlying30 rfl AF) rfl ?_;exact⟨⟨.slice aW AA.length cW,.slice aP b.AM.length cP,.slice aL b.AQ.length cL,.slice aN b.AH.length cN',.slice aX b.AL.length cX,.slice a8 (b.sn.length+1) c8,.slice aF b.fr.length cF,.slice aR b.rws.length cR⟩,rfl,AA,{ b with sn:=b.sn++[0] },HO.out,hz,HD.out⟩
   ·
    go_upto_region 15 with fail
    have z:=EU Lr;have i3:2<b.rws.length:=by omega
    have i4:(2:Int)<(b.rws.length:Int):=by omega
    obtain⟨gR,rfl,-,gge⟩:=H4.atR rfl i3;have r20:=BL.out.2.2.2.2.2.2.2.2.1 2 (by omega);obtain⟨ar,cr,er,-⟩:=(H4.oR (p:=2) i3).rd;obtain⟨Z,hZ⟩:∃Z,Z=b.rws.getD 2 []:=⟨_,rfl⟩;rw[<-hZ] at r20 er;have PX:=Lib.hid hZ;clear hZ;obtain⟨i0,hi,hz0,hz1,hz2⟩:=info_parts Tryz.FL;have HA:=H4.drew;have DA:=Mr.drew;have RA:w4.drew.heap[w.heap.size]? = some (.cells #[AE,AE,AE,AE,AE,AE,AE,AE] 30 (0,0)):=hR4;refine wp_region_held_drew (S:=(fun w'=>w'.cell? ⟨D,7,none⟩=some (.slice (some ⟨gR,0,none⟩) b.rws.length cR))) (by kernel_rfl) ?_ (fun hHeld=>?_)
    . exact HA.cells.2.2.2.2.2.2.2
    refine AO 0 67 (v:=?_) ?_ ?_;rotate_left
    ·
     intro wx hSw;go_simp;with_reducible rfl
    refine AO 1 68 (v:=?_) ?_ ?_;rotate_left
    ·
     intro wx hSw;go_simp;with_reducible rfl
    refine AO 2 69 (v:=?_) ?_ ?_;rotate_left
    ·
     intro wx hSw;go_simp;with_reducible rfl
    refine AO 3 70 (v:=?_) ?_ ?_;rotate_left
    ·
     intro wx hSw;go_simp;with_reducible rfl
    refine AO 4 71 (v:=?_) ?_ ?_;rotate_left
    ·
     intro wx hSw;go_simp;with_reducible rfl
    refine AO 6 73 (v:=?_) ?_ ?_;rotate_left
    ·
     intro wx hSw;go_simp;with_reducible rfl
    simp only[Act.put,List.setIfInBounds_toArray,List.set_cons_zero,List.set_cons_succ];refine wpAnyH_ready (rs:=[5,7]) (by kernel_rfl) (by simp) ?_;refine AllReadyH.cons rfl (fun K hK=>?_) (AllReadyH.cons rfl (fun K hK=>?_) AllReadyH.nil)
    ·
     have hh:=HA.hR2 rfl i3;rw[er] at hh;go_simp;refine hK.out _ _ ?_ (fun hHeld=>?_)
     . exact HA.cells.2.2.2.2.2.2.2
     clear hK K;clear hh;refine wpAnyH_ready (rs:=[7]) (by kernel_rfl) (by simp) ?_;refine AllReadyH.cons rfl (fun K hK=>?_) AllReadyH.nil;go_simp;refine (CM _ B c (-1) 10 DA.1 (by omega) (by omega) (by omega)).mono ?_;rintro e v5 ⟨y5,rfl,-,-,KX,g5⟩;have EL:Dr w v5 B c:=DA.step KX g5;have H5':=HA.far g5 (fun k hk=>by have:=Option.some.inj hk;omega);have hR5':=(g5.block w.heap.size (by have:=HA.base;omega) (fun e=>by have:=Option.some.inj e;omega)).trans RA;go_wp2_with fail
     refine hK.out _ _ ?_ (fun hHeld=>?_)
     . exact H5'.cells.2.2.2.2.2.2.2
     clear hK K;refine wpAnyH_ready (rs:=[8]) (by kernel_rfl) (by simp) ?_;refine AllReadyH.cons rfl (fun K hK=>?_) AllReadyH.nil;go_simp;have K6':AC v5 (v5.alloc (.cells #[.int .i64 y5] 2)):=(AC.refl _).alloc _;have Cs:=EL.keep K6';have H6':=H5'.keep K6';have hR6':=(Below.block K6' w.heap.size (by have:=H5'.base;omega)).trans hR5';have HN6:(v5.alloc (.cells #[.int .i64 y5] 2)).heap[v5.heap.size]? = some (.cells #[.int .i64 y5] 2 (0,0)):=heap_alloc_new _ _;have HS6:(v5.alloc (.cells #[.int .i64 y5] 2)).heap.size=v5.heap.size+1:=AD _ _;refine hK.out _ _ ?_ (fun hHeld=>?_)
     . exact H6'.cells.2.2.2.2.2.2.2
     clear hK K;refine wpAnyH_ready (rs:=[9]) (by kernel_rfl) (by simp) ?_;refine AllReadyH.cons rfl (fun K hK=>?_) AllReadyH.nil;have o3:A8 (v5.alloc (.cells #[.int .i64 y5] 2)) (w.heap.size+1) (.slice ar Z.length cr) Z:=by have:=H6'.oR (p:=2) (by omega);rw[er,<-PX.out] at this;exact this
     have s3:w.heap.size+1<=(v5.alloc (.cells #[.int .i64 y5] 2)).heap.size:=by have:=H6'.base;omega
     refine step_append_lies _ (by rfl) _ _ _ (by rfl) (w.heap.size+1) 2 i0 _ 1 8 Tryz.underlying26 hi hz0 hz1 hz2 rfl (by omega) (.slice ar Z.length cr) Z.length (Z.map (Value.int .i64)) (by rfl) o3 ⟨v5.heap.size,0,none⟩ 1 1 [.int .i64 y5] (by rfl) (by rfl) (World.news_of_block (cs:=#[.int .i64 y5]) (t:=2) (fr:=(0,0)) HN6) (by simp[Value.oneCell']) (by omega) (by unfold maxLen;omega) (by omega) s3 _ rfl ?_;intro gg cap5 w6 hown6 hgrow hat hlt6
     have oN:A8 w6 (w.heap.size+1) (.slice (some ⟨gg,0,none⟩) (Z.length+1) cap5) (Z++[y5]):=by
      unfold A8;rw[List.length_append,List.map_append];exact hown6
     have hb6:(Value.slice (some ⟨gg,0,none⟩) (Z.length+1) cap5).ownBlock=(rv.getD 2 AE).ownBlock\/(Value.slice (some ⟨gg,0,none⟩) (Z.length+1) cap5).ownBlock=some (v5.alloc (.cells #[.int .i64 y5] 2)).heap.size\/(Value.slice (some ⟨gg,0,none⟩) (Z.length+1) cap5).ownBlock=none:=by
      rcases hat with q|q
      . exact .inl (by rw[er,q];rfl)
      . exact .inr (.inl (by rw[q];rfl))
     have hgr:(v5.alloc (.cells #[.int .i64 y5] 2)).grownBy w6 (rv.getD 2 AE).ownBlock:=by rw[er];exact hgrow
     have HD6:=H6'.Nd (p:=2) (by omega) hgr hb6 oN rfl;have HS6:=(H6'.stay (.rw 2) (show 2<rv.length by rw[H6'.lr];omega) (by simp) hgr 7).trans H6'.cells.2.2.2.2.2.2.2;have gl:∀k,(rv.getD 2 AE).ownBlock=some k->w.heap.size<=k:=fun k hk=>by have:=(H6'.ge (.rw 2) (show 2<rv.length by rw[H6'.lr];omega)) k hk;omega
     have E0:=Cs.Ll hgr gl hcl hB;have hR6:=(hgr.block w.heap.size (by have:=H6'.base;omega) (fun e=>by have:=(H6'.ge (.rw 2) (show 2<rv.length by rw[H6'.lr];omega)) _ e.symm;omega)).trans hR6';have c6:=HD6.2.1;have f6:=HD6.2.2;have z6:w.heap.size<w6.heap.size:=by have:=hgr.size;omega
     rw[er] at c6;refine hK.out _ _ ?_ (fun hHeld=>?_)
     . exact HS6
     clear hK K;simp only[Act.put,List.setIfInBounds_toArray];refine AO 10 77 (v:=?_) ?_ ?_;rotate_left
     ·
      intro wx hSw;go_simp;with_reducible rfl
     simp only[Act.put];refine wpAnyH_ready (rs:=[11]) (by kernel_rfl) (by simp) ?_;refine AllReadyH.cons rfl (fun K hK=>?_) AllReadyH.nil;go_simp;refine hK.out _ _ ?_ (fun hHeld=>?_)
     . exact HD6.1.cells.2.2.2.2.2.2.2
     clear hK K;refine wpAnyH_done (by kernel_rfl) ?_ _;have gz:w6.grownBy (w6.setCell ⟨gR,2,none⟩ (.slice (some ⟨gg,0,none⟩) (Z.length+1) cap5)) (some gR):=Ad w6 gR 2 _;have hR:=(gz.block w.heap.size z6 (fun e=>by have:=Option.some.inj e;omega)).trans hR6;have EX:=E0.far gz (by omega) hcl hB;have H:=HD6.1
     have hz:Cg AA { b with rws:=b.rws.set 2 (Z++[y5]) }/\Fk { b with rws:=b.rws.set 2 (Z++[y5]) }:=⟨⟨z.w1,z.w2,z.AM,z.AQ,z.n1,z.n2,z.AL,z.sn,z.fr,by simpa using z.r1,fun i hi=>by
      show ((b.rws.set 2 (Z++[y5])).getD i []).length<=1048576;rw[Ah _ _ _ _ (by omega)];split
      . rw[List.length_append];simp only[List.length_cons,List.length_nil];omega
      . exact z.r2 i (by simpa using hi)⟩,(Bm LO.out).1,fun i=>by
      show ((b.rws.set 2 (Z++[y5])).getD i []).length<=15;rw[Ah _ _ _ _ (by omega)];split
      . rw[List.length_append,PX.out];have:=LO.out.2 2;simp only[List.length_cons,List.length_nil];omega
      . exact (Bm LO.out).2 i⟩
     clear HD6 HS6 E0 hR6 c6 f6 hgr gl hown6 hgrow oN gz;have Bh:=H.B6;simp only[BV.arr] at Bh;have HG:=Lib.hid (AV (w6.setCell ⟨gR,2,none⟩ (.slice (some ⟨gg,0,none⟩) (Z.length+1) cap5)) w.heap.size #[.slice aW AA.length cW,.slice aP b.AM.length cP,.slice aL b.AQ.length cL,.slice aN b.AH.length cN',.slice aX b.AL.length cX,.slice aT b.sn.length cT,.slice aF b.fr.length cF,.slice (some ⟨gR,0,none⟩) b.rws.length cR]);have HZ:=Lib.hid (setRow_heap (w6.setCell ⟨gR,2,none⟩ (.slice (some ⟨gg,0,none⟩) (Z.length+1) cap5)) w.heap.size _ #[.slice aW AA.length cW,.slice aP b.AM.length cP,.slice aL b.AQ.length cL,.slice aN b.AH.length cN',.slice aX b.AL.length cX,.slice aT b.sn.length cT,.slice aF b.fr.length cF,.slice (some ⟨gR,0,none⟩) b.rws.length cR] _ _ hR);have HO:=Lib.hid ((H.far HG.out (fun g hg=>by have:=Option.some.inj hg;omega)).fixed hmb);have HD:Hid (Dr w ((w6.setCell ⟨gR,2,none⟩ (.slice (some ⟨gg,0,none⟩) (Z.length+1) cap5)).setRow w.heap.size #[.slice aW AA.length cW,.slice aP b.AM.length cP,.slice aL b.AQ.length cL,.slice aN b.AH.length cN',.slice aX b.AL.length cX,.slice aT b.sn.length cT,.slice aF b.fr.length cF,.slice (some ⟨gR,0,none⟩) b.rws.length cR]) B c):=Lib.hid (EX.far HG.out (by omega) hcl hB);go_wp2_with (first|refine wpList_load_row rfl 30 _ rfl D rfl 30 _ (0,0) _ Bh Tryz.underlying30 rfl AF ?_|refine wpList_store_row rfl 30 _ _ rfl w.heap.size _ rfl rfl 30 _ hR AF rfl (by simp[Value.oneCell']) ?_)
     refine bodyPost_ret (Ac (by rfl) _ _ w.heap.size _ _ (0,0) _ rfl HZ.out Tryz.underlying30 rfl AF) rfl ?_;exact⟨⟨.slice aW AA.length cW,.slice aP b.AM.length cP,.slice aL b.AQ.length cL,.slice aN b.AH.length cN',.slice aX b.AL.length cX,.slice aT b.sn.length cT,.slice aF b.fr.length cF,.slice (some ⟨gR,0,none⟩) b.rws.length cR⟩,AA,{ b with rws:=b.rws.set 2 (Z++[y5]) },rfl,HO.out,hz,HD.out⟩
    ·
     go_simp;refine (CM _ B c (-1) 10 DA.1 (by omega) (by omega) (by omega)).mono ?_;rintro e v5 ⟨y5,rfl,-,-,KX,g5⟩;have EL:Dr w v5 B c:=DA.step KX g5;have H5':=HA.far g5 (fun k hk=>by have:=Option.some.inj hk;omega);have hR5':=(g5.block w.heap.size (by have:=HA.base;omega) (fun e=>by have:=Option.some.inj e;omega)).trans RA;go_wp2_with fail
     refine hK.out _ _ ?_ (fun hHeld=>?_)
     . exact H5'.cells.2.2.2.2.2.2.2
     clear hK K;refine wpAnyH_ready (rs:=[5,8]) (by kernel_rfl) (by simp) ?_;refine AllReadyH.cons rfl (fun K hK=>?_) (AllReadyH.cons rfl (fun K hK=>?_) AllReadyH.nil)
     ·
      have hh:=H5'.hR2 rfl i3;rw[er] at hh;go_simp;refine hK.out _ _ ?_ (fun hHeld=>?_)
      . exact H5'.cells.2.2.2.2.2.2.2
      clear hK K;clear hh;refine wpAnyH_ready (rs:=[8]) (by kernel_rfl) (by simp) ?_;refine AllReadyH.cons rfl (fun K hK=>?_) AllReadyH.nil;go_simp;have K6':AC v5 (v5.alloc (.cells #[.int .i64 y5] 2)):=(AC.refl _).alloc _;have Cs:=EL.keep K6';have H6':=H5'.keep K6';have hR6':=(Below.block K6' w.heap.size (by have:=H5'.base;omega)).trans hR5';have HN6:(v5.alloc (.cells #[.int .i64 y5] 2)).heap[v5.heap.size]? = some (.cells #[.int .i64 y5] 2 (0,0)):=heap_alloc_new _ _;have HS6:(v5.alloc (.cells #[.int .i64 y5] 2)).heap.size=v5.heap.size+1:=AD _ _;refine hK.out _ _ ?_ (fun hHeld=>?_)
      . exact H6'.cells.2.2.2.2.2.2.2
      clear hK K;refine wpAnyH_ready (rs:=[9]) (by kernel_rfl) (by simp) ?_;refine AllReadyH.cons rfl (fun K hK=>?_) AllReadyH.nil;have o3:A8 (v5.alloc (.cells #[.int .i64 y5] 2)) (w.heap.size+1) (.slice ar Z.length cr) Z:=by have:=H6'.oR (p:=2) (by omega);rw[er,<-PX.out] at this;exact this
      have s3:w.heap.size+1<=(v5.alloc (.cells #[.int .i64 y5] 2)).heap.size:=by have:=H6'.base;omega
      refine step_append_lies _ (by rfl) _ _ _ (by rfl) (w.heap.size+1) 2 i0 _ 1 8 Tryz.underlying26 hi hz0 hz1 hz2 rfl (by omega) (.slice ar Z.length cr) Z.length (Z.map (Value.int .i64)) (by rfl) o3 ⟨v5.heap.size,0,none⟩ 1 1 [.int .i64 y5] (by rfl) (by rfl) (World.news_of_block (cs:=#[.int .i64 y5]) (t:=2) (fr:=(0,0)) HN6) (by simp[Value.oneCell']) (by omega) (by unfold maxLen;omega) (by omega) s3 _ rfl ?_;intro gg cap5 w6 hown6 hgrow hat hlt6
      have oN:A8 w6 (w.heap.size+1) (.slice (some ⟨gg,0,none⟩) (Z.length+1) cap5) (Z++[y5]):=by
       unfold A8;rw[List.length_append,List.map_append];exact hown6
      have hb6:(Value.slice (some ⟨gg,0,none⟩) (Z.length+1) cap5).ownBlock=(rv.getD 2 AE).ownBlock\/(Value.slice (some ⟨gg,0,none⟩) (Z.length+1) cap5).ownBlock=some (v5.alloc (.cells #[.int .i64 y5] 2)).heap.size\/(Value.slice (some ⟨gg,0,none⟩) (Z.length+1) cap5).ownBlock=none:=by
       rcases hat with q|q
       . exact .inl (by rw[er,q];rfl)
       . exact .inr (.inl (by rw[q];rfl))
      have hgr:(v5.alloc (.cells #[.int .i64 y5] 2)).grownBy w6 (rv.getD 2 AE).ownBlock:=by rw[er];exact hgrow
      have HD6:=H6'.Nd (p:=2) (by omega) hgr hb6 oN rfl;have HS6:=(H6'.stay (.rw 2) (show 2<rv.length by rw[H6'.lr];omega) (by simp) hgr 7).trans H6'.cells.2.2.2.2.2.2.2;have gl:∀k,(rv.getD 2 AE).ownBlock=some k->w.heap.size<=k:=fun k hk=>by have:=(H6'.ge (.rw 2) (show 2<rv.length by rw[H6'.lr];omega)) k hk;omega
      have E0:=Cs.Ll hgr gl hcl hB;have hR6:=(hgr.block w.heap.size (by have:=H6'.base;omega) (fun e=>by have:=(H6'.ge (.rw 2) (show 2<rv.length by rw[H6'.lr];omega)) _ e.symm;omega)).trans hR6';have c6:=HD6.2.1;have f6:=HD6.2.2;have z6:w.heap.size<w6.heap.size:=by have:=hgr.size;omega
      rw[er] at c6;refine hK.out _ _ ?_ (fun hHeld=>?_)
      . exact HS6
      clear hK K;simp only[Act.put,List.setIfInBounds_toArray];refine AO 10 77 (v:=?_) ?_ ?_;rotate_left
      ·
       intro wx hSw;go_simp;with_reducible rfl
      simp only[Act.put];refine wpAnyH_ready (rs:=[11]) (by kernel_rfl) (by simp) ?_;refine AllReadyH.cons rfl (fun K hK=>?_) AllReadyH.nil;go_simp;refine hK.out _ _ ?_ (fun hHeld=>?_)
      . exact HD6.1.cells.2.2.2.2.2.2.2
      clear hK K;refine wpAnyH_done (by kernel_rfl) ?_ _;have gz:w6.grownBy (w6.setCell ⟨gR,2,none⟩ (.slice (some ⟨gg,0,none⟩) (Z.length+1) cap5)) (some gR):=Ad w6 gR 2 _;have hR:=(gz.block w.heap.size z6 (fun e=>by have:=Option.some.inj e;omega)).trans hR6;have EX:=E0.far gz (by omega) hcl hB;have H:=HD6.1
      have hz:Cg AA { b with rws:=b.rws.set 2 (Z++[y5]) }/\Fk { b with rws:=b.rws.set 2 (Z++[y5]) }:=⟨⟨z.w1,z.w2,z.AM,z.AQ,z.n1,z.n2,z.AL,z.sn,z.fr,by simpa using z.r1,fun i hi=>by
       show ((b.rws.set 2 (Z++[y5])).getD i []).length<=1048576;rw[Ah _ _ _ _ (by omega)];split
       . rw[List.length_append];simp only[List.length_cons,List.length_nil];omega
       . exact z.r2 i (by simpa using hi)⟩,(Bm LO.out).1,fun i=>by
       show ((b.rws.set 2 (Z++[y5])).getD i []).length<=15;rw[Ah _ _ _ _ (by omega)];split
       . rw[List.length_append,PX.out];have:=LO.out.2 2;simp only[List.length_cons,List.length_nil];omega
       . exact (Bm LO.out).2 i⟩
      clear HD6 HS6 E0 hR6 c6 f6 hgr gl hown6 hgrow oN gz;have Bh:=H.B6;simp only[BV.arr] at Bh;have HG:=Lib.hid (AV (w6.setCell ⟨gR,2,none⟩ (.slice (some ⟨gg,0,none⟩) (Z.length+1) cap5)) w.heap.size #[.slice aW AA.length cW,.slice aP b.AM.length cP,.slice aL b.AQ.length cL,.slice aN b.AH.length cN',.slice aX b.AL.length cX,.slice aT b.sn.length cT,.slice aF b.fr.length cF,.slice (some ⟨gR,0,none⟩) b.rws.length cR]);have HZ:=Lib.hid (setRow_heap (w6.setCell ⟨gR,2,none⟩ (.slice (some ⟨gg,0,none⟩) (Z.length+1) cap5)) w.heap.size _ #[.slice aW AA.length cW,.slice aP b.AM.length cP,.slice aL b.AQ.length cL,.slice aN b.AH.length cN',.slice aX b.AL.length cX,.slice aT b.sn.length cT,.slice aF b.fr.length cF,.slice (some ⟨gR,0,none⟩) b.rws.length cR] _ _ hR);have HO:=Lib.hid ((H.far HG.out (fun g hg=>by have:=Option.some.inj hg;omega)).fixed hmb);have HD:Hid (Dr w ((w6.setCell ⟨gR,2,none⟩ (.slice (some ⟨gg,0,none⟩) (Z.length+1) cap5)).setRow w.heap.size #[.slice aW AA.length cW,.slice aP b.AM.length cP,.slice aL b.AQ.length cL,.slice aN b.AH.length cN',.slice aX b.AL.length cX,.slice aT b.sn.length cT,.slice aF b.fr.length cF,.slice (some ⟨gR,0,none⟩) b.rws.length cR]) B c):=Lib.hid (EX.far HG.out (by omega) hcl hB);go_wp2_with (first|refine wpList_load_row rfl 30 _ rfl D rfl 30 _ (0,0) _ Bh Tryz.underlying30 rfl AF ?_|refine wpList_store_row rfl 30 _ _ rfl w.heap.size _ rfl rfl 30 _ hR AF rfl (by simp[Value.oneCell']) ?_)
      refine bodyPost_ret (Ac (by rfl) _ _ w.heap.size _ _ (0,0) _ rfl HZ.out Tryz.underlying30 rfl AF) rfl ?_;exact⟨⟨.slice aW AA.length cW,.slice aP b.AM.length cP,.slice aL b.AQ.length cL,.slice aN b.AH.length cN',.slice aX b.AL.length cX,.slice aT b.sn.length cT,.slice aF b.fr.length cF,.slice (some ⟨gR,0,none⟩) b.rws.length cR⟩,AA,{ b with rws:=b.rws.set 2 (Z++[y5]) },rfl,HO.out,hz,HD.out⟩
     ·
      go_simp;have K6':AC v5 (v5.alloc (.cells #[.int .i64 y5] 2)):=(AC.refl _).alloc _;have Cs:=EL.keep K6';have H6':=H5'.keep K6';have hR6':=(Below.block K6' w.heap.size (by have:=H5'.base;omega)).trans hR5';have HN6:(v5.alloc (.cells #[.int .i64 y5] 2)).heap[v5.heap.size]? = some (.cells #[.int .i64 y5] 2 (0,0)):=heap_alloc_new _ _;have HS6:(v5.alloc (.cells #[.int .i64 y5] 2)).heap.size=v5.heap.size+1:=AD _ _;refine hK.out _ _ ?_ (fun hHeld=>?_)
      . exact H6'.cells.2.2.2.2.2.2.2
      clear hK K;refine wpAnyH_ready (rs:=[5]) (by kernel_rfl) (by simp) ?_;refine AllReadyH.cons rfl (fun K hK=>?_) AllReadyH.nil;have hh:=H6'.hR2 rfl i3;rw[er] at hh;go_simp;refine hK.out _ _ ?_ (fun hHeld=>?_)
      . exact H6'.cells.2.2.2.2.2.2.2
      clear hK K;clear hh;refine wpAnyH_ready (rs:=[9]) (by kernel_rfl) (by simp) ?_;refine AllReadyH.cons rfl (fun K hK=>?_) AllReadyH.nil;have o3:A8 (v5.alloc (.cells #[.int .i64 y5] 2)) (w.heap.size+1) (.slice ar Z.length cr) Z:=by have:=H6'.oR (p:=2) (by omega);rw[er,<-PX.out] at this;exact this
      have s3:w.heap.size+1<=(v5.alloc (.cells #[.int .i64 y5] 2)).heap.size:=by have:=H6'.base;omega
      refine step_append_lies _ (by rfl) _ _ _ (by rfl) (w.heap.size+1) 2 i0 _ 1 8 Tryz.underlying26 hi hz0 hz1 hz2 rfl (by omega) (.slice ar Z.length cr) Z.length (Z.map (Value.int .i64)) (by rfl) o3 ⟨v5.heap.size,0,none⟩ 1 1 [.int .i64 y5] (by rfl) (by rfl) (World.news_of_block (cs:=#[.int .i64 y5]) (t:=2) (fr:=(0,0)) HN6) (by simp[Value.oneCell']) (by omega) (by unfold maxLen;omega) (by omega) s3 _ rfl ?_;intro gg cap5 w6 hown6 hgrow hat hlt6
      have oN:A8 w6 (w.heap.size+1) (.slice (some ⟨gg,0,none⟩) (Z.length+1) cap5) (Z++[y5]):=by
       unfold A8;rw[List.length_append,List.map_append];exact hown6
      have hb6:(Value.slice (some ⟨gg,0,none⟩) (Z.length+1) cap5).ownBlock=(rv.getD 2 AE).ownBlock\/(Value.slice (some ⟨gg,0,none⟩) (Z.length+1) cap5).ownBlock=some (v5.alloc (.cells #[.int .i64 y5] 2)).heap.size\/(Value.slice (some ⟨gg,0,none⟩) (Z.length+1) cap5).ownBlock=none:=by
       rcases hat with q|q
       . exact .inl (by rw[er,q];rfl)
       . exact .inr (.inl (by rw[q];rfl))
      have hgr:(v5.alloc (.cells #[.int .i64 y5] 2)).grownBy w6 (rv.getD 2 AE).ownBlock:=by rw[er];exact hgrow
      have HD6:=H6'.Nd (p:=2) (by omega) hgr hb6 oN rfl;have HS6:=(H6'.stay (.rw 2) (show 2<rv.length by rw[H6'.lr];omega) (by simp) hgr 7).trans H6'.cells.2.2.2.2.2.2.2;have gl:∀k,(rv.getD 2 AE).ownBlock=some k->w.heap.size<=k:=fun k hk=>by have:=(H6'.ge (.rw 2) (show 2<rv.length by rw[H6'.lr];omega)) k hk;omega
      have E0:=Cs.Ll hgr gl hcl hB;have hR6:=(hgr.block w.heap.size (by have:=H6'.base;omega) (fun e=>by have:=(H6'.ge (.rw 2) (show 2<rv.length by rw[H6'.lr];omega)) _ e.symm;omega)).trans hR6';have c6:=HD6.2.1;have f6:=HD6.2.2;have z6:w.heap.size<w6.heap.size:=by have:=hgr.size;omega
      rw[er] at c6;refine hK.out _ _ ?_ (fun hHeld=>?_)
      . exact HS6
      clear hK K;simp only[Act.put,List.setIfInBounds_toArray];refine AO 10 77 (v:=?_) ?_ ?_;rotate_left
      ·
       intro wx hSw;go_simp;with_reducible rfl
      simp only[Act.put];refine wpAnyH_ready (rs:=[11]) (by kernel_rfl) (by simp) ?_;refine AllReadyH.cons rfl (fun K hK=>?_) AllReadyH.nil;go_simp;refine hK.out _ _ ?_ (fun hHeld=>?_)
      . exact HD6.1.cells.2.2.2.2.2.2.2
      clear hK K;refine wpAnyH_done (by kernel_rfl) ?_ _;have gz:w6.grownBy (w6.setCell ⟨gR,2,none⟩ (.slice (some ⟨gg,0,none⟩) (Z.length+1) cap5)) (some gR):=Ad w6 gR 2 _;have hR:=(gz.block w.heap.size z6 (fun e=>by have:=Option.some.inj e;omega)).trans hR6;have EX:=E0.far gz (by omega) hcl hB;have H:=HD6.1
      have hz:Cg AA { b with rws:=b.rws.set 2 (Z++[y5]) }/\Fk { b with rws:=b.rws.set 2 (Z++[y5]) }:=⟨⟨z.w1,z.w2,z.AM,z.AQ,z.n1,z.n2,z.AL,z.sn,z.fr,by simpa using z.r1,fun i hi=>by
       show ((b.rws.set 2 (Z++[y5])).getD i []).length<=1048576;rw[Ah _ _ _ _ (by omega)];split
       . rw[List.length_append];simp only[List.length_cons,List.length_nil];omega
       . exact z.r2 i (by simpa using hi)⟩,(Bm LO.out).1,fun i=>by
       show ((b.rws.set 2 (Z++[y5])).getD i []).length<=15;rw[Ah _ _ _ _ (by omega)];split
       . rw[List.length_append,PX.out];have:=LO.out.2 2;simp only[List.length_cons,List.length_nil];omega
       . exact (Bm LO.out).2 i⟩
      clear HD6 HS6 E0 hR6 c6 f6 hgr gl hown6 hgrow oN gz;have Bh:=H.B6;simp only[BV.arr] at Bh;have HG:=Lib.hid (AV (w6.setCell ⟨gR,2,none⟩ (.slice (some ⟨gg,0,none⟩) (Z.length+1) cap5)) w.heap.size #[.slice aW AA.length cW,.slice aP b.AM.length cP,.slice aL b.AQ.length cL,.slice aN b.AH.length cN',.slice aX b.AL.length cX,.slice aT b.sn.length cT,.slice aF b.fr.length cF,.slice (some ⟨gR,0,none⟩) b.rws.length cR]);have HZ:=Lib.hid (setRow_heap (w6.setCell ⟨gR,2,none⟩ (.slice (some ⟨gg,0,none⟩) (Z.length+1) cap5)) w.heap.size _ #[.slice aW AA.length cW,.slice aP b.AM.length cP,.slice aL b.AQ.length cL,.slice aN b.AH.length cN',.slice aX b.AL.length cX,.slice aT b.sn.length cT,.slice aF b.fr.length cF,.slice (some ⟨gR,0,none⟩) b.rws.length cR] _ _ hR);have HO:=Lib.hid ((H.far HG.out (fun g hg=>by have:=Option.some.inj hg;omega)).fixed hmb);have HD:Hid (Dr w ((w6.setCell ⟨gR,2,none⟩ (.slice (some ⟨gg,0,none⟩) (Z.length+1) cap5)).setRow w.heap.size #[.slice aW AA.length cW,.slice aP b.AM.length cP,.slice aL b.AQ.length cL,.slice aN b.AH.length cN',.slice aX b.AL.length cX,.slice aT b.sn.length cT,.slice aF b.fr.length cF,.slice (some ⟨gR,0,none⟩) b.rws.length cR]) B c):=Lib.hid (EX.far HG.out (by omega) hcl hB);go_wp2_with (first|refine wpList_load_row rfl 30 _ rfl D rfl 30 _ (0,0) _ Bh Tryz.underlying30 rfl AF ?_|refine wpList_store_row rfl 30 _ _ rfl w.heap.size _ rfl rfl 30 _ hR AF rfl (by simp[Value.oneCell']) ?_)
      refine bodyPost_ret (Ac (by rfl) _ _ w.heap.size _ _ (0,0) _ rfl HZ.out Tryz.underlying30 rfl AF) rfl ?_;exact⟨⟨.slice aW AA.length cW,.slice aP b.AM.length cP,.slice aL b.AQ.length cL,.slice aN b.AH.length cN',.slice aX b.AL.length cX,.slice aT b.sn.length cT,.slice aF b.fr.length cF,.slice (some ⟨gR,0,none⟩) b.rws.length cR⟩,AA,{ b with rws:=b.rws.set 2 (Z++[y5]) },rfl,HO.out,hz,HD.out⟩
end
end Go.Proofs.YtgakfkjjkobpiaaGreat
