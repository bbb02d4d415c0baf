/- Gathered texts. -/
import Derived.Test.YtflehmepjhikcaaGreatDoorND
import Derived.Deep.RegionLaw
import Derived.RegionTactic
import Derived.Test.YtflehmepjhikcaaGreatDoorMO
set_option maxRecDepth 100000
set_option maxHeartbeats 8000000
namespace Go.Proofs.YtflehmepjhikcaaGreatDoor
open Go.ChangeShapes Go.WideShapes Go.ChangeAt Go.RowKit
theorem WD {a:Option Nat}{k:Nat}(h:a≠some k):a=none\/a≠some k:= .inr h
theorem Cg.first {w w2:World}{base N g n cx:Nat}{V:Nat->Value}{AA:List (List Dd)}{v':Value}{es:List Dd}(h:Cg w base N (.slice (some ⟨g,0,none⟩) n cx) V AA)(h1:0<AA.length)(hn:n=AA.length)(hA:Bq w2 base v' es)
  (hgrow:w.grownBy w2 (V 0).ownBlock) (hblk:v'.ownBlock=(V 0).ownBlock\/v'.ownBlock=some w.heap.size):
  Ro (w2.setCell ⟨g,0,none⟩ v') base (.slice (some ⟨g,0,none⟩) n cx) (AA.set 0 es):=by
 subst hn;have hgw:=(h.cellAt h1).2;have hgb:base<=g:=(KAY h.row g rfl).1;have hgv:(V 0).ownBlock≠some g:=fun e=>h.out 0 h1 g e rfl
 have hv'g:v'.ownBlock≠some g:=by
  rcases hblk with e|e
  . rw[e];exact hgv
  . rw[e];simp only[ne_eq,KAg];omega
 have hb:w2.heap[g]? = w.heap[g]?:=hgrow.block g hgw (fun e=>hgv e.symm);have hp:=JB w2 g 0 v';refine⟨_,cx,by rw[KA4],.inr ⟨g,0,rfl,hgb,KAC (KAC hgw hgrow.size) hp.size,fun i hi=>?_⟩⟩;rw[KA4] at hi;rw[Gg AA 0 i es [] h1,KBC];by_cases e:0=i
 ·
  subst e;rw[KAP rfl];exact⟨v',World.cell?_setCell_same _ _ _ ((GZ hb 0).trans (h.cellAt h1).1),hA.kept hp (WD hv'g)⟩
 ·
  rw[KAQ e];refine⟨V i,?_,?_⟩
  ·
   rw[KCO _ _ _ _ (by intro q;injection q with q1 q2;exact e q2)];exact (GZ hb i).trans (h.cellAt hi).1
  ·
   have k1:Bq w2 base (V i) (AA.getD i []):=(h.each i hi).kept hgrow (by
    cases hv:(V i).ownBlock with
    |none=>exact .inl rfl
    |some q=>exact .inr (fun e2=>h.apart 0 i (by omega) hi q e2.symm hv))
   exact k1.kept hp (WD (fun e2=>h.out i hi g e2 rfl))
theorem Cg.twice {w w2:World}{base N:Nat}{v v':Value}{V:Nat->Value}{AA:List (List Dd)}(h:Cg w base N v V AA)(h1:0<AA.length)
  (hown:w2.ownsRow base 72 1 v' (AA.length+AA.length) ((List.range AA.length).map V++(List.range AA.length).map V)) (hgrow:w.grownBy w2 v.ownBlock):Ro w2 base v' (AA++AA):=by
 have hd:∀i,i<AA.length->Bq w2 base (V i) (AA.getD i []):=fun i hi=>(h.each i hi).kept hgrow (by
  cases hv:(V i).ownBlock with
  |none=>exact .inl rfl
  |some q=>exact .inr (fun e2=>h.out i hi q hv e2.symm))
 have hlt:=KAY hown;have h2:=hown;rcases hown.2 with ⟨_,hz⟩|⟨g,cap,cur,rfl,hb,hg,_⟩
 . omega
 ·
  refine⟨_,cap,by rw[KAJ],.inr ⟨g,0,rfl,hb,(hlt g rfl).2,fun i hi=>?_⟩⟩;rw[KAJ] at hi;rw[KBC];by_cases e:i<AA.length
  ·
   refine⟨V i,?_,by rw[JA AA AA i [] e];exact hd i e⟩;rw[KAp h2 i (by simp;omega),KAu (by simpa using e),Fu V _ i e]
  ·
   have e2:i-AA.length<AA.length:=by omega
   refine⟨V (i-AA.length),?_,?_⟩
   . rw[KAp h2 i (by simp;omega),KAy (by simp;omega),KAj,KB5,Fu V _ _ e2]
   ·
    have:(AA++AA).getD i []=AA.getD (i-AA.length) []:=by
     rw[IT,KAy (by omega),IT]
    rw[this];exact hd _ e2
theorem Cg.low {w:World}{base base' N:Nat}{v:Value}{V:Nat->Value}{AA:List (List Dd)}(h:Cg w base N v V AA)(hb:base'<=base):Cg w base' N v V AA:=by
 refine⟨⟨h.row.1,?_⟩,h.lt,fun i hi=>(h.each i hi).BK hb,h.ja,h.out,h.apart⟩;rcases h.row.2 with q|⟨g,cap,cur,e,hg,r⟩
 . exact .inl q
 . exact .inr ⟨g,cap,cur,e,KAU hb hg,r⟩
theorem IU {w w':World}{b:Nat}(h:w'.heap[b]? = w.heap[b]?)(o:Nat):w'.frozen? ⟨b,o,none⟩=w.frozen? ⟨b,o,none⟩:=by
 simp only[World.frozen?,h]
theorem PY (xs:List Dd):(xs.flatMap cD).toArray.size=xs.length*4:=by
 induction xs with
 |nil=>rfl
 |cons d r ih=>simp[cD] at ih ⊢;omega
theorem IG (w:World)(base:Nat)(xs ys:List Dd)(hb:base<=w.heap.size)(hx:xs.length<=9)(hy:ys.length<=9):
  Cg (((w.alloc (.cells (xs.flatMap cD).toArray 82)).alloc (.cells (ys.flatMap cD).toArray 82)).alloc (.cells #[.slice (some ⟨w.heap.size,0,none⟩) xs.length xs.length,.slice (some ⟨w.heap.size+1,0,none⟩) ys.length ys.length] 72)) base (w.heap.size+3)
   (.slice (some ⟨w.heap.size+2,0,none⟩) 2 2) (fun i=>if i=0 then .slice (some ⟨w.heap.size,0,none⟩) xs.length xs.length else .slice (some ⟨w.heap.size+1,0,none⟩) ys.length ys.length) [xs,ys]:=by
 have a1:Bq (w.alloc (.cells (xs.flatMap cD).toArray 82)) base (.slice (some ⟨w.heap.size,0,none⟩) xs.length xs.length) xs:=
  KAo w (xs.flatMap cD).toArray xs.length hb (by unfold maxLen;omega) (PY xs)
 have a2:Bq ((w.alloc (.cells (xs.flatMap cD).toArray 82)).alloc (.cells (ys.flatMap cD).toArray 82)) base (.slice (some ⟨w.heap.size+1,0,none⟩) ys.length ys.length) ys:=by
  have:=KAo (base:=base) (e:=82) (size:=4) (w.alloc (.cells (xs.flatMap cD).toArray 82)) (ys.flatMap cD).toArray ys.length (by rw[AD];omega) (by unfold maxLen;omega) (PY ys);rw[AD] at this;exact this
 have a3:(((w.alloc (.cells (xs.flatMap cD).toArray 82)).alloc (.cells (ys.flatMap cD).toArray 82)).alloc (.cells #[.slice (some ⟨w.heap.size,0,none⟩) xs.length xs.length,.slice (some ⟨w.heap.size+1,0,none⟩) ys.length ys.length] 72)).ownsRow base 72 1 (.slice (some ⟨w.heap.size+2,0,none⟩) 2 2) 2 [.slice (some ⟨w.heap.size,0,none⟩) xs.length xs.length,.slice (some ⟨w.heap.size+1,0,none⟩) ys.length ys.length]:=by
  have:=KAo (base:=base) (e:=72) (size:=1) ((w.alloc (.cells (xs.flatMap cD).toArray 82)).alloc (.cells (ys.flatMap cD).toArray 82)) #[.slice (some ⟨w.heap.size,0,none⟩) xs.length xs.length,.slice (some ⟨w.heap.size+1,0,none⟩) ys.length ys.length] 2 (by rw[AD,AD];omega) (by unfold maxLen;omega) rfl;rw[AD,AD] at this;exact this
 have two:∀i,i<([xs,ys]:List (List Dd)).length->i=0\/i=1:=fun i hi=>by simp at hi;omega
 refine⟨a3,fun k hk=>by simp[Value.ownBlock] at hk;omega,fun i hi=>?_,fun i hi k hk=>?_,fun i hi k hk=>?_,fun i j hij hj k hk=>?_⟩
 ·
  rcases two i hi with rfl|rfl
  . exact (a1.keep ((AC.refl _).alloc _)).keep ((AC.refl _).alloc _)
  . exact a2.keep ((AC.refl _).alloc _)
 ·
  rcases two i hi with rfl|rfl
  . simp[Value.ownBlock] at hk;omega
  . simp[Value.ownBlock] at hk;omega
 ·
  rcases two i hi with rfl|rfl
  . simp[Value.ownBlock] at hk ⊢;omega
  . simp[Value.ownBlock] at hk ⊢;omega
 ·
  rcases two j hj with rfl|rfl
  . omega
  ·
   obtain rfl:i=0:=by omega
   simp[Value.ownBlock] at hk ⊢;omega
theorem ZF (w:World)(a0 a1 a2 a3 b0 b1 b2 b3 c0 c1 c2 c3 d0 d1 d2 d3 e0 e1 e2 e3:Int){W:World}(hW:W=((((w.alloc (EG a0 a1 a2 a3)).alloc (EG b0 b1 b2 b3)).alloc (EG c0 c1 c2 c3)).alloc (EG d0 d1 d2 d3)).alloc (EG e0 e1 e2 e3)):
  Fx W w.heap.size a0 a1 a2 a3/\Fx W (w.heap.size+1) b0 b1 b2 b3/\Fx W (w.heap.size+1+1) c0 c1 c2 c3/\Fx W (w.heap.size+1+1+1) d0 d1 d2 d3/\Fx W (w.heap.size+1+1+1+1) e0 e1 e2 e3:=by
 subst hW;unfold Fx;refine⟨?_,?_,?_,?_,?_⟩
 all_goals
  simp only[Bs,AD];repeat (first|exact KAP rfl|exact KAP trivial|rw[KAQ (by omega)])
theorem OO {xs ys:List Dd}(hx:xs.length<=4)(hy:ys.length<=4):∀i,i<([xs,ys]:List (List Dd)).length->(([xs,ys]:List (List Dd)).getD i []).length<=4:=by
 intro i hi;have:i=0\/i=1:=by simp at hi;omega
 rcases this with rfl|rfl
 . exact hx
 . exact hy
theorem MY (w:World)(B c:Nat)(hc:Hu w B c):
  Calls Tryz.prog 48 #[.pointer (some ⟨c,0,none⟩)] w fun e w'=>∃v V AA,e = .returned v/\Cg w' w.heap.size w'.heap.size v V AA/\1<=AA.length/\AA.length<=3/\(∀i,i<AA.length->(AA.getD i []).length<=4)/\Dr w w' B c:=by
 have hcl:=hc.lt;have hB:=hc.1;obtain⟨q0,q1,q2,q3,q4⟩:=ZF w 2 0 1 0 2 1 1 0 1 0 0 0 1 1 0 0 4 0 0 0 rfl;have D0:=(((((Dr.refl hc).alloc (EG 2 0 1 0)).alloc (EG 2 1 1 0)).alloc (EG 1 0 0 0)).alloc (EG 1 1 0 0)).alloc (EG 4 0 0 0);go_enter Tryz.func48,Tryz.ntmps48
 go_wp2_with fail
 refine (Al _ B c _ D0.1 (by omega)).mono ?_;rintro e w1 ⟨x,rfl,x0,x1,c1,g1⟩;have D1:=D0.step c1 g1;have hsz:=D1.2.size;have p0:=q0.kept g1 (by simp;omega);have p1:=q1.kept g1 (by simp;omega);have p2:=q2.kept g1 (by simp;omega);have p3:=q3.kept g1 (by simp;omega);have p4:=q4.kept g1 (by simp;omega);clear q0 q1 q2 q3 q4 D0 c1 g1;obtain⟨s00,s01,s02,s03⟩:=p0.cells;obtain⟨s10,s11,s12,s13⟩:=p1.cells;obtain⟨s20,s21,s22,s23⟩:=p2.cells;obtain⟨s30,s31,s32,s33⟩:=p3.cells;obtain⟨s40,s41,s42,s43⟩:=p4.cells;have l0:=p0.lt;have l1:=p1.lt;have l2:=p2.lt;have l3:=p3.lt;have l4:=p4.lt;clear p0 p1 p2 p3 p4;have hx:x=0\/x=1\/x=2\/x=3\/x=4:=by omega
 clear x0 x1;rcases hx with rfl|rfl|rfl|rfl|rfl
 ·
  go_wp2;go_ret;exact⟨_,_,_,rfl,(IG w1 w.heap.size [(2,0,1,0),(1,1,0,0)] [(2,1,1,0),(1,0,0,0)] hsz (by simp) (by simp)).up (by rw[AD,AD,AD];omega),by simp,by simp,OO (by simp) (by simp),((D1.alloc _).alloc _).alloc _⟩
 ·
  go_wp2;go_ret;exact⟨_,_,_,rfl,(IG w1 w.heap.size [(2,0,1,0),(4,0,0,0),(1,1,0,0)] [(2,1,1,0),(4,0,0,0),(1,0,0,0)] hsz (by simp) (by simp)).up (by rw[AD,AD,AD];omega),by simp,by simp,OO (by simp) (by simp),((D1.alloc _).alloc _).alloc _⟩
 ·
  go_wp2;go_ret;exact⟨_,_,_,rfl,(IG w1 w.heap.size [(2,0,1,0),(2,1,1,0)] [(1,1,0,0),(1,0,0,0)] hsz (by simp) (by simp)).up (by rw[AD,AD,AD];omega),by simp,by simp,OO (by simp) (by simp),((D1.alloc _).alloc _).alloc _⟩
 ·
  go_wp2;go_ret;exact⟨_,_,_,rfl,(IG w1 w.heap.size [(2,0,1,0),(1,0,0,0),(1,1,0,0)] [(2,1,1,0),(1,1,0,0),(1,0,0,0)] hsz (by simp) (by simp)).up (by rw[AD,AD,AD];omega),by simp,by simp,OO (by simp) (by simp),((D1.alloc _).alloc _).alloc _⟩
 ·
  go_wp2;go_ret;exact⟨_,_,_,rfl,(IG w1 w.heap.size [(2,0,1,0),(4,0,0,0),(1,1,0,0)] [(2,1,1,0),(1,0,0,0)] hsz (by simp) (by simp)).up (by rw[AD,AD,AD];omega),by simp,by simp,OO (by simp) (by simp),((D1.alloc _).alloc _).alloc _⟩
theorem SY (xs:List Dd):∀u,u∈xs.flatMap cD->u.oneCell'=true:=by
 intro u hu;obtain⟨d,_,hd⟩:=KDF.1 hu;simp[cD] at hd;rcases hd with rfl|rfl|rfl|rfl<;>rfl
theorem Dr.drew {w wr:World}{B c:Nat}(h:Dr w wr B c):Dr w wr.drew B c:=
 ⟨h.1.keep (AC.refl wr).drew,Ak h.2 ⟨rfl,rfl,rfl,KAM _,fun _ _ _=>rfl⟩⟩
theorem Xp (w:World)(d:Dd):∀j u,(cD d)[j]? = some u->(w.alloc (.cells #[.int .i64 d.1,.int .i64 d.2.1,.int .i64 d.2.2.1,.int .i64 d.2.2.2] 82)).cell? ((⟨w.heap.size,0,none⟩:Addr).add j)=some u:=by
 intro j u hj;rw[A7,Bt _ _ _ _ j rfl];rw[<-List.getElem?_toArray] at hj;exact hj
theorem N4 {AA:List (List Dd)}{es:List Dd}(h1:0<AA.length)(h3:AA.length<=3)(h4:∀i,i<AA.length->(AA.getD i []).length<=4)(he:es.length<=7):(AA.set 0 es).length<=6/\∀i,i<(AA.set 0 es).length->((AA.set 0 es).getD i []).length<=7:=by
 refine⟨by rw[KA4];omega,fun i hi=>?_⟩;rw[KA4] at hi;rw[Gg AA 0 i es [] h1];split
 . exact he
 . have:=h4 i hi;omega
theorem Ta {AA:List (List Dd)}(h3:AA.length<=3)(h4:∀i,i<AA.length->(AA.getD i []).length<=4):(AA++AA).length<=6/\∀i,i<(AA++AA).length->((AA++AA).getD i []).length<=7:=by
 refine⟨by rw[KAJ];omega,fun i hi=>?_⟩;rw[KAJ] at hi;by_cases e:i<AA.length
 . rw[JA AA AA i [] e];have:=h4 i e;omega
 ·
  have:(AA++AA).getD i []=AA.getD (i-AA.length) []:=by
   rw[IT,KAy (by omega),IT]
  rw[this];have:=h4 (i-AA.length) (by omega);omega
theorem Jc (w:World)(B c:Nat)(hc:Hu w B c):
  Calls Tryz.prog 24 #[.pointer (some ⟨c,0,none⟩)] w fun e w'=>∃v AA,e = .returned v/\Ro w' w.heap.size v AA/\(AA.length<=6/\∀i,i<AA.length->(AA.getD i []).length<=7)/\Dr w w' B c:=by
 have hcl:=hc.lt;have hB:=hc.1;obtain⟨i0,hi,hz0,hz1,hz2⟩:=KA3 Tryz.Z4;obtain⟨j0,hj,hy0,hy1,hy2⟩:=KA3 Tryz.UP;go_enter Tryz.func24,Tryz.ntmps24
 go_wp2_with fail
 refine (UX _ B c hc).mono ?_;rintro e w1 ⟨v1,V1,dss1,rfl,hX1,n1,n3,l4,D1⟩;go_wp2_with fail
 refine (EU _ B c _ D1.1 (by omega)).mono ?_;rintro e w2 ⟨b,rfl,c2,g2⟩;have hX2:=(hX1.kept g2 hcl).up g2.size;have D2:=D1.step c2 g2;clear hX1 D1 c2 g2;go_upto_if 7 with fail
 go_cut [3] from 4 (fun s3 wx=>∃V AA,Cg wx w.heap.size wx.heap.size s3 V AA/\1<=AA.length/\AA.length<=3/\Hid (∀i,i<AA.length->(AA.getD i []).length<=4)/\Dr w wx B c)
 case first=>
  cases b
  ·
   go_wp2;go_meet;case rel=>exact⟨_,_,hX2,n1,n3,AI l4,D2⟩
  ·
   go_wp2_with fail
   refine (MY _ B c D2.1).mono ?_;rintro e w3 ⟨v3,V3,dss3,rfl,hX3,m1,m3,k4,D3⟩;go_wp2;go_meet;case rel=>exact⟨_,_,hX3.low D2.2.size,m1,m3,AI k4,D2.trans D3⟩
 case rest=>
  clear hX2 D2 n1 n3 l4;obtain⟨V,AA,hX,n1,n3,l4,D2⟩:=hcut;go_wp2_with fail
  refine (EU _ B c _ D2.1 (by omega)).mono ?_;rintro e w4 ⟨b2,rfl,c4,g4⟩;have hX4:=(hX.kept g4 hcl).up g4.size;have D4:=D2.step c4 g4;clear hX D2 c4 g4;have HN:Hid (AA.length<=6/\∀i,i<AA.length->(AA.getD i []).length<=7):=AI ⟨by omega,fun i hi=>by have:=l4.out i hi;omega⟩;cases b2
  ·
   have HR:=AI hX4.yY;go_wp2;go_ret;exact⟨_,AA,rfl,HR.out,HN.out,D4⟩
  ·
   go_wp2_with fail
   refine (Al _ B c _ D4.1 (by omega)).mono ?_;rintro e w5 ⟨x,rfl,x0,x1,c5,g5⟩;have hX5:=(hX4.kept g5 hcl).up g5.size;have D5:=D4.step c5 g5;clear hX4 D4 c5 g5 HN;have hx:x=0\/x=1\/x=2\/x=3:=by omega
   clear x0 x1;obtain⟨g,cx,rfl,hgb,hgN,hgw,hcx,hcell,hfree⟩:=hX5.at (by omega);have d0:=hcell 0 (by omega);have f0:=hfree 0;have hA0:=hX5.each 0 (by omega);have hl0:=l4.out 0 (by omega);have hout0:∀k,(V 0).ownBlock=some k->w.heap.size<=k/\k<w5.heap.size:=hA0.lt;have i1:(0:Int)<(AA.length:Int):=by omega
   have h01:0<AA.length:=by omega
   rcases hx with rfl|rfl|rfl|rfl
   ·
    obtain⟨a5,c5,hV0⟩:=hA0.shape;have HV:=AI hV0;rw[hV0] at d0 hA0 hout0;clear hV0;obtain⟨L,hL⟩:∃L,L=AA.getD 0 []:=⟨_,rfl⟩;rw[<-hL] at d0 hA0 hl0 hout0 HV;clear hL hcell hfree;have hsz5:=D5.2.size;have D5':=D5.drew;have hX5':=hX5.keep (AC.refl w5).drew;have hA5':=hA0.keep (AC.refl w5).drew;have gne:(Value.slice a5 L.length c5).ownBlock≠some g:=fun e=>hX5.out 0 (by omega) g (by rw[HV.out];exact e) rfl
    have cg:g≠c:=by omega
    go_wp2
    go_region_law ((first
     | (refine Bf rfl (.tmp 19) (.tmp 22) 72 rfl w.heap.size 82 i0 (.agg #[.int .i64 0,.int .i64 0,.int .i64 0,.int .i64 0]) 4 32 Tryz.underlying72 hi hz0 hz1 hz2 rfl (by decide) (.slice a5 L.length c5) L.length (L.flatMap cD) (by simp[Act.eval]) (hA6.keep ((AC.refl w6).alloc (.cells #[.int .i64 kq,.int .i64 pq,.int .i64 vq,.int .i64 gq] 82))) ⟨w6.heap.size,0,none⟩ 1 1 (cD (kq,pq,vq,gq)) (by simp[Act.eval]) rfl (Xp w6 (kq,pq,vq,gq)) (SY [(kq,pq,vq,gq)]) (by unfold maxLen;omega) (by omega) (by rw[AD];omega) ?_;intro v' w7 hown' hgrow hblk;have hA7:Bq w7 w.heap.size v' (L++[(kq,pq,vq,gq)]):=IE hown';have qz:(V 0).ownBlock=(Value.slice a5 L.length c5).ownBlock:=(by rw[HV.out]);have HR:=AI ((hX6.keep ((AC.refl w6).alloc (.cells #[.int .i64 kq,.int .i64 pq,.int .i64 vq,.int .i64 gq] 82))).first (by omega) rfl hA7 (by rw[qz];exact hgrow) (by rw[qz];exact hblk));have HS:=AI (N4 (es:=L++[(kq,pq,vq,gq)]) (by omega) n3 l4.out (by simp;omega));have D7:=((D6.alloc (.cells #[.int .i64 kq,.int .i64 pq,.int .i64 vq,.int .i64 gq] 82)).grow hgrow (fun k hk=>(hout0 k hk).1) hcl hB).set hgb hcl hB 0 v';have hb7:w7.heap[g]? = w6.heap[g]?:=(hgrow.block g (by rw[AD];omega) (fun e=>gne e.symm)).trans (by rw[Bs,KAQ (by omega)]);have d7:=(GZ hb7 0).trans d6;have f7:w7.frozen? ⟨g,0,none⟩=false:=(by rw[IU hb7 0];exact f6);have hg7:g<w7.heap.size:=KAC (by rw[AD];omega) hgrow.size;obtain⟨a7,c7,hv7⟩:=hA7.shape;generalize (L++[(kq,pq,vq,gq)]).length=n7 at hv7;subst hv7;clear hgrow hown' hblk hA7 hb7 d6 f6 hg6)
     | (go_simp;refine (Ou _ B c D5'.1).mono ?_;rintro e w6 ⟨kq,pq,vq,gq,rfl,D6'⟩;have D6:=D5'.trans D6';have hX6:=hX5'.kept D6'.2 hcl;have hA6:=hA5'.kept D6'.2 (Fm hA5'.ge hcl);have hb6:w6.heap[g]? = w5.heap[g]?:=D6'.2.block g hgw (by simp;omega);have d6:=(GZ hb6 0).trans d0;have f6:w6.frozen? ⟨g,0,none⟩=false:=(by rw[IU hb6 0];exact f0);have hg6:g<w6.heap.size:=KAC hgw D6'.2.size;have hs6:=D6.2.size;clear D6' hb6)))
    all_goals
     go_wp2;go_ret;exact⟨_,_,rfl,HR.out,HS.out,D7⟩
   ·
    have hN:Hid ((AA++AA).length<=6/\∀i,i<(AA++AA).length->((AA++AA).getD i []).length<=7):=AI (Ta n3 l4.out);have hsz5:=D5.2.size;go_wp2_with (at_builtin;refine KAe _ rfl _ _ 24 rfl w.heap.size 72 j0 (.slice none 0 0) 1 24 Tryz.underlying24 hj hy0 hy1 hy2 rfl (by decide) _ _ _ rfl hX5.row ⟨g,0,none⟩ AA.length cx ((List.range AA.length).map V) rfl ?b1 ?b2 ?b3 ?b4 ?b5 ?b6 ?_)
    case b1=>simp
    case b2=>
     intro j u hj;have hj':j<AA.length:=by have:=(KBE.1 hj).1;simpa using this
     rw[Fu V _ j hj'] at hj;rw[A7,KBC,hcell j hj'];exact hj
    case b3=>
     intro u hu;obtain⟨i,hi,rfl⟩:=KAv.1 hu;rw[KAd] at hi;obtain⟨a,cc,e⟩:=(hX5.each i hi).shape;rw[e];rfl
    case b4=>unfold maxLen;omega
    case b5=>omega
    case b6=>exact hsz5
    intro v' w6 hown' hgrow _ _;have HR:=AI (hX5.twice (by omega) hown' hgrow);have D6:=D5.grow hgrow (fun k hk=>(KAY hX5.row k hk).1) hcl hB;clear hgrow hown' hX5;go_wp2;go_ret;exact⟨_,_,rfl,HR.out,hN.out,D6⟩
   ·
    go_wp2;go_ret;exact⟨_,[],rfl,⟨_,_,rfl,.inl rfl⟩,⟨by simp,by simp⟩,D5.alloc _⟩
   ·
    obtain⟨a5,c5,hV0⟩:=hA0.shape;have HV:=AI hV0;rw[hV0] at d0 hA0 hout0;clear hV0;obtain⟨L,hL⟩:∃L,L=AA.getD 0 []:=⟨_,rfl⟩;rw[<-hL] at d0 hA0 hl0 hout0 HV;clear hL hcell hfree;have hsz5:=D5.2.size;have hA1:=hA0.keep ((AC.refl w5).alloc (.cells #[.int .i64 1,.int .i64 0,.int .i64 0,.int .i64 1,.int .i64 4,.int .i64 0,.int .i64 0,.int .i64 0,.int .i64 1,.int .i64 0,.int .i64 0,.int .i64 1] 82));have hX6:=hX5.keep ((AC.refl w5).alloc (.cells #[.int .i64 1,.int .i64 0,.int .i64 0,.int .i64 1,.int .i64 4,.int .i64 0,.int .i64 0,.int .i64 0,.int .i64 1,.int .i64 0,.int .i64 0,.int .i64 1] 82));go_wp2_with (at_builtin;refine KAe _ rfl _ _ 72 rfl w.heap.size 82 i0 (.agg #[.int .i64 0,.int .i64 0,.int .i64 0,.int .i64 0]) 4 32 Tryz.underlying72 hi hz0 hz1 hz2 rfl (by decide) _ _ _ rfl hA1 ⟨_,0,none⟩ 3 3 (([(1,0,0,1),(4,0,0,0),(1,0,0,1)]:List Dd).flatMap cD) rfl rfl ?d1 ?d2 ?d3 ?d4 ?d5 ?_)
    case d1=>
     intro j u hj;rw[A7,Bt _ _ _ _ j rfl];rw[<-List.getElem?_toArray] at hj;exact hj
    case d2=>exact SY _
    case d3=>unfold maxLen;first|omega|(simp;omega)
    case d4=>first|omega|(simp;omega)
    case d5=>first|omega|(simp;omega)
    intro v' w6 hown' hgrow _ hblk
    have hA6:Bq w6 w.heap.size v' (L++[(1,0,0,1),(4,0,0,0),(1,0,0,1)]):=by
     unfold Bq;rw[KB7];simpa using hown'
    have qz:(V 0).ownBlock=(Value.slice a5 L.length c5).ownBlock:=by rw[HV.out]
    have HR:=AI (hX6.first (by omega) rfl hA6 (by rw[qz];exact hgrow) (by rw[qz,AD];exact hblk));have HS:=AI (N4 (es:=L++[(1,0,0,1),(4,0,0,0),(1,0,0,1)]) (by omega) n3 l4.out (by simp;omega));have D6:=(D5.alloc (.cells #[.int .i64 1,.int .i64 0,.int .i64 0,.int .i64 1,.int .i64 4,.int .i64 0,.int .i64 0,.int .i64 0,.int .i64 1,.int .i64 0,.int .i64 0,.int .i64 1] 82)).grow hgrow (fun k hk=>(hout0 k hk).1) hcl hB;have D7:=D6.set hgb hcl hB 0 v';have gne:(Value.slice a5 L.length c5).ownBlock≠some g:=fun e=>hX6.out 0 (by omega) g (by rw[qz];exact e) rfl
    have hb6:w6.heap[g]? = w5.heap[g]?:=(hgrow.block g (by rw[AD];omega) (fun e=>gne e.symm)).trans (by rw[Bs,KAQ (by omega)]);have d6:=(GZ hb6 0).trans d0;have f6:w6.frozen? ⟨g,0,none⟩=false:=by rw[<-f0];exact IU hb6 0
    have hg6:g<w6.heap.size:=KAC (by rw[AD];omega) hgrow.size;obtain⟨a7,c7,hv7⟩:=hA6.shape;generalize (L++[(1,0,0,1),(4,0,0,0),(1,0,0,1)]).length=n7 at hv7;subst hv7;clear hgrow hown' hblk hX5 hX6 hA1 hA0 hA6 D6;go_wp2;go_ret;exact⟨_,_,rfl,HR.out,HS.out,D7⟩
theorem Dr.vU {w W wr:World}{B c:Nat}(h:Dr W wr B c)(k:AC w W)(hc:w.heap.size<=c):AC w wr:=k.grown h.2 (fun j hj=>by simp at hj;omega)
theorem U4 {AA:List (List Dd)}(h:AL AA=true):AA.length<=3/\∀i,i<AA.length->GQ (AA.getD i [])=true:=by
 simp only[AL,KAO,KAN] at h;obtain⟨⟨⟨⟨h1,h2⟩,_⟩,_⟩,_⟩:=h;exact⟨h1.2,fun i hi=>Bm [] h2 i hi⟩
theorem Wa {w:World}{base base':Nat}{v:Value}{es:List Ev}(h:GV w base v es)(hb:base'<=base):GV w base' v es:=by
 refine⟨h.1,?_⟩;rcases h.2 with h|⟨g,cap,cur,hv,hg,rest⟩
 . exact .inl h
 . exact .inr ⟨g,cap,cur,hv,KAU hb hg,rest⟩
theorem Gq (w:World)(v:Value)(AA:List (List Dd))(h:Fw w v AA)(hx:AA.length<=1048576)(hm:∀i,i<AA.length->(AA.getD i []).length<=1048576):
  Calls Tryz.prog 26 #[v] w fun e w'=>∃v',e = .returned v'/\GV w' w.heap.size v' (AB AA)/\AC w w':=by
 cases hb:AL AA
 ·
  have HE:Hid (AB AA=[]):=AI (by rw[AB,hb];rfl);have O:∀w1:World,AC w w1->GV (w1.alloc (.cells #[] 85)) w.heap.size (.slice (some ⟨w1.heap.size,0,none⟩) 0 0) []:=fun w1 k1=>KAo w1 #[] 0 k1.size (by decide) (by simp)
  go_enter Tryz.func26,Tryz.ntmps26
  go_wp2_with fail
  refine (EX _ _ _ h hx hm).mono ?_;rintro e w1 ⟨rfl,k1⟩;go_wp2;go_ret;exact⟨_,rfl,by rw[HE.out];exact O w1 k1,k1.alloc _⟩
 ·
  have HE:Hid (AB AA=BB AA AA.length):=AI (by rw[AB,KAP hb]);obtain⟨u1,u2⟩:=U4 hb;go_enter Tryz.func26,Tryz.ntmps26
  go_wp2_with fail
  refine (EX _ _ _ h hx hm).mono ?_;rintro e w1 ⟨rfl,k1⟩;have h:=h.keep k1;have hs:=k1.size;go_wp2_with fail
  refine (EN _ _ _ h u1 u2).mono ?_;rintro e w2 ⟨v2,rfl,a2,k2⟩;go_wp2;go_ret;exact⟨_,rfl,by rw[HE.out];exact Wa a2 hs,k1.trans k2⟩
theorem RR (w:World)(v:Value)(AA:List (List Dd))(h:Fw w v AA)(hx:AA.length<=1048576)(hm:∀i,i<AA.length->(AA.getD i []).length<=1048576):
  Calls Tryz.prog 14 #[v] w fun e w'=>∃v' l,e = .returned v'/\KF w.heap.size w' v' l/\DD AA false l/\AC w w':=by
 have CW:=EX w v AA h hx hm;have HH:=AI h;obtain⟨av,cv,rfl,-⟩:=id h;clear h hm;go_enter Tryz.func14,Tryz.ntmps14
 go_wp2_with fail
 refine CW.mono ?_;rintro e w1 ⟨rfl,k1⟩;clear CW;cases hb:AL AA
 ·
  have HB:=AI hb;clear hb;go_wp2;go_ret;exact⟨_,[],rfl,Xd _ _ _ _,⟨fun h=>(by rw[HB.out] at h;cases h),fun _=>rfl⟩,k1.alloc _⟩
 ·
  have HB:=AI hb;have CE:=MG w1 _ AA false (HH.out.keep k1) hb;clear hb;go_wp2_with fail
  refine CE.mono ?_;rintro e w2 ⟨v2,l,rfl,r2,hi,-,k2⟩;have HI:=AI hi;clear hi CE;go_wp2;go_ret;exact⟨_,l,rfl,r2.low k1.size,⟨fun _=>HI.out,fun h=>(by rw[HB.out] at h;cases h)⟩,k1.trans k2⟩
end Go.Proofs.YtflehmepjhikcaaGreatDoor
