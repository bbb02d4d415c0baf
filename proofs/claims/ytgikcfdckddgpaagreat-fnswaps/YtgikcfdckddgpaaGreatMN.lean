/- Gathered texts. -/
import Derived.Test.YtgikcfdckddgpaaGreatMM
import Derived.Deep.RegionLaw
import Derived.RegionTactic
import Derived.Lib.Hide
import Derived.BigRegion
import Derived.Outline
import Derived.Laws.AppendOwnNone
set_option maxRecDepth 100000
set_option maxHeartbeats 8000000
namespace Go.Proofs.YtgikcfdckddgpaaGreat
open Go.ChangeShapes Go.WideShapes Go.ChangeAt Go.RowKit
theorem some_ne {a:Option Nat}{k:Nat}(h:a≠some k):a=none∨a≠some k:= .inr h
theorem AppX.first {w w2:World}{base N g n cx:Nat}{V:Nat→Value}{dss:List (List Dd)}{v':Value}{es:List Dd}(h:AppX w base N (.slice (some ⟨g,0,none⟩) n cx) V dss)(h1:0<dss.length)(hn:n=dss.length)(hA:AppD w2 base v' es)
  (hgrow:w.grownBy w2 (V 0).ownBlock) (hblk:v'.ownBlock=(V 0).ownBlock∨v'.ownBlock=some w.heap.size):
  RdX (w2.setCell ⟨g,0,none⟩ v') base (.slice (some ⟨g,0,none⟩) n cx) (dss.set 0 es):=by
 subst hn;have hgw:=(h.cellAt h1).2;have hgb:base≤g:=(World.ownsRow.lt h.row g rfl).1;have hgv:(V 0).ownBlock≠some g:=fun e=>h.out 0 h1 g e rfl
 have hv'g:v'.ownBlock≠some g:=by
  rcases hblk with e|e
  · rw[e];exact hgv
  · rw[e];simp only[ne_eq,Option.some.injEq];omega
 have hb:w2.heap[g]? = w.heap[g]?:=hgrow.block g hgw (fun e=>hgv e.symm);have hp:=grown_put w2 g 0 v';refine⟨_,cx,by rw[List.length_set],.inr ⟨g,0,rfl,hgb,Nat.lt_of_lt_of_le (Nat.lt_of_lt_of_le hgw hgrow.size) hp.size,fun i hi=>?_⟩⟩;rw[List.length_set] at hi;rw[getD_setW dss 0 i es [] h1,Nat.zero_add];by_cases e:0=i
 ·
  subst e;rw[if_pos rfl];exact⟨v',World.cell?_setCell_same _ _ _ ((cell_same hb 0).trans (h.cellAt h1).1),hA.kept hp (some_ne hv'g)⟩
 ·
  rw[if_neg e];refine⟨V i,?_,?_⟩
  ·
   rw[World.cell?_setCell_other _ _ _ _ (by intro q;injection q with q1 q2;exact e q2)];exact (cell_same hb i).trans (h.cellAt hi).1
  ·
   have k1:AppD w2 base (V i) (dss.getD i []):=(h.each i hi).kept hgrow (by
    cases hv:(V i).ownBlock with
    |none=>exact .inl rfl
    |some q=>exact .inr (fun e2=>h.apart 0 i (by omega) hi q e2.symm hv))
   exact k1.kept hp (some_ne (fun e2=>h.out i hi g e2 rfl))
theorem AppX.twice {w w2:World}{base N:Nat}{v v':Value}{V:Nat→Value}{dss:List (List Dd)}(h:AppX w base N v V dss)(h1:0<dss.length)
  (hown:w2.ownsRow base 45 1 v' (dss.length+dss.length) ((List.range dss.length).map V++(List.range dss.length).map V)) (hgrow:w.grownBy w2 v.ownBlock):RdX w2 base v' (dss++dss):=by
 have hd:∀i,i<dss.length→AppD w2 base (V i) (dss.getD i []):=fun i hi=>(h.each i hi).kept hgrow (by
  cases hv:(V i).ownBlock with
  |none=>exact .inl rfl
  |some q=>exact .inr (fun e2=>h.out i hi q hv e2.symm))
 have hlt:=World.ownsRow.lt hown;have h2:=hown;rcases hown.2 with ⟨_,hz⟩|⟨g,cap,cur,rfl,hb,hg,_⟩
 · omega
 ·
  refine⟨_,cap,by rw[List.length_append],.inr ⟨g,0,rfl,hb,(hlt g rfl).2,fun i hi=>?_⟩⟩;rw[List.length_append] at hi;rw[Nat.zero_add];by_cases e:i<dss.length
  ·
   refine⟨V i,?_,by rw[getD_left dss dss i [] e];exact hd i e⟩;rw[World.ownsRow.cellAt h2 i (by simp;omega),List.getElem?_append_left (by simpa using e),range_getV V _ i e]
  ·
   have e2:i-dss.length<dss.length:=by omega
   refine⟨V (i-dss.length),?_,?_⟩
   · rw[World.ownsRow.cellAt h2 i (by simp;omega),List.getElem?_append_right (by simp;omega),List.length_map,List.length_range,range_getV V _ _ e2]
   ·
    have:(dss++dss).getD i []=dss.getD (i-dss.length) []:=by
     rw[List.getD_eq_getElem?_getD,List.getElem?_append_right (by omega),List.getD_eq_getElem?_getD]
    rw[this];exact hd _ e2
theorem AppX.low {w:World}{base base' N:Nat}{v:Value}{V:Nat→Value}{dss:List (List Dd)}(h:AppX w base N v V dss)(hb:base'≤base):AppX w base' N v V dss:=by
 refine⟨⟨h.row.1,?_⟩,h.lt,fun i hi=>(h.each i hi).base_le hb,h.lts,h.out,h.apart⟩;rcases h.row.2 with q|⟨g,cap,cur,e,hg,r⟩
 · exact .inl q
 · exact .inr ⟨g,cap,cur,e,Nat.le_trans hb hg,r⟩
theorem frozen_same {w w':World}{b:Nat}(h:w'.heap[b]? = w.heap[b]?)(o:Nat):w'.frozen? ⟨b,o,none⟩=w.frozen? ⟨b,o,none⟩:=by
 simp only[World.frozen?,h]
theorem flat_size (xs:List Dd):(xs.flatMap cD).toArray.size=xs.length*4:=by
 induction xs with
 |nil=>rfl
 |cons d r ih=>simp[cD] at ih ⊢;omega
theorem appX_two (w:World)(base:Nat)(xs ys:List Dd)(hb:base≤w.heap.size)(hx:xs.length≤9)(hy:ys.length≤9):
  AppX (((w.alloc (.cells (xs.flatMap cD).toArray 50)).alloc (.cells (ys.flatMap cD).toArray 50)).alloc (.cells #[.slice (some ⟨w.heap.size,0,none⟩) xs.length xs.length,.slice (some ⟨w.heap.size+1,0,none⟩) ys.length ys.length] 45)) base (w.heap.size+3)
   (.slice (some ⟨w.heap.size+2,0,none⟩) 2 2) (fun i=>if i=0 then .slice (some ⟨w.heap.size,0,none⟩) xs.length xs.length else .slice (some ⟨w.heap.size+1,0,none⟩) ys.length ys.length) [xs,ys]:=by
 have a1:AppD (w.alloc (.cells (xs.flatMap cD).toArray 50)) base (.slice (some ⟨w.heap.size,0,none⟩) xs.length xs.length) xs:=
  World.ownsRow_lit w (xs.flatMap cD).toArray xs.length hb (by unfold maxLen;omega) (flat_size xs)
 have a2:AppD ((w.alloc (.cells (xs.flatMap cD).toArray 50)).alloc (.cells (ys.flatMap cD).toArray 50)) base (.slice (some ⟨w.heap.size+1,0,none⟩) ys.length ys.length) ys:=by
  have:=World.ownsRow_lit (base:=base) (e:=50) (size:=4) (w.alloc (.cells (xs.flatMap cD).toArray 50)) (ys.flatMap cD).toArray ys.length (by rw[heap_size];omega) (by unfold maxLen;omega) (flat_size ys);rw[heap_size] at this;exact this
 have a3:(((w.alloc (.cells (xs.flatMap cD).toArray 50)).alloc (.cells (ys.flatMap cD).toArray 50)).alloc (.cells #[.slice (some ⟨w.heap.size,0,none⟩) xs.length xs.length,.slice (some ⟨w.heap.size+1,0,none⟩) ys.length ys.length] 45)).ownsRow base 45 1 (.slice (some ⟨w.heap.size+2,0,none⟩) 2 2) 2 [.slice (some ⟨w.heap.size,0,none⟩) xs.length xs.length,.slice (some ⟨w.heap.size+1,0,none⟩) ys.length ys.length]:=by
  have:=World.ownsRow_lit (base:=base) (e:=45) (size:=1) ((w.alloc (.cells (xs.flatMap cD).toArray 50)).alloc (.cells (ys.flatMap cD).toArray 50)) #[.slice (some ⟨w.heap.size,0,none⟩) xs.length xs.length,.slice (some ⟨w.heap.size+1,0,none⟩) ys.length ys.length] 2 (by rw[heap_size,heap_size];omega) (by unfold maxLen;omega) rfl;rw[heap_size,heap_size] at this;exact this
 have two:∀i,i<([xs,ys]:List (List Dd)).length→i=0∨i=1:=fun i hi=>by simp at hi;omega
 refine⟨a3,fun k hk=>by simp[Value.ownBlock] at hk;omega,fun i hi=>?_,fun i hi k hk=>?_,fun i hi k hk=>?_,fun i j hij hj k hk=>?_⟩
 ·
  rcases two i hi with rfl|rfl
  · exact (a1.keep ((Keep.refl _).alloc _)).keep ((Keep.refl _).alloc _)
  · exact a2.keep ((Keep.refl _).alloc _)
 ·
  rcases two i hi with rfl|rfl
  · simp[Value.ownBlock] at hk;omega
  · simp[Value.ownBlock] at hk;omega
 ·
  rcases two i hi with rfl|rfl
  · simp[Value.ownBlock] at hk ⊢;omega
  · simp[Value.ownBlock] at hk ⊢;omega
 ·
  rcases two j hj with rfl|rfl
  · omega
  ·
   obtain rfl:i=0:=by omega
   simp[Value.ownBlock] at hk ⊢;omega
theorem box_five (w:World)(a0 a1 a2 a3 b0 b1 b2 b3 c0 c1 c2 c3 d0 d1 d2 d3 e0 e1 e2 e3:Int){W:World}(hW:W=((((w.alloc (deedC a0 a1 a2 a3)).alloc (deedC b0 b1 b2 b3)).alloc (deedC c0 c1 c2 c3)).alloc (deedC d0 d1 d2 d3)).alloc (deedC e0 e1 e2 e3)):
  Box W w.heap.size a0 a1 a2 a3∧Box W (w.heap.size+1) b0 b1 b2 b3∧Box W (w.heap.size+1+1) c0 c1 c2 c3∧Box W (w.heap.size+1+1+1) d0 d1 d2 d3∧Box W (w.heap.size+1+1+1+1) e0 e1 e2 e3:=by
 subst hW;unfold Box;refine⟨?_,?_,?_,?_,?_⟩
 all_goals
  simp only[heap_at,heap_size];repeat (first|exact if_pos rfl|exact if_pos trivial|rw[if_neg (by omega)])
theorem two_le {xs ys:List Dd}(hx:xs.length≤4)(hy:ys.length≤4):∀i,i<([xs,ys]:List (List Dd)).length→(([xs,ys]:List (List Dd)).getD i []).length≤4:=by
 intro i hi;have:i=0∨i=1:=by simp at hi;omega
 rcases this with rfl|rfl
 · exact hx
 · exact hy
theorem l5DrawKnown_any (w:World)(B c:Nat)(hc:Cur w B c):
  Calls Tryz.prog 197 #[.pointer (some ⟨c,0,none⟩)] w fun e w'=>∃v V dss,e = .returned v∧AppX w' w.heap.size w'.heap.size v V dss∧1≤dss.length∧dss.length≤3∧(∀i,i<dss.length→(dss.getD i []).length≤4)∧Dr w w' B c:=by
 have hcl:=hc.lt;have hB:=hc.1;obtain⟨q0,q1,q2,q3,q4⟩:=box_five w 2 0 1 0 2 1 1 0 1 0 0 0 1 1 0 0 4 0 0 0 rfl;have D0:=(((((Dr.refl hc).alloc (deedC 2 0 1 0)).alloc (deedC 2 1 1 0)).alloc (deedC 1 0 0 0)).alloc (deedC 1 1 0 0)).alloc (deedC 4 0 0 0);go_enter Tryz.func197,Tryz.ntmps197
 go_wp2_with fail
 refine (below_any _ B c _ D0.1 (by omega)).mono ?_;rintro e w1 ⟨x,rfl,x0,x1,c1,g1⟩;have D1:=D0.step c1 g1;have hsz:=D1.2.size;have p0:=q0.kept g1 (by simp;omega);have p1:=q1.kept g1 (by simp;omega);have p2:=q2.kept g1 (by simp;omega);have p3:=q3.kept g1 (by simp;omega);have p4:=q4.kept g1 (by simp;omega);clear q0 q1 q2 q3 q4 D0 c1 g1;obtain⟨s00,s01,s02,s03⟩:=p0.cells;obtain⟨s10,s11,s12,s13⟩:=p1.cells;obtain⟨s20,s21,s22,s23⟩:=p2.cells;obtain⟨s30,s31,s32,s33⟩:=p3.cells;obtain⟨s40,s41,s42,s43⟩:=p4.cells;have l0:=p0.lt;have l1:=p1.lt;have l2:=p2.lt;have l3:=p3.lt;have l4:=p4.lt;clear p0 p1 p2 p3 p4;have hx:x=0∨x=1∨x=2∨x=3∨x=4:=by omega
 clear x0 x1;rcases hx with rfl|rfl|rfl|rfl|rfl
 ·
  go_wp2;go_ret;exact⟨_,_,_,rfl,(appX_two w1 w.heap.size [(2,0,1,0),(1,1,0,0)] [(2,1,1,0),(1,0,0,0)] hsz (by simp) (by simp)).up (by rw[heap_size,heap_size,heap_size];omega),by simp,by simp,two_le (by simp) (by simp),((D1.alloc _).alloc _).alloc _⟩
 ·
  go_wp2;go_ret;exact⟨_,_,_,rfl,(appX_two w1 w.heap.size [(2,0,1,0),(4,0,0,0),(1,1,0,0)] [(2,1,1,0),(4,0,0,0),(1,0,0,0)] hsz (by simp) (by simp)).up (by rw[heap_size,heap_size,heap_size];omega),by simp,by simp,two_le (by simp) (by simp),((D1.alloc _).alloc _).alloc _⟩
 ·
  go_wp2;go_ret;exact⟨_,_,_,rfl,(appX_two w1 w.heap.size [(2,0,1,0),(2,1,1,0)] [(1,1,0,0),(1,0,0,0)] hsz (by simp) (by simp)).up (by rw[heap_size,heap_size,heap_size];omega),by simp,by simp,two_le (by simp) (by simp),((D1.alloc _).alloc _).alloc _⟩
 ·
  go_wp2;go_ret;exact⟨_,_,_,rfl,(appX_two w1 w.heap.size [(2,0,1,0),(1,0,0,0),(1,1,0,0)] [(2,1,1,0),(1,1,0,0),(1,0,0,0)] hsz (by simp) (by simp)).up (by rw[heap_size,heap_size,heap_size];omega),by simp,by simp,two_le (by simp) (by simp),((D1.alloc _).alloc _).alloc _⟩
 ·
  go_wp2;go_ret;exact⟨_,_,_,rfl,(appX_two w1 w.heap.size [(2,0,1,0),(4,0,0,0),(1,1,0,0)] [(2,1,1,0),(1,0,0,0)] hsz (by simp) (by simp)).up (by rw[heap_size,heap_size,heap_size];omega),by simp,by simp,two_le (by simp) (by simp),((D1.alloc _).alloc _).alloc _⟩
theorem flat_one (xs:List Dd):∀u,u∈xs.flatMap cD→u.oneCell'=true:=by
 intro u hu;obtain⟨d,_,hd⟩:=List.mem_flatMap.1 hu;simp[cD] at hd;rcases hd with rfl|rfl|rfl|rfl<;>rfl
theorem Dr.drew {w wr:World}{B c:Nat}(h:Dr w wr B c):Dr w wr.drew B c:=
 ⟨h.1.keep (Keep.refl wr).drew,grown_trans h.2 ⟨rfl,rfl,rfl,Nat.le_refl _,fun _ _ _=>rfl⟩⟩
theorem new_cells (w:World)(d:Dd):∀j u,(cD d)[j]? = some u→(w.alloc (.cells #[.int .i64 d.1,.int .i64 d.2.1,.int .i64 d.2.2.1,.int .i64 d.2.2.2] 50)).cell? ((⟨w.heap.size,0,none⟩:Addr).add j)=some u:=by
 intro j u hj;rw[plain_add,new_cell _ _ _ _ j rfl];rw[←List.getElem?_toArray] at hj;exact hj
theorem set0_small {dss:List (List Dd)}{es:List Dd}(h1:0<dss.length)(h3:dss.length≤3)(h4:∀i,i<dss.length→(dss.getD i []).length≤4)(he:es.length≤7):(dss.set 0 es).length≤6∧∀i,i<(dss.set 0 es).length→((dss.set 0 es).getD i []).length≤7:=by
 refine⟨by rw[List.length_set];omega,fun i hi=>?_⟩;rw[List.length_set] at hi;rw[getD_setW dss 0 i es [] h1];split
 · exact he
 · have:=h4 i hi;omega
theorem twice_small {dss:List (List Dd)}(h3:dss.length≤3)(h4:∀i,i<dss.length→(dss.getD i []).length≤4):(dss++dss).length≤6∧∀i,i<(dss++dss).length→((dss++dss).getD i []).length≤7:=by
 refine⟨by rw[List.length_append];omega,fun i hi=>?_⟩;rw[List.length_append] at hi;by_cases e:i<dss.length
 · rw[getD_left dss dss i [] e];have:=h4 i e;omega
 ·
  have:(dss++dss).getD i []=dss.getD (i-dss.length) []:=by
   rw[List.getD_eq_getElem?_getD,List.getElem?_append_right (by omega),List.getD_eq_getElem?_getD]
  rw[this];have:=h4 (i-dss.length) (by omega);omega
theorem l5DrawAny_any (w:World)(B c:Nat)(hc:Cur w B c):
    Calls Tryz.prog 160 #[.pointer (some ⟨c,0,none⟩)] w fun e w'=>∃v dss,e = .returned v∧RdX w' w.heap.size v dss∧(dss.length≤6∧∀i,i<dss.length→(dss.getD i []).length≤7)∧Dr w w' B c:=by
  have hcl:=hc.lt;have hB:=hc.1;obtain⟨i0,hi,hz0,hz1,hz2⟩:=info_parts Tryz.infoD;obtain⟨j0,hj,hy0,hy1,hy2⟩:=info_parts Tryz.infoDS;go_enter Tryz.func160,Tryz.ntmps160
  go_wp2_with fail
  refine (l5Draw_any _ B c hc).mono ?_;rintro e w1 ⟨v1,V1,dss1,rfl,hX1,n1,n3,l4,D1⟩;go_wp2_with fail
  refine (once_any _ B c _ D1.1 (by omega)).mono ?_;rintro e w2 ⟨b,rfl,c2,g2⟩;have hX2:=(hX1.kept g2 hcl).up g2.size;have D2:=D1.step c2 g2;clear hX1 D1 c2 g2;go_upto_if 7 with fail
  go_cut [3] from 4 (fun s3 wx=>∃V dss,AppX wx w.heap.size wx.heap.size s3 V dss∧1≤dss.length∧dss.length≤3∧Hid (∀i,i<dss.length→(dss.getD i []).length≤4)∧Dr w wx B c)
  case first=>
    cases b
    · go_wp2
      go_meet;case rel=>exact⟨_,_,hX2,n1,n3,Lib.hid l4,D2⟩
    · go_wp2_with fail
      refine (l5DrawKnown_any _ B c D2.1).mono ?_;rintro e w3 ⟨v3,V3,dss3,rfl,hX3,m1,m3,k4,D3⟩;go_wp2;go_meet;case rel=>exact⟨_,_,hX3.low D2.2.size,m1,m3,Lib.hid k4,D2.trans D3⟩
  case rest=>
    clear hX2 D2 n1 n3 l4;obtain⟨V,dss,hX,n1,n3,l4,D2⟩:=hcut;go_wp2_with fail
    refine (once_any _ B c _ D2.1 (by omega)).mono ?_;rintro e w4 ⟨b2,rfl,c4,g4⟩;have hX4:=(hX.kept g4 hcl).up g4.size;have D4:=D2.step c4 g4;clear hX D2 c4 g4;have HN:Hid (dss.length≤6∧∀i,i<dss.length→(dss.getD i []).length≤7):=Lib.hid ⟨by omega,fun i hi=>by have:=l4.out i hi;omega⟩;cases b2
    · have HR:=Lib.hid hX4.rdX
      go_wp2;go_ret;exact⟨_,dss,rfl,HR.out,HN.out,D4⟩
    · go_wp2_with fail
      refine (below_any _ B c _ D4.1 (by omega)).mono ?_;rintro e w5 ⟨x,rfl,x0,x1,c5,g5⟩;have hX5:=(hX4.kept g5 hcl).up g5.size;have D5:=D4.step c5 g5;clear hX4 D4 c5 g5 HN;have hx:x=0∨x=1∨x=2∨x=3:=by omega
      clear x0 x1;obtain⟨g,cx,rfl,hgb,hgN,hgw,hcx,hcell,hfree⟩:=hX5.at (by omega);have d0:=hcell 0 (by omega);have f0:=hfree 0;have hA0:=hX5.each 0 (by omega);have hl0:=l4.out 0 (by omega);have hout0:∀k,(V 0).ownBlock=some k→w.heap.size≤k∧k<w5.heap.size:=hA0.lt;have i1:(0:Int)<(dss.length:Int):=by omega
      have h01:0<dss.length:=by omega
      rcases hx with rfl|rfl|rfl|rfl
      · obtain⟨a5,c5,hV0⟩:=hA0.shape
        have HV:=Lib.hid hV0;rw[hV0] at d0 hA0 hout0;clear hV0;obtain⟨L,hL⟩:∃L,L=dss.getD 0 []:=⟨_,rfl⟩;rw[←hL] at d0 hA0 hl0 hout0 HV;clear hL hcell hfree;have hsz5:=D5.2.size;have D5':=D5.drew;have hX5':=hX5.keep (Keep.refl w5).drew;have hA5':=hA0.keep (Keep.refl w5).drew;have gne:(Value.slice a5 L.length c5).ownBlock≠some g:=fun e=>hX5.out 0 (by omega) g (by rw[HV.out];exact e) rfl
        have cg:g≠c:=by omega
        go_wp2
        go_region_law ((first
          | (refine step_append_at rfl (.tmp 19) (.tmp 22) 45 rfl w.heap.size 50 i0 (.agg #[.int .i64 0,.int .i64 0,.int .i64 0,.int .i64 0]) 4 32 Tryz.underlying45 hi hz0 hz1 hz2 rfl (by decide) (.slice a5 L.length c5) L.length (L.flatMap cD) (by simp[Act.eval]) (hA6.keep ((Keep.refl w6).alloc (.cells #[.int .i64 kq,.int .i64 pq,.int .i64 vq,.int .i64 gq] 50))) ⟨w6.heap.size,0,none⟩ 1 1 (cD (kq,pq,vq,gq)) (by simp[Act.eval]) rfl (new_cells w6 (kq,pq,vq,gq)) (flat_one [(kq,pq,vq,gq)]) (by unfold maxLen;omega) (by omega) (by rw[heap_size];omega) ?_
             intro v' w7 hown' hgrow hblk;have hA7:AppD w7 w.heap.size v' (L++[(kq,pq,vq,gq)]):=appD_hit hown';have hgV:(V 0).ownBlock=(Value.slice a5 L.length c5).ownBlock:=by rw[HV.out]
             have HR:=Lib.hid ((hX6.keep ((Keep.refl w6).alloc (.cells #[.int .i64 kq,.int .i64 pq,.int .i64 vq,.int .i64 gq] 50))).first (by omega) rfl hA7 (by rw[hgV];exact hgrow) (by rw[hgV];exact hblk));have HS:=Lib.hid (set0_small (es:=L++[(kq,pq,vq,gq)]) (by omega) n3 l4.out (by simp;omega));have D7:=((D6.alloc (.cells #[.int .i64 kq,.int .i64 pq,.int .i64 vq,.int .i64 gq] 50)).grow hgrow (fun k hk=>(hout0 k hk).1) hcl hB).set hgb hcl hB 0 v';have hb7:w7.heap[g]? = w6.heap[g]?:=(hgrow.block g (by rw[heap_size];omega) (fun e=>gne e.symm)).trans (by rw[heap_at,if_neg (by omega)]);have d7:=(cell_same hb7 0).trans d6;have f7:w7.frozen? ⟨g,0,none⟩=false:=by rw[frozen_same hb7 0];exact f6
             have hg7:g<w7.heap.size:=Nat.lt_of_lt_of_le (by rw[heap_size];omega) hgrow.size;obtain⟨a7,c7,hv7⟩:=hA7.shape;generalize (L++[(kq,pq,vq,gq)]).length=n7 at hv7;subst hv7
             clear hgrow hown' hblk hA7 hb7 d6 f6 hg6)
          | (go_simp
             refine (l4DrawAny_any _ B c D5'.1).mono ?_;rintro e w6 ⟨kq,pq,vq,gq,rfl,D6'⟩;have D6:=D5'.trans D6';have hX6:=hX5'.kept D6'.2 hcl;have hA6:=hA5'.kept D6'.2 (ne_of_ge hA5'.ge hcl);have hb6:w6.heap[g]? = w5.heap[g]?:=D6'.2.block g hgw (by simp;omega);have d6:=(cell_same hb6 0).trans d0;have f6:w6.frozen? ⟨g,0,none⟩=false:=by rw[frozen_same hb6 0];exact f0
             have hg6:g<w6.heap.size:=Nat.lt_of_lt_of_le hgw D6'.2.size;have hs6:=D6.2.size
             clear D6' hb6)))
        all_goals
          go_wp2;go_ret;exact⟨_,_,rfl,HR.out,HS.out,D7⟩
      · have hN:Hid ((dss++dss).length≤6∧∀i,i<(dss++dss).length→((dss++dss).getD i []).length≤7):=Lib.hid (twice_small n3 l4.out)
        have hsz5:=D5.2.size;go_wp2_with (at_builtin;refine wpList_append_own_at _ rfl _ _ 24 rfl w.heap.size 45 j0 (.slice none 0 0) 1 24 Tryz.underlying24 hj hy0 hy1 hy2 rfl (by decide) _ _ _ rfl hX5.row ⟨g,0,none⟩ dss.length cx ((List.range dss.length).map V) rfl ?b1 ?b2 ?b3 ?b4 ?b5 ?b6 ?_)
        case b1=>simp
        case b2=>
          intro j u hj;have hj':j<dss.length:=by have:=(List.getElem?_eq_some_iff.1 hj).1;simpa using this
          rw[range_getV V _ j hj'] at hj;rw[plain_add,Nat.zero_add,hcell j hj'];exact hj
        case b3=>
          intro u hu;obtain⟨i,hi,rfl⟩:=List.mem_map.1 hu;rw[List.mem_range] at hi;obtain⟨a,cc,e⟩:=(hX5.each i hi).shape;rw[e];rfl
        case b4=>unfold maxLen;omega
        case b5=>omega
        case b6=>exact hsz5
        intro v' w6 hown' hgrow _ _;have HR:=Lib.hid (hX5.twice (by omega) hown' hgrow);have D6:=D5.grow hgrow (fun k hk=>(World.ownsRow.lt hX5.row k hk).1) hcl hB;clear hgrow hown' hX5;go_wp2;go_ret;exact⟨_,_,rfl,HR.out,hN.out,D6⟩
      · go_wp2
        go_ret;exact⟨_,[],rfl,⟨_,_,rfl,.inl rfl⟩,⟨by simp,by simp⟩,D5.alloc _⟩
      · obtain⟨a5,c5,hV0⟩:=hA0.shape
        have HV:=Lib.hid hV0;rw[hV0] at d0 hA0 hout0;clear hV0;obtain⟨L,hL⟩:∃L,L=dss.getD 0 []:=⟨_,rfl⟩;rw[←hL] at d0 hA0 hl0 hout0 HV;clear hL hcell hfree;have hsz5:=D5.2.size;have hA1:=hA0.keep ((Keep.refl w5).alloc (.cells #[.int .i64 1,.int .i64 0,.int .i64 0,.int .i64 1,.int .i64 4,.int .i64 0,.int .i64 0,.int .i64 0,.int .i64 1,.int .i64 0,.int .i64 0,.int .i64 1] 50));have hX6:=hX5.keep ((Keep.refl w5).alloc (.cells #[.int .i64 1,.int .i64 0,.int .i64 0,.int .i64 1,.int .i64 4,.int .i64 0,.int .i64 0,.int .i64 0,.int .i64 1,.int .i64 0,.int .i64 0,.int .i64 1] 50));go_wp2_with (at_builtin;refine wpList_append_own_at _ rfl _ _ 45 rfl w.heap.size 50 i0 (.agg #[.int .i64 0,.int .i64 0,.int .i64 0,.int .i64 0]) 4 32 Tryz.underlying45 hi hz0 hz1 hz2 rfl (by decide) _ _ _ rfl hA1 ⟨_,0,none⟩ 3 3 (([(1,0,0,1),(4,0,0,0),(1,0,0,1)]:List Dd).flatMap cD) rfl rfl ?d1 ?d2 ?d3 ?d4 ?d5 ?_)
        case d1=>
          intro j u hj;rw[plain_add,new_cell _ _ _ _ j rfl];rw[←List.getElem?_toArray] at hj;exact hj
        case d2=>exact flat_one _
        case d3=>unfold maxLen;first|omega|(simp;omega)
        case d4=>first|omega|(simp;omega)
        case d5=>first|omega|(simp;omega)
        intro v' w6 hown' hgrow _ hblk
        have hA6:AppD w6 w.heap.size v' (L++[(1,0,0,1),(4,0,0,0),(1,0,0,1)]):=by
          unfold AppD;rw[List.flatMap_append];simpa using hown'
        have hgV:(V 0).ownBlock=(Value.slice a5 L.length c5).ownBlock:=by rw[HV.out]
        have HR:=Lib.hid (hX6.first (by omega) rfl hA6 (by rw[hgV];exact hgrow) (by rw[hgV,heap_size];exact hblk));have HS:=Lib.hid (set0_small (es:=L++[(1,0,0,1),(4,0,0,0),(1,0,0,1)]) (by omega) n3 l4.out (by simp;omega));have D6:=(D5.alloc (.cells #[.int .i64 1,.int .i64 0,.int .i64 0,.int .i64 1,.int .i64 4,.int .i64 0,.int .i64 0,.int .i64 0,.int .i64 1,.int .i64 0,.int .i64 0,.int .i64 1] 50)).grow hgrow (fun k hk=>(hout0 k hk).1) hcl hB;have D7:=D6.set hgb hcl hB 0 v';have gne:(Value.slice a5 L.length c5).ownBlock≠some g:=fun e=>hX6.out 0 (by omega) g (by rw[hgV];exact e) rfl
        have hb6:w6.heap[g]? = w5.heap[g]?:=(hgrow.block g (by rw[heap_size];omega) (fun e=>gne e.symm)).trans (by rw[heap_at,if_neg (by omega)]);have d6:=(cell_same hb6 0).trans d0;have f6:w6.frozen? ⟨g,0,none⟩=false:=by rw[←f0];exact frozen_same hb6 0
        have hg6:g<w6.heap.size:=Nat.lt_of_lt_of_le (by rw[heap_size];omega) hgrow.size;obtain⟨a7,c7,hv7⟩:=hA6.shape;generalize (L++[(1,0,0,1),(4,0,0,0),(1,0,0,1)]).length=n7 at hv7;subst hv7;clear hgrow hown' hblk hX5 hX6 hA1 hA0 hA6 D6;go_wp2;go_ret;exact⟨_,_,rfl,HR.out,HS.out,D7⟩
theorem Dr.keepQ {w wr wr':World}{B c:Nat}(h:Dr w wr B c)(k:Keep wr wr'):Dr w wr' B c:=⟨h.1.keep k,grown_trans h.2 ⟨Below.os k,Below.tape k,Below.output k,Below.size k,fun i hi _=>Below.block k i hi⟩⟩
theorem Dr.newQ {w W wr:World}{B c:Nat}(h:Dr W wr B c)(k:Keep w W)(hc:w.heap.size≤c):Keep w wr:=k.grown h.2 (fun j hj=>by simp at hj;omega)
theorem Own.keptC {w w':World}{base c:Nat}{v:Value}{zs:List Int}(h:Own w base v zs)(hg:w.grownBy w' (some c))(hc:c<base):Own w' base v zs:=
 h.kept hg (ne_of_ge h.ge hc)
theorem grown_far {a b d:World}{c:Nat}{row:Option Nat}(h:a.grownBy b (some c))(k:b.grownBy d row)(hr:∀j,row=some j→a.heap.size≤j):a.grownBy d (some c):=
 ⟨k.os.trans h.os,k.tape.trans h.tape,k.output.trans h.output,Nat.le_trans h.size k.size,fun i hi hne=>(k.block i (Nat.lt_of_lt_of_le hi h.size) (fun e=>by have:=hr i e.symm;omega)).trans (h.block i hi hne)⟩
theorem grown_any {w w':World}(h:w.grownBy w' none)(row:Option Nat):w.grownBy w' row:=⟨h.os,h.tape,h.output,h.size,fun k hk _=>h.block k hk (by simp)⟩
theorem l8Count_any (w:World)(v:Value)(c:List (List Int))(h:RdL w v c)(hl:c.length≤12)(hb:∀i,i<c.length→(c.getD i []).length≤12):
  Calls Tryz.prog 177 #[v] w fun e w'=>e = .returned (.int .i64 (cntK c c.length))∧w'=w:=by
 obtain⟨a,cc,rfl,h⟩:=h;go_enter Tryz.func177,Tryz.ntmps177
 go_wp2;go_loopw [3,4] (fun n i wr=>∃k:Nat,k≤c.length∧n = .int .i64 (cntK c k)∧i = .int .i64 k∧wr=w) (fun _ i _=>c.length-(intOf i).toNat)
 case atStart=>exact⟨0,Nat.zero_le _,rfl,rfl,rfl⟩
 case round=>
  obtain⟨k,hk,rfl,rfl,rfl⟩:=hrel;by_cases hlt:k<c.length
  ·
   rcases h with h|⟨b,o,rfl,hbl,hc⟩
   · exfalso;rw[h] at hlt;simp at hlt
   obtain⟨vi,e1,r1⟩:=hc k hlt;clear hc;have HN:Hid (cntK c (k+1)=cntK c k*(c.getD k []).length):=Lib.hid rfl;have t1:=cnt_top hl hb k (by omega);have t2:=cnt_top hl hb (k+1) (by omega);rw[HN.out] at t2;have l12:=hb k hlt;clear hb;generalize cntK c k=x at *;generalize c.getD k []=zs at *;obtain⟨az,cz,rfl,-⟩:=r1;generalize zs.length=n at *;have i1:(0:Int)≤(k:Int):=Int.natCast_nonneg _;have i2:(k:Int)<(c.length:Int):=by omega
   have n1:(0:Int)≤(n:Int):=Int.natCast_nonneg _;have n2:(n:Int)≤12:=by omega
   obtain⟨x1,x2⟩:=t1;obtain⟨y1,y2⟩:=t2;go_wp2;go_roundw;case rel=>exact⟨k+1,by omega,by rw[HN.out],by go_num,trivial⟩
   case measure=>simp[intOf];omega
  ·
   obtain rfl:k=c.length:=by omega
   go_wp2;go_ret;exact⟨rfl,rfl⟩
theorem made_at (n:Nat):(madeCells (Value.int .i64 0).cells (n*1)).toList=((List.replicate n (0:Int)).map (Value.int .i64)):=by
 rw[Nat.mul_one,List.map_replicate];exact toList_madeCells_one _ _
theorem l8At_any (w:World)(v:Value)(c:List (List Int))(n:Int)(h:RdL w v c)(hl:c.length≤12)(hf:Full c)(h0:0≤n)(h1:n≤8916100448256)(hb:∀i,i<c.length→(c.getD i []).length≤12):
  Calls Tryz.prog 179 #[v,.int .i64 n] w fun e w'=>∃v',e = .returned v'∧Own w' w.heap.size v' (atL c n)∧Keep w w':=by
 obtain⟨a,cc,rfl,h⟩:=h;obtain⟨i0,hi,hz0,hz1,hz2⟩:=info_parts Tryz.infoI;go_enter Tryz.func179,Tryz.ntmps179
 go_wp2_with (at_make;refine wpList_make_full _ rfl _ _ 25 rfl w.heap.size 2 i0 (.int .i64 0) 1 Tryz.underlying25 hi hz0 hz1 .i64 .i64 _ _ c.length rfl rfl rfl rfl (by rw[hz2];omega) (by unfold maxLen;omega) (Nat.le_refl _) ?_;intro w1 hown hgrow)
 rw[made_at] at hown;have k1:Keep w w1:=(Keep.refl w).grown hgrow (by simp)
 have o1:Own w1 w.heap.size (.slice (some ⟨w.heap.size,0,none⟩) c.length c.length) (atF c n 0):=by
  unfold Own atF atK
  simpa using hown
 clear hgrow hown hi hz0 hz1 hz2;have HA:=Lib.hid (atF_all c n);go_loopw [1,6] (fun x i wr=>∃k:Nat,k≤c.length∧x = .int .i64 (atK c n k).1∧i = .int .i64 ((c.length:Int)-1-k)∧0≤(atK c n k).1∧(atK c n k).1≤8916100448256∧Own wr w.heap.size (.slice (some ⟨w.heap.size,0,none⟩) c.length c.length) (atF c n k)∧Keep w wr) (fun _ i _=>(intOf i+1).toNat)
 case atStart=>exact⟨0,Nat.zero_le _,rfl,by go_num,h0,h1,o1,k1⟩
 case round=>
  obtain⟨k,hk,rfl,rfl,x0,x1,ho,hK⟩:=hrel;clear o1 k1;by_cases hlt:k<c.length
  ·
   rcases h with h|⟨b,o,rfl,hbl,hc⟩
   · exfalso;rw[h] at hlt;simp at hlt
   obtain⟨m,hm⟩:∃m:Nat,m=c.length-1-k:=⟨_,rfl⟩;have em:(c.length:Int)-1-(k:Int)=(m:Int):=by omega
   have hml:m<c.length:=by omega
   obtain⟨vi,e1,r1⟩:=hc m hml;have d1:=(hK.cell hbl).trans e1;have r2:=r1.keep hK;have HS:=Lib.hid (atF_step c n k hlt);have HN:Hid ((atK c n (k+1)).1=(atK c n k).1 / (c.getD m []).length):=Lib.hid (by rw[hm];rfl);rw[←hm] at HS;have f1:=hf m hml;have f2:=hb m hml;have hal:=atF_len c n k (by omega);clear hc e1 r1 hb hf;rw[em];have HM:=Lib.hid hm;clear em hm;generalize c.getD m []=zs at *;generalize (atK c n k).1=x at *;generalize atF c n k=S at *;obtain⟨az,cz,rfl,r2⟩:=r2;rcases r2 with h|⟨b2,o2,rfl,hb2,hc2⟩
   · exfalso;rw[h] at f1;simp at f1
   have zl:(0:Int)<(zs.length:Int):=by omega
   have q0:0≤x % (zs.length:Int):=Int.emod_nonneg _ (by omega);have q1:x % (zs.length:Int)<(zs.length:Int):=Int.emod_lt_of_pos _ zl;obtain⟨q,hq⟩:=Int.eq_ofNat_of_zero_le q0;have d2:=hc2 q (by omega);have e1:x.tmod (zs.length:Int)=(q:Int):=by rw[Int.tmod_eq_emod_of_nonneg x0];exact hq
   have e2:x.tdiv (zs.length:Int)=x / (zs.length:Int):=Int.tdiv_eq_ediv_of_nonneg x0;have y0:0≤x / (zs.length:Int):=Int.ediv_nonneg x0 (by omega);have y1:x / (zs.length:Int)≤x:=Int.ediv_le_self _ x0;have hR:=ho.rowAt;have fr:=hR.free m;have hgl:=hR.lt;have c1:=hR.cell (j:=m) (by omega);go_wp2;go_region
   all_goals
    go_wp2;have em:=HM.out;refine⟨⟨k+1,by omega,by rw[HN.out],by congr 1;omega,by rw[HN.out];exact y0,by rw[HN.out];omega,?_,?_⟩,by simp[intOf]⟩
    ·
     rw[HS.out,hq,Int.toNat_natCast,List.getD_eq_getElem?_getD];exact (ho.setAt m _).keep ((Keep.refl _).drew)
    · exact (hK.grown (grown_set wr w.heap.size m _) (by simp)).drew
  ·
   obtain rfl:k=c.length:=by omega
   rw[HA.out] at ho;go_wp2;go_ret;exact⟨_,rfl,ho,hK⟩
theorem cntB_in (dss:List (List Dd)):-1≤cntB dss∧cntB dss≤8916100448256:=by
 unfold cntB;split
 ·
  rename_i hb;have h12:=(events_law hb).1;rw[eventsB,if_pos hb];obtain⟨c1,c2⟩:=chc_len h12;have:=cnt_top c1 c2 _ (Nat.le_refl _);omega
 · omega
theorem specSourcesCount_any (w:World)(v:Value)(dss:List (List Dd))(h:RdW w v dss)(hx:dss.length≤1048576)(hm:∀i,i<dss.length→(dss.getD i []).length≤1048576):
  Calls Tryz.prog 129 #[v] w fun e w'=>e = .returned (.int .i64 (cntB dss))∧Keep w w':=by
 cases hb:workB dss
 ·
  have HE:Hid (cntB dss=-1):=Lib.hid (by rw[cntB,hb];rfl);go_enter Tryz.func129,Tryz.ntmps129
  go_wp2_with fail
  refine (specWorkOk_any _ _ _ h hx hm).mono ?_;rintro e w1 ⟨rfl,k1⟩;go_wp2;go_ret;exact⟨by rw[HE.out];rfl,k1⟩
 ·
  have HE:Hid (cntB dss=cntK (chcL (evsW dss dss.length)) (chcL (evsW dss dss.length)).length):=Lib.hid (by rw[cntB,if_pos hb,eventsB,if_pos hb]);obtain⟨u1,u2⟩:=workB_useQ hb;have h12:=(events_law hb).1;obtain⟨cl1,cl2⟩:=chc_len h12;go_enter Tryz.func129,Tryz.ntmps129
  go_wp2_with fail
  refine (specWorkOk_any _ _ _ h hx hm).mono ?_;rintro e w1 ⟨rfl,k1⟩;go_wp2_with fail
  refine (l6Events_any _ _ _ (h.keep k1) u1 u2).mono ?_;rintro e w2 ⟨v2,rfl,a2,k2⟩;go_wp2_with fail
  refine (l8Choices_any _ _ _ a2.rd h12).mono ?_;rintro e w3 ⟨v3,rfl,rc,k3⟩;go_wp2_with fail
  refine (l8Count_any _ _ _ rc cl1 cl2).mono ?_;rintro e w4 ⟨rfl,rfl⟩;go_wp2;go_ret;exact⟨by rw[HE.out];rfl,(k1.trans k2).trans k3⟩
theorem own_emptyQ (w:World):Own (w.alloc (.cells #[] 2)) w.heap.size (.slice (some ⟨w.heap.size,0,none⟩) 0 0) []:=World.ownsRow_lit w #[] 0 (Nat.le_refl _) (by decide) rfl
theorem specSourceAt_own (w:World)(v:Value)(dss:List (List Dd))(n:Int)(h:RdW w v dss)(hx:dss.length≤1048576)(hm:∀i,i<dss.length→(dss.getD i []).length≤1048576):
  Calls Tryz.prog 131 #[v,.int .i64 n] w fun e w'=>∃v',e = .returned v'∧Own w' w.heap.size v' (atB dss n)∧Keep w w':=by
 by_cases h0:n<0
 ·
  have HE:Hid (atB dss n=[]):=Lib.hid (by unfold atB;rw[if_neg (by omega)]);go_enter Tryz.func131,Tryz.ntmps131
  go_wp2;go_ret;exact⟨_,rfl,by rw[HE.out];exact own_emptyQ w,(Keep.refl w).alloc _⟩
 have h0':0≤n:=by omega
 have hcb:=cntB_in dss;by_cases h1:cntB dss≤n
 ·
  have HE:Hid (atB dss n=[]):=Lib.hid (by unfold atB;rw[if_neg (by omega)]);have C:=specSourcesCount_any w v dss h hx hm;generalize cntB dss=m at C h1 hcb;go_enter Tryz.func131,Tryz.ntmps131
  go_wp2_with fail
  refine C.mono ?_;rintro e w1 ⟨rfl,k1⟩;have s1:=k1.size;go_wp2;go_ret;exact⟨_,rfl,by rw[HE.out];exact (own_emptyQ w1).base_le s1,k1.alloc _⟩
 ·
  have h1':n<cntB dss:=by omega
  have hb:workB dss=true:=by
   cases hb:workB dss with
   |true=>rfl
   |false=>rw[cntB,hb] at h1';simp at h1';omega
  have HE:Hid (atB dss n=atL (chcL (evsW dss dss.length)) n):=Lib.hid (by unfold atB;rw[if_pos ⟨h0',h1'⟩,eventsB,if_pos hb]);have C:=specSourcesCount_any w v dss h hx hm;obtain⟨u1,u2⟩:=workB_useQ hb;have h12:=(events_law hb).1;have hfull:=(chc_full hb).1;rw[eventsB,if_pos hb] at hfull;obtain⟨cl1,cl2⟩:=chc_len h12;generalize cntB dss=m at C h1 hcb h1';go_enter Tryz.func131,Tryz.ntmps131
  go_wp2_with fail
  refine C.mono ?_;rintro e w1 ⟨rfl,k1⟩;have s1:=k1.size;go_wp2_with fail
  refine (l6Events_any _ _ _ (h.keep k1) u1 u2).mono ?_;rintro e w2 ⟨v2,rfl,a2,k2⟩;have s2:=k2.size;go_wp2_with fail
  refine (l8Choices_any _ _ _ a2.rd h12).mono ?_;rintro e w3 ⟨v3,rfl,rc,k3⟩;have s3:=k3.size;go_wp2_with fail
  refine (l8At_any _ _ _ _ rc cl1 hfull h0' (by omega) cl2).mono ?_;rintro e w4 ⟨v4,rfl,o4,k4⟩;go_wp2;go_ret;exact⟨_,rfl,by rw[HE.out];exact o4.base_le (by omega),((k1.trans k2).trans k3).trans k4⟩
theorem l1Copy_rd (w:World)(v:Value)(zs:List Int)(h:Rd w v zs)(hn:zs.length≤1048576):
  Calls Tryz.prog 140 #[v] w fun e w'=>∃v',e = .returned v'∧Own w' w.heap.size v' zs∧Keep w w':=by
 have ho:Own (w.alloc (.cells #[] 2)) w.heap.size (.slice (some ⟨w.heap.size,0,none⟩) 0 0) []:=World.ownsRow_lit w #[] 0 (Nat.le_refl _) (by decide) rfl;have hK:Keep w (w.alloc (.cells #[] 2)):=(Keep.refl w).alloc _;obtain⟨i0,hi,hz0,hz1,hz2⟩:=info_parts Tryz.infoI;obtain⟨a,cap,rfl,h⟩:=h;rcases h with rfl|⟨g,off,rfl,hg,hc⟩
 ·
  cases a with
  |none=>
   go_enter Tryz.func140,Tryz.ntmps140
   go_wp2;go_ret;exact⟨_,rfl,ho,hK⟩
  |some x=>
   go_enter Tryz.func140,Tryz.ntmps140
   go_wp2_with (at_builtin;refine wpList_append_own _ rfl _ _ 25 rfl w.heap.size 2 i0 (.int .i64 0) 1 8 Tryz.underlying25 hi hz0 hz1 hz2 rfl (by decide) _ _ _ rfl ho x 0 cap [] rfl rfl ?c1 ?c2 ?c3 ?c4 ?c5 ?_)
   case c1=>intro j u hj;simp at hj
   case c2=>intro u hu;simp at hu
   case c3=>simp
   case c4=>simp
   case c5=>simp
   intro v' w1 hown' hgrow _;have k1:Keep w w1:=hK.grown hgrow ho.ge;have o1:Own w1 w.heap.size v' []:=by unfold Own;simpa using hown'
   clear hgrow hown';go_wp2;go_ret;exact⟨_,rfl,o1,k1⟩
 ·
  have C:=rd_cells (w:=w.alloc (.cells #[] 2)) (b:=g) (off:=off) (zs:=zs) (fun i hi=>(hK.cell hg).trans (hc i hi));go_enter Tryz.func140,Tryz.ntmps140
  go_wp2_with (at_builtin;refine wpList_append_own _ rfl _ _ 25 rfl w.heap.size 2 i0 (.int .i64 0) 1 8 Tryz.underlying25 hi hz0 hz1 hz2 rfl (by decide) _ _ _ rfl ho ⟨g,off,none⟩ zs.length cap (zs.map (Value.int .i64)) rfl (by simp) ?c1 ?c2 ?c3 ?c4 ?c5 ?_)
  case c1=>exact C
  case c2=>exact ints_one zs
  case c3=>simp;unfold maxLen;omega
  case c4=>simp;omega
  case c5=>simp
  intro v' w1 hown' hgrow _;have k1:Keep w w1:=hK.grown hgrow ho.ge;have o1:Own w1 w.heap.size v' zs:=by unfold Own;simpa using hown'
  clear hgrow hown';go_wp2;go_ret;exact⟨_,rfl,o1,k1⟩
theorem l9Factorial_any (w:World)(n:Nat)(hn:n≤12):
  Calls Tryz.prog 204 #[.int .i64 n] w fun e w'=>e = .returned (.int .i64 (fac n))∧w'=w:=by
 go_enter Tryz.func204,Tryz.ntmps204
 go_wp2;go_loopw [3,4] (fun x i wr=>∃k:Nat,1≤k∧(k≤n∨k=1)∧x = .int .i64 (fac k)∧i = .int .i64 ((k:Int)+1)∧wr=w) (fun _ i _=>(n+2-(intOf i).toNat))
 case atStart=>exact⟨1,Nat.le_refl _,.inr rfl,rfl,rfl,rfl⟩
 case round=>
  obtain⟨k,h1,hk,rfl,rfl,rfl⟩:=hrel;by_cases hlt:k+1≤n
  ·
   have f0:=fac_pos k;have f1:=fac_top (n:=k) (by omega);have g1:=fac_top (n:=k+1) (by omega);have g0:=fac_pos (k+1);have HN:Hid (fac (k+1)=fac k*((k:Int)+1)):=Lib.hid rfl;rw[HN.out] at g0 g1;generalize fac k=x at f0 f1 HN g0 g1;have i2:(k:Int)+1≤(n:Int):=by omega
   have i3:(n:Int)≤12:=by omega
   have i4:(0:Int)≤(k:Int):=Int.natCast_nonneg _;go_wp2;go_roundw;case rel=>exact⟨k+1,by omega,.inl hlt,by rw[HN.out],by go_num,trivial⟩
   case measure=>simp[intOf];omega
  ·
   have HE:Hid (fac k=fac n):=Lib.hid (by
    by_cases e:k=n
    · rw[e]
    ·
     have e1:k=1:=by omega
     have e0:n=0:=by omega
     rw[e1,e0];rfl)
   have i2:(n:Int)<(k:Int)+1:=by omega
   go_wp2;go_ret;exact⟨by rw[←HE.out];rfl,rfl⟩
def lenZ:Value→Nat
 | .slice _ n _=>n
 |_=>0
theorem Own.at {w:World}{base:Nat}{v:Value}{zs:List Int}(h:Own w base v zs)(h0:0<zs.length):∃g cap,v = .slice (some ⟨g,0,none⟩) zs.length cap∧zs.length≤cap∧base≤g∧g<w.heap.size:=by
 have hlt:=World.ownsRow.lt h;rcases h.2 with ⟨_,hz⟩|⟨g,cap,cur,rfl,hb,hg,hc,_⟩
 · omega
 · exact⟨g,cap,rfl,hc,hb,(hlt g rfl).2⟩
theorem Own.shp {w:World}{base:Nat}{v:Value}{zs:List Int}(h:Own w base v zs):∃a cap,v = .slice a zs.length cap:=by
 obtain⟨a,c,e,_⟩:=h.rd;exact⟨a,c,e⟩
theorem apart_le {u v:Value}{m:Nat}(h1:∀k,u.ownBlock=some k→k<m)(h2:∀k,v.ownBlock=some k→m≤k):u.ownBlock=none∨u.ownBlock≠v.ownBlock:=by
 cases hu:u.ownBlock with
 |none=>exact .inl rfl
 |some k=>exact .inr (fun e=>by have:=h1 k hu;have:=h2 k e.symm;omega)
theorem apart_ge {u v:Value}{m:Nat}(h1:∀k,u.ownBlock=some k→k<m)(h2:∀k,v.ownBlock=some k→m≤k):v.ownBlock=none∨v.ownBlock≠u.ownBlock:=by
 cases hv:v.ownBlock with
 |none=>exact .inl rfl
 |some k=>exact .inr (fun e=>by have:=h1 k e.symm;have:=h2 k hv;omega)
theorem erase_split (l:List Int)(q:Nat):l.eraseIdx q=l.take q++l.drop (q+1):=List.eraseIdx_eq_take_drop_succ l q
theorem l9Order_any (w:World)(v:Value)(l:List Int)(n:Int)(h:Rd w v l)(hl:l.length≤12)(h0:0≤n)(h1:n<fac l.length):
    Calls Tryz.prog 205 #[v,.int .i64 n] w fun e w'=>∃g c,e = .returned (.slice (some ⟨g,0,none⟩) l.length c)∧Own w' w.heap.size (.slice (some ⟨g,0,none⟩) l.length c) (ordL l.length l n)∧Keep w w':=by
  obtain⟨i0,hi,hz0,hz1,hz2⟩:=info_parts Tryz.infoI;go_enter Tryz.func205,Tryz.ntmps205
  go_wp2_with fail
  refine (l1Copy_rd _ _ _ h (by omega)).mono ?_;rintro e w1 ⟨vl,rfl,ol,k1⟩;have s1:=k1.size;have O0:Own (w1.alloc (.cells #[] 2)) w.heap.size (.slice (some ⟨w1.heap.size,0,none⟩) 0 0) []:=World.ownsRow_lit w1 #[] 0 s1 (by decide) rfl;have ol1:=ol.keep ((Keep.refl w1).alloc (.cells #[] 2))
  have ne1:vl.ownBlock=none∨vl.ownBlock≠some w1.heap.size:=by
    cases hv:vl.ownBlock with
    |none=>exact .inl rfl
    |some k=>exact .inr (fun e=>by have:=(World.ownsRow.lt ol k hv).2;have:=Option.some.inj e;omega)
  clear h;go_wp2;go_loopw [1,5,6] (fun x xl xo wr=>∃(l' o':List Int) (x':Int),x = .int .i64 x'∧0≤x'∧x'<fac l'.length∧l'.length+o'.length=l.length∧Hid (o'++ordL l'.length l' x'=ordL l.length l n)∧Own wr w.heap.size xl l'∧Own wr w.heap.size xo o'∧(xl.ownBlock=none∨xl.ownBlock≠xo.ownBlock)∧(∃d,xo.ownBlock=some d)∧Keep w wr) (fun _ xl _ _=>lenZ xl)
  case atStart=>exact⟨l,[],n,rfl,h0,h1,by simp,Lib.hid rfl,ol1,O0,ne1,⟨_,rfl⟩,k1.alloc _⟩
  case round=>
    clear ol ol1 O0 ne1;obtain⟨l',o',x',rfl,x0,x1,hlen,HO,hL,hO,hne,⟨bo,hbo⟩,hK⟩:=hrel
    cases hm:l'.length with
    |zero=>
      have e0:l'=[]:=List.eq_nil_of_length_eq_zero hm;subst e0;have HE:Hid (o'=ordL l.length l n):=Lib.hid (by have:=HO.out;simpa [ordL] using this);obtain⟨al,cl,rfl⟩:=hL.shp;have hol:o'.length=l.length:=by simpa using hlen
      obtain⟨go,co,hvo⟩:∃g c,u6 = .slice (some ⟨g,0,none⟩) l.length c:=by
        rcases hO.2 with ⟨e,_⟩|⟨g,cap,cur,e,_⟩
        · rw[e] at hbo;cases hbo
        · exact⟨g,cap,by rw[e,hol]⟩
      subst hvo;clear hol;go_wp2;go_ret;exact⟨go,co,rfl,by rw[←HE.out];exact hO,hK⟩
    |succ m=>
      have HBO:=Lib.hid hbo;clear hbo;obtain⟨g,cap,rfl,hcap,hgb,hgl⟩:=hL.at (by omega);rw[hm] at x1 hlen HO hcap;obtain⟨q0,q1,y0,y1⟩:=ord_next x0 x1;obtain⟨q,hq⟩:=Int.eq_ofNat_of_zero_le q0;have hql:q<m+1:=by omega
      have HO2:Hid ((o'++[l'.getD q 0])++ordL m (l'.eraseIdx q) (x' % fac m)=ordL l.length l n):=Lib.hid (by
        have:=HO.out;rw[ordL,hq,Int.toNat_natCast] at this;rw[←this,List.append_assoc]
        rfl)
      have hR:=hL.rowAt;have c1:=hR.cell (j:=q) (by omega);have hel:=erase_len hm hql;have fp:=fac_pos m;have ft:=fac_top (n:=m) (by omega);have e1:x'.tdiv (fac m)=(q:Int):=by rw[Int.tdiv_eq_ediv_of_nonneg x0];exact hq
      have e2:x'.tmod (fac m)=x' % fac m:=Int.tmod_eq_emod_of_nonneg x0;have HEQ:Hid (l'.eraseIdx q=l'.take q++l'.drop (q+1)):=Lib.hid (erase_split l' q);have HQ:=Lib.hid hq;have HM:=Lib.hid hm;have HY:Hid (0≤x' % fac m∧x' % fac m<fac m):=Lib.hid ⟨y0,y1⟩;have hcq:q<cap:=by omega
      generalize l'.getD q 0=z at c1 HO2;have C:=fun (W:World)=>l9Factorial_any W m (by omega)
      have HF:Hid (∀y,0≤y∧y<fac m→0≤y∧y<fac (l'.eraseIdx q).length):=Lib.hid (fun y hy=>by rw[hel];exact hy);obtain⟨F,hF⟩:∃F,F=fac m:=⟨_,rfl⟩;have HFF:Hid (fac m=F):=Lib.hid hF.symm;rw[←hF] at C fp ft e1 e2 HY HO2;clear hF;obtain⟨r,hr⟩:∃r,r=x' % F:=⟨_,rfl⟩;rw[←hr] at e2 HY HO2;clear hq q0 q1 y0 y1 hr hR HO x1 HF;have i1:(0:Int)≤(q:Int):=Int.natCast_nonneg _;have i2:(q:Int)<(m:Int)+1:=by omega
      have i3:(m:Int)≤11:=by omega
      rw[hm];clear hm;go_wp2_with fail
      refine (C _).mono ?_;rintro e w2 ⟨rfl,rfl⟩;have hOs:=hK.size;go_wp2_with (at_builtin;refine wpList_append_own_at _ rfl _ _ 25 rfl w.heap.size 2 i0 (.int .i64 0) 1 8 Tryz.underlying25 hi hz0 hz1 hz2 rfl (by decide) _ _ _ rfl (World.ownsRow.alloc hO _) ⟨_,0,none⟩ 1 1 [.int .i64 z] rfl rfl ?c1 ?c2 ?c3 ?c4 ?c5 ?_)
      case c1=>
        intro j u hj
        match j,hj with
        | 0,hj=>simp at hj;subst hj;simp[Addr.add]
      case c2=>intro u hu;simp at hu;subst hu;rfl
      case c3=>unfold maxLen;omega
      case c4=>omega
      case c5=>rw[heap_size];omega
      intro vo w3 hown' hgrow _ hblk;have O3:Own w3 w.heap.size vo (o'++[z]):=own_hit hown';have L3:=(hL.keep ((Keep.refl w2).alloc (.cells #[.int .i64 z] 2))).kept hgrow hne;have K3:Keep w w3:=(hK.alloc _).grown hgrow hO.ge;have hg3:g<w3.heap.size:=Nat.lt_of_lt_of_le (by rw[heap_size];omega) hgrow.size;have ov:∀k,vo.ownBlock=some k→k<w3.heap.size:=fun k hk=>(World.ownsRow.lt O3 k hk).2
      have vob:∃d,vo.ownBlock=some d:=by
        rcases hblk with e|e
        · exact⟨bo,by rw[e];exact HBO.out⟩
        · exact⟨_,e⟩
      clear hown' hgrow hblk hL hO hne hK hgl c1 C;have R3:=L3.rowAt
      have RC:Rd w3.drew (.slice (some ⟨g,0,none⟩) q cap) (l'.take q):=by
        have hlt:(l'.take q).length=q:=by rw[List.length_take,HM.out];omega
        refine⟨_,cap,by rw[hlt],.inr ⟨g,0,rfl,hg3,fun j hj=>?_⟩⟩;rw[hlt] at hj;have:=R3.cell (j:=j) (by rw[HM.out];omega);rw[Nat.zero_add,List.getD_eq_getElem?_getD,List.getElem?_take,if_pos hj,←List.getD_eq_getElem?_getD];exact this
      have CT:∀W:World,Keep w3.drew W→∀j u,((l'.drop (q+1)).map (Value.int .i64))[j]? = some u→W.cell? ((⟨g,q+1,none⟩:Addr).add j)=some u:=fun W kW=>rd_cells (fun j hj=>by
        rw[List.length_drop,HM.out] at hj;have:=R3.cell (j:=q+1+j) (by rw[HM.out];omega);rw[kW.cell (b:=g) hg3,List.getD_eq_getElem?_getD,List.getElem?_drop,←List.getD_eq_getElem?_getD]
        exact this)
      have DL:(l'.drop (q+1)).length=m-q:=by rw[List.length_drop,HM.out];omega
      have lt12:(l'.take q).length≤1048576:=by rw[List.length_take];omega
      have ltq:(l'.take q).length=q:=by rw[List.length_take,HM.out];omega
      clear R3 L3;have j1:(q:Int)≤(cap:Int):=by omega
      have j2:(q:Int)≤(m:Int):=by omega
      have j4:(q:Int)≤(q:Int)+1:=by omega
      have j5:IntKind.i64.wrap ((q:Int)+1)=(q:Int)+1:=by rw[IntKind.wrap_i64];omega
      have j6:(m:Int)+1≤(m:Int)+1:=Int.le_refl _;have j7:0≤(q:Int)+1:=by omega
      have j3:(m:Int)+1≤(cap:Int):=by omega
      by_cases hc:cap=q+1
      · subst hc
        go_wp2
        go_region_law ((first
          | (refine step_append_at rfl (.tmp 35) (.tmp 39) 25 rfl w3.heap.size 2 i0 (.int .i64 0) 1 8 Tryz.underlying25 hi hz0 hz1 hz2 rfl (by decide) vc (l'.take q).length ((l'.take q).map (Value.int .i64)) rfl OC ⟨g,0,none⟩ 0 0 [] rfl rfl (fun j u hj=>by simp at hj) (fun u hu=>by simp at hu) (by unfold maxLen;omega) (by omega) (by have:=kc.size;exact this) ?_
             intro v' w5 hown' hgrow hblk)
          | (go_simp
             refine (l1Copy_rd _ _ _ RC lt12).mono ?_
             rintro e w4 ⟨vc,rfl,OC,kc⟩)))
        all_goals
          have O5:Own w5 w3.heap.size v' (l'.eraseIdx q):=by
            rw[HEQ.out];unfold Own;have dn:l'.drop (q+1)=[]:=List.eq_nil_of_length_eq_zero (by rw[DL];omega);rw[dn,List.append_nil]
            simpa using hown'
          have kc3:Keep w3 w4:=(Keep.refl w3).drew.trans kc;have O4:=(O3.keep kc3).kept hgrow (apart_le (fun k hk=>ov k hk) (fun k hk=>OC.ge k hk));have K5:Keep w w5:=(K3.trans kc3).grown hgrow (fun k hk=>Nat.le_trans K3.size (OC.ge k hk));have ne5:v'.ownBlock=none∨v'.ownBlock≠vo.ownBlock:=apart_ge (fun k hk=>ov k hk) (fun k hk=>O5.ge k hk);have w35:=K3.size;obtain⟨a5,c5,hv5⟩:=O5.shp;rw[hel] at hv5;subst hv5;clear hown' hgrow hblk;go_wp2_with fail
          refine And.intro ⟨_,_,_,_,_,_,_,_,_,_,_,_,_,_,_,_,_,_,_,_,_,_,_,_,_,_,_,_,_,_,_,_,_,_,?rel,rfl⟩ ?measure;case rel=>exact⟨l'.eraseIdx q,o'++[z],r,rfl,HY.out.1,by rw[hel,HFF.out];exact HY.out.2,by rw[hel,List.length_append];simp;omega,by rw[hel];exact HO2,O5.base_le w35,O4,ne5,vob,K5⟩
          case measure=>exact Nat.lt_succ_self m
      · go_wp2
        go_region_law ((first
          | (refine step_append_at rfl (.tmp 35) (.tmp 39) 25 rfl w3.heap.size 2 i0 (.int .i64 0) 1 8 Tryz.underlying25 hi hz0 hz1 hz2 rfl (by decide) vc (l'.take q).length ((l'.take q).map (Value.int .i64)) rfl OC ⟨g,q+1,none⟩ (m-q) (cap-(q+1)) ((l'.drop (q+1)).map (Value.int .i64)) rfl (by rw[List.length_map,DL,Nat.mul_one]) (CT _ kc) (ints_one _) (by unfold maxLen;omega) (by omega) (by have:=kc.size;exact this) ?_
             intro v' w5 hown' hgrow hblk)
          | (go_simp
             refine (l1Copy_rd _ _ _ RC lt12).mono ?_
             rintro e w4 ⟨vc,rfl,OC,kc⟩)))
        all_goals
          have O5:Own w5 w3.heap.size v' (l'.eraseIdx q):=by
            rw[HEQ.out];unfold Own;rw[List.length_append,List.map_append,DL];exact hown'
          have kc3:Keep w3 w4:=(Keep.refl w3).drew.trans kc;have O4:=(O3.keep kc3).kept hgrow (apart_le (fun k hk=>ov k hk) (fun k hk=>OC.ge k hk));have K5:Keep w w5:=(K3.trans kc3).grown hgrow (fun k hk=>Nat.le_trans K3.size (OC.ge k hk));have ne5:v'.ownBlock=none∨v'.ownBlock≠vo.ownBlock:=apart_ge (fun k hk=>ov k hk) (fun k hk=>O5.ge k hk);have w35:=K3.size;obtain⟨a5,c5,hv5⟩:=O5.shp;rw[hel] at hv5;subst hv5;clear hown' hgrow hblk;go_wp2_with fail
          refine And.intro ⟨_,_,_,_,_,_,_,_,_,_,_,_,_,_,_,_,_,_,_,_,_,_,_,_,_,_,_,_,_,_,_,_,_,_,?rel,rfl⟩ ?measure;case rel=>exact⟨l'.eraseIdx q,o'++[z],r,rfl,HY.out.1,by rw[hel,HFF.out];exact HY.out.2,by rw[hel,List.length_append];simp;omega,by rw[hel];exact HO2,O5.base_le w35,O4,ne5,vob,K5⟩
          case measure=>exact Nat.lt_succ_self m
def rcK (es:List Ev):Nat→Int
 | 0=>1
 |k+1=>rcK es k*fac ((plcW es k).length-1)
theorem rcK_three (es:List Ev):rcK es 3=rcntL es:=by
 unfold rcntL;show 1*_*_*_=_;rw[Int.one_mul]
theorem rcK_in {es:List Ev}(hx:es.length≤9):∀k:Nat,k≤3→0<rcK es k∧rcK es k≤40320 ^ k
 | 0,_=>⟨by simp[rcK],by simp[rcK]⟩
 |k+1,h=>by
  obtain⟨h1,h2⟩:=rcK_in hx k (by omega)
  have b:(plcW es k).length-1≤8:=by
   unfold plcW idxB;rw[if_pos (by omega)];have:=idxK_len (toE (k:Int)) es es.length;omega
  have top:∀j:Nat,j≤8→fac j≤40320:=by decide +kernel
  have f0:=fac_pos ((plcW es k).length-1);have t0:=top _ b;rw[rcK];refine⟨Int.mul_pos h1 f0,?_⟩;rw[Int.pow_succ];exact Int.mul_le_mul h2 t0 (by omega) (Int.le_trans (by omega) h2)
theorem plcW_len9 {es:List Ev}(hx:es.length≤9)(p:Nat):(plcW es p).length≤9:=by
 unfold plcW idxB;rw[if_pos (by omega)];have:=idxK_len (toE (p:Int)) es es.length;omega
theorem l9Count_any (w:World)(v:Value)(es:List Ev)(h:RdE w v es)(hx:es.length≤9)(hp:∀p,p<3→0<(plcW es p).length):
  Calls Tryz.prog 178 #[v] w fun e w'=>e = .returned (.int .i64 (rcntL es))∧Keep w w':=by
 rw[←rcK_three];go_enter Tryz.func178,Tryz.ntmps178
 go_wp2_with fail
 refine (l9Places_any _ _ _ h (by omega)).mono ?_;rintro e w1 ⟨v1,rfl,r1,k1⟩;obtain⟨a,c,rfl,r1⟩:=r1;rcases r1 with h0|⟨b,o,rfl,hb,hc⟩
 · exfalso;have:=plcK_len es 3;rw[h0] at this;simp at this
 rw[plcK_len] at hc ⊢;go_wp2;go_loopw [4,5] (fun x i wr=>∃k:Nat,k≤3∧x = .int .i64 (rcK es k)∧i = .int .i64 k∧wr=w1) (fun _ i _=>3-(intOf i).toNat)
 case atStart=>exact⟨0,Nat.zero_le _,rfl,rfl,rfl⟩
 case round=>
  obtain⟨k,hk,rfl,rfl,rfl⟩:=hrel;by_cases hlt:k<3
  ·
   obtain⟨vi,e1,r2⟩:=hc k hlt;rw[plcK_get es k hlt] at r2;have HN:Hid (rcK es (k+1)=rcK es k*fac ((plcW es k).length-1)):=Lib.hid rfl;obtain⟨t0,t1⟩:=rcK_in hx k (by omega);obtain⟨s0,s1⟩:=rcK_in hx (k+1) (by omega);rw[HN.out] at s0 s1;have p40:∀j:Nat,j≤3→(40320:Int) ^ j≤65548320768000:=by decide +kernel
   have q0:=p40 k (by omega);have q1:=p40 (k+1) (by omega);have hl:=plcW_len9 hx k;have hp0:=hp k hlt;clear hc hp;obtain⟨az,cz,rfl,-⟩:=r2;obtain⟨m,hm⟩:∃m,(plcW es k).length=m+1:=⟨(plcW es k).length-1,by omega⟩;rw[hm] at hl e1 HN s0 s1;rw[Nat.add_sub_cancel] at HN s0 s1;clear hm hp0;have C:=fun (W:World)=>l9Factorial_any W m (by omega)
   have fp:=fac_pos m;have ft:=fac_top (n:=m) (by omega);generalize fac m=F at C HN s0 s1 fp ft;generalize rcK es k=x at t0 t1 s0 s1 HN;have i1:(0:Int)≤(k:Int):=Int.natCast_nonneg _;have i2:(k:Int)<3:=by omega
   have i3:(m:Int)≤8:=by omega
   have x1:x≤65548320768000:=by omega
   have y1:x*F≤65548320768000:=by omega
   clear t1 s1 q0 q1;go_wp2_with fail
   refine (C _).mono ?_;rintro e w2 ⟨rfl,rfl⟩;go_wp2;go_roundw;case rel=>exact⟨k+1,by omega,by rw[HN.out],by go_num,trivial⟩
   case measure=>simp[intOf];omega
  ·
   obtain rfl:k=3:=by omega
   go_wp2;go_ret;exact⟨rfl,k1⟩
theorem rcntB_in (dss:List (List Dd)):-1≤rcntB dss∧rcntB dss≤65548320768000:=by
 unfold rcntB;split
 ·
  rename_i hb;have hx:(eventsB dss).length≤9:=by rw[eventsB,if_pos hb];exact evsW_9 hb
  have h3:=rcK_in hx 3 (Nat.le_refl _);rw[rcK_three] at h3;have:(40320:Int) ^ 3≤65548320768000:=by decide +kernel
  omega
 · omega
theorem specRowsCount_any (w:World)(v:Value)(dss:List (List Dd))(h:RdW w v dss)(hx:dss.length≤1048576)(hm:∀i,i<dss.length→(dss.getD i []).length≤1048576):
  Calls Tryz.prog 130 #[v] w fun e w'=>e = .returned (.int .i64 (rcntB dss))∧Keep w w':=by
 cases hb:workB dss
 ·
  have HE:Hid (rcntB dss=-1):=Lib.hid (by rw[rcntB,hb];rfl);go_enter Tryz.func130,Tryz.ntmps130
  go_wp2_with fail
  refine (specWorkOk_any _ _ _ h hx hm).mono ?_;rintro e w1 ⟨rfl,k1⟩;go_wp2;go_ret;exact⟨by rw[HE.out];rfl,k1⟩
 ·
  have HE:Hid (rcntB dss=rcntL (evsW dss dss.length)):=Lib.hid (by rw[rcntB,if_pos hb,eventsB,if_pos hb]);obtain⟨u1,u2⟩:=workB_useR hb;have h9:=evsW_9 hb;have hp:∀p,p<3→0<(plcW (evsW dss dss.length) p).length:=fun p hp=>by have:=(plcW_first hb p hp).1;rw[eventsB,if_pos hb] at this;exact this
  go_enter Tryz.func130,Tryz.ntmps130
  go_wp2_with fail
  refine (specWorkOk_any _ _ _ h hx hm).mono ?_;rintro e w1 ⟨rfl,k1⟩;go_wp2_with fail
  refine (l6Events_any _ _ _ (h.keep k1) u1 u2).mono ?_;rintro e w2 ⟨v2,rfl,a2,k2⟩;go_wp2_with fail
  refine (l9Count_any _ _ _ a2.rd h9 hp).mono ?_;rintro e w3 ⟨rfl,k3⟩;go_wp2;go_ret;exact⟨by rw[HE.out];rfl,(k1.trans k2).trans k3⟩
def nK (es:List Ev)(n:Int):Nat→Int
 | 0=>n
 |k+1=>nK es n k / fac ((plcW es (2-k)).length-1)
def pK (es:List Ev)(n:Int)(k:Nat):List Int:=partL (plcW es (2-k)) (nK es n k % fac ((plcW es (2-k)).length-1))
theorem ratL_pK (es:List Ev)(n:Int):ratL es n=pK es n 2++pK es n 1++pK es n 0:=rfl
theorem nK_in (es:List Ev){n M:Int}(h0:0≤n)(h1:n≤M):∀k:Nat,0≤nK es n k∧nK es n k≤M
 | 0=>⟨h0,h1⟩
 |k+1=>by
  obtain⟨g0,g1⟩:=nK_in es h0 h1 k;rw[nK];exact⟨Int.ediv_nonneg g0 (by have:=fac_pos ((plcW es (2-k)).length-1);omega),Int.le_trans (Int.ediv_le_self _ g0) g1⟩
def Parts (w:World)(G:Nat)(c:Nat→Value):Prop:=w.heap[G]? = some (.cells #[c 0,c 1,c 2] 25 (0,0))
theorem Parts.lt {w:World}{G:Nat}{c:Nat→Value}(h:Parts w G c):G<w.heap.size:=(Array.getElem?_eq_some_iff.1 h).1
theorem Parts.cell {w:World}{G:Nat}{c:Nat→Value}(h:Parts w G c){j:Nat}(hj:j<3):w.cell? ⟨G,j,none⟩=some (c j):=by
 rw[cell_of_row w G j _ _ _ h];have:j=0∨j=1∨j=2:=by omega
 rcases this with rfl|rfl|rfl<;>rfl
theorem Parts.free {w:World}{G:Nat}{c:Nat→Value}(h:Parts w G c)(j:Nat):w.frozen? ⟨G,j,none⟩=false:=frozen_of_row w G j _ _ h
theorem Parts.kept {w w':World}{G:Nat}{c:Nat→Value}{row:Option Nat}(h:Parts w G c)(hg:w.grownBy w' row)(hne:row≠some G):Parts w' G c:=by
 unfold Parts;rw[hg.block G h.lt (fun e=>hne e.symm)];exact h
theorem Parts.set {w:World}{G:Nat}{c:Nat→Value}(h:Parts w G c){j:Nat}(hj:j<3)(v:Value):Parts (w.setCell ⟨G,j,none⟩ v) G (fun i=>if i=j then v else c i):=by
 unfold Parts;rw[heap_setCell_same w G j _ _ _ h];have:j=0∨j=1∨j=2:=by omega
 rcases this with rfl|rfl|rfl<;>rfl
structure PartOk (w:World)(G:Nat)(u:Value)(L:List Int):Prop where
 rd:Rd w u L
 ne:u.ownBlock≠some G
 lt:∀k,u.ownBlock=some k→k<w.heap.size
 at':∃g c,u = .slice (some ⟨g,0,none⟩) L.length c
theorem PartOk.kept {w w':World}{G:Nat}{u:Value}{L:List Int}{row:Option Nat}(h:PartOk w G u L)(hg:w.grownBy w' row)(hne:u.ownBlock≠row):PartOk w' G u L:=
 ⟨h.rd.keptR hg (.inr hne),h.ne,fun k hk=>Nat.lt_of_lt_of_le (h.lt k hk) hg.size,h.at'⟩
theorem PartOk.keep {w w':World}{G:Nat}{u:Value}{L:List Int}(h:PartOk w G u L)(k:Keep w w'):PartOk w' G u L:=
 ⟨h.rd.keep k,h.ne,fun j hj=>Nat.lt_of_lt_of_le (h.lt j hj) k.size,h.at'⟩
theorem part_cells {w:World}{G g n c:Nat}{L:List Int}(h:PartOk w G (.slice (some ⟨g,0,none⟩) n c) L):∀j u,(L.map (Value.int .i64))[j]? = some u→w.cell? ((⟨g,0,none⟩:Addr).add j)=some u:=by
 obtain⟨a,c',e,hr⟩:=h.rd;simp only[Value.slice.injEq] at e;obtain⟨rfl,_,_⟩:=e;rcases hr with h0|⟨b,off,e,hb,hc⟩
 · intro j u hj;rw[h0] at hj;simp at hj
 ·
  simp only[Option.some.injEq,Addr.mk.injEq] at e;obtain⟨rfl,rfl,_⟩:=e;exact rd_cells hc
theorem Own.one (w:World)(z:Int):Own (w.alloc (.cells #[.int .i64 z] 2)) w.heap.size (.slice (some ⟨w.heap.size,0,none⟩) 1 1) [z]:=World.ownsRow_lit w #[.int .i64 z] 1 (Nat.le_refl _) (by decide) rfl
theorem Own.cellsOf {w:World}{base g c:Nat}{zs:List Int}{n:Nat}(h:Own w base (.slice (some ⟨g,0,none⟩) n c) zs):∀j u,(zs.map (Value.int .i64))[j]? = some u→w.cell? ((⟨g,0,none⟩:Addr).add j)=some u:=by
 have hR:=h.rowAt;exact rd_cells (fun i hi=>by rw[Nat.zero_add];exact hR.cell hi)
theorem l9At_any (w:World)(v:Value)(es:List Ev)(n:Int)(h:RdE w v es)(hx:es.length≤9)(hp:∀p,p<3→0<(plcW es p).length)(h0:0≤n)(h1:n≤65548320768000):
    Calls Tryz.prog 180 #[v,.int .i64 n] w fun e w'=>∃v',e = .returned v'∧Own w' w.heap.size v' (ratL es n)∧Keep w w':=by
  obtain⟨i0,hi,hz0,hz1,hz2⟩:=info_parts Tryz.infoI;go_enter Tryz.func180,Tryz.ntmps180
  go_wp2_with fail
  refine (l9Places_cap _ _ _ h (by omega)).mono ?_;rintro e w1 ⟨v1,rfl,r1,k1⟩;obtain⟨a,c,rfl,r1⟩:=r1;rcases r1 with e0|⟨b,o,rfl,hb,hc⟩
  · exfalso;have:=plcK_len es 3;rw[e0] at this;simp at this
  rw[plcK_len] at hc ⊢;have HC:=Lib.hid hc;have HP:=Lib.hid hp;clear hc hp h;go_wp2
  have hP:Parts ((((w1.alloc (.cells #[] 2)).alloc (.cells #[] 2)).alloc (.cells #[] 2)).alloc (.cells #[.slice (some ⟨w1.heap.size,0,none⟩) 0 0,.slice (some ⟨w1.heap.size+1,0,none⟩) 0 0,.slice (some ⟨w1.heap.size+1+1,0,none⟩) 0 0] 25)) (w1.heap.size+1+1+1) (fun i => .slice (some ⟨w1.heap.size+i,0,none⟩) 0 0):=by
    unfold Parts;have e1:w1.heap.size+1+1+1=(((w1.alloc (.cells #[] 2)).alloc (.cells #[] 2)).alloc (.cells #[] 2)).heap.size:=by rw[heap_size,heap_size,heap_size]
    rw[e1,heap_at,if_pos rfl];rfl
  have k2:Keep w1 ((((w1.alloc (.cells #[] 2)).alloc (.cells #[] 2)).alloc (.cells #[] 2)).alloc (.cells #[.slice (some ⟨w1.heap.size,0,none⟩) 0 0,.slice (some ⟨w1.heap.size+1,0,none⟩) 0 0,.slice (some ⟨w1.heap.size+1+1,0,none⟩) 0 0] 25)):=((((Keep.refl w1).alloc _).alloc _).alloc _).alloc _;obtain⟨G,hG⟩:∃G,G=w1.heap.size+1+1+1:=⟨_,rfl⟩;rw[←hG] at hP ⊢;have hG1:w1.heap.size≤G:=by omega
  clear hG;go_loopw [1,7] (fun x i wr=>∃(k:Nat) (cc:Nat→Value),k≤3∧x = .int .i64 (nK es n k)∧i = .int .i64 (2-(k:Int))∧Parts wr G cc∧Hid (∀j,j<k→PartOk wr G (cc (2-j)) (pK es n j))∧Keep w1 wr) (fun _ i _=>(intOf i+1).toNat)
  case atStart=>exact⟨0,_,Nat.zero_le _,rfl,rfl,hP,Lib.hid (fun j hj=>by omega),k2⟩
  case round=>
    obtain⟨k,cc,hk,rfl,rfl,hPt,HQ,hK⟩:=hrel;clear hP k2;by_cases hlt:k<3
    · obtain⟨j,hj⟩:∃j:Nat,j=2-k:=⟨_,rfl⟩
      have ej:(2:Int)-(k:Int)=(j:Int):=by omega
      have hj3:j<3:=by omega
      obtain⟨vi,e1,r2,cz⟩:=HC.out j hj3;rw[plcK_get es j hj3] at r2 cz;have d1:=(hK.cell hb).trans e1;have r3:=r2.keep hK;have hpj:=HP.out j hj3;have hl9:=plcW_len9 hx j;obtain⟨x0,x1⟩:=nK_in es h0 h1 k;have HN:Hid (nK es n (k+1)=nK es n k / fac ((plcW es j).length-1)):=Lib.hid (by rw[hj];rfl);have HPK:Hid (pK es n k=partL (plcW es j) (nK es n k % fac ((plcW es j).length-1))):=Lib.hid (by unfold pK;rw[hj]);have HJ:=Lib.hid hj;rw[ej];clear e1 r2 hj ej HC;generalize nK es n k=x at *;obtain⟨p,hpe⟩:∃p,p=plcW es j:=⟨_,rfl⟩;rw[←hpe] at r3 hpj hl9 HN HPK cz;clear hpe;obtain⟨ap,cp,rfl,r3⟩:=r3;rcases r3 with e0|⟨bp,op,rfl,hbp,hcp⟩
      · exfalso;rw[e0] at hpj;simp at hpj
      simp only[capZ] at cz;obtain⟨m,hm⟩:∃m,p.length=m+1:=⟨p.length-1,by omega⟩;have HM:=Lib.hid hm;have hz:=hcp 0 (by omega);rw[Nat.add_zero] at hz
      have hct:∀i,i<(p.drop 1).length→wr.cell? ⟨bp,op+1+i,none⟩=some (.int .i64 ((p.drop 1).getD i 0)):=fun i hi=>by
        rw[List.length_drop] at hi;rw[show op+1+i=op+(1+i) by omega,hcp (1+i) (by omega),List.getD_eq_getElem?_getD,List.getD_eq_getElem?_getD,List.getElem?_drop]
      have HPart:Hid (∀r,partL p r=p.getD 0 0::ordL m (p.drop 1) r):=Lib.hid (fun r=>by rw[partL,hm,Nat.add_sub_cancel]);have hdl:(p.drop 1).length=m:=by rw[List.length_drop,hm];omega
      rw[hm] at d1 hl9 cz HN HPK;rw[Nat.add_sub_cancel] at HN HPK;clear hcp hm hpj;have fp:=fac_pos m;have ft:=fac_top (n:=m) (by omega);have C:=fun (W:World)=>l9Factorial_any W m (by omega)
      have CO:=fun (W:World) (u:Value) (r:Int) (hu:Rd W u (p.drop 1)) (r0:0≤r) (r1:r<fac m)=>l9Order_any W u (p.drop 1) r hu (by omega) r0 (by rw[hdl];exact r1)
      rw[hdl] at CO;have HD:=Lib.hid hdl;generalize fac m=F at C CO fp ft HN HPK;generalize p.getD 0 0=z at hz HPart;have e1:x.tmod F=x % F:=Int.tmod_eq_emod_of_nonneg x0;have e2:x.tdiv F=x / F:=Int.tdiv_eq_ediv_of_nonneg x0;have r0:0≤x % F:=Int.emod_nonneg _ (by omega);have r1:x % F<F:=Int.emod_lt_of_pos _ fp;have y0:0≤x / F:=Int.ediv_nonneg x0 (by omega);have y1:x / F≤x:=Int.ediv_le_self _ x0;obtain⟨r,hr⟩:∃r,r=x % F:=⟨_,rfl⟩;rw[←hr] at e1 r0 r1 HPK;obtain⟨y,hy⟩:∃y,y=x / F:=⟨_,rfl⟩;rw[←hy] at e2 y0 y1 HN;clear hr hy hdl;have i1:(0:Int)≤(j:Int):=Int.natCast_nonneg _;have i2:(j:Int)<3:=by omega
      have i3:(m:Int)≤8:=by omega
      have i4:(0:Int)≤(m:Int):=Int.natCast_nonneg _;have i5:(1:Int)≤(m:Int)+1:=by omega
      have fne:¬(F=0):=by omega
      have hbw:b<wr.heap.size:=Nat.lt_of_lt_of_le hb hK.size;have hGw:=hPt.lt;have gj:=hPt.cell hj3;have gf:=hPt.free j;go_wp2_with fail
      refine (C _).mono ?_;rintro e w2 ⟨rfl,rfl⟩;have KA:Keep w2 (w2.alloc (.cells #[.int .i64 z] 2)).drew:=((Keep.refl w2).alloc _).drew;have KB:Keep w2 w2.drew:=(Keep.refl w2).drew;have OA0:Own (w2.alloc (.cells #[.int .i64 z] 2)).drew w2.heap.size (.slice (some ⟨w2.heap.size,0,none⟩) 1 1) [z]:=(Own.one w2 z).keep (Keep.refl _).drew;by_cases hc1:cp=1
      · subst hc1
        have m0:m=0:=by omega
        have RT:∀W:World,Keep w2 W→Rd W (.slice (some ⟨bp,op,none⟩) 0 0) (p.drop 1):=fun W _=>⟨_,0,by rw[HD.out,m0],.inl (List.eq_nil_of_length_eq_zero (by rw[HD.out,m0]))⟩
        subst m0;go_wp2
        go_region_law ((first
          | (refine step_append_at rfl (.tmp 34) (.tmp 43) 25 rfl w2.heap.size 2 i0 (.int .i64 0) 1 8 Tryz.underlying25 hi hz0 hz1 hz2 rfl (by decide) (.slice (some ⟨w2.heap.size,0,none⟩) 1 1) 1 [.int .i64 z] rfl OA ⟨go,0,none⟩ 0 co ((ordL 0 (p.drop 1) r).map (Value.int .i64)) rfl (by rw[List.length_map,ordL_len,Nat.mul_one]) OO.cellsOf (ints_one _) (by unfold maxLen;omega) (by omega) (by have:=KW.size;omega) ?_
             intro v' w8 hown' hgrow hblk
             have O8:Own w8 w2.heap.size v' (partL p r):=by
               rw[HPart.out];refine Own.base_le (base:=w2.heap.size) ?_ (Nat.le_refl _);unfold Own;rw[List.length_cons,ordL_len,Nat.add_comm];exact hown'
             have Kw8:Keep w2 w8:=KW.grown hgrow (fun k hk=>by have:=OA.ge k hk;omega)
             have nn:∃d,v'.ownBlock=some d:=by
               rcases hblk with e|e
               · exact⟨_,e⟩
               · exact⟨_,e⟩
             obtain⟨g5,c5,hv5⟩:∃g c,v' = .slice (some ⟨g,0,none⟩) (partL p r).length c:=by
               obtain⟨dd,hdd⟩:=nn;rcases O8.2 with ⟨e,_⟩|⟨g,cap,cur,e,_⟩
               · rw[e] at hdd;cases hdd
               · exact⟨g,cap,e⟩
             obtain⟨N8,hN8⟩:∃N,N=(partL p r).length:=⟨_,rfl⟩;have HN8:=Lib.hid hN8;rw[←hN8] at hv5;subst hv5;clear hN8 nn;have P8:Parts w8 G cc:=hPt.kept Kw8.grownBy (by simp);have d8:=P8.cell hj3;have f8:=P8.free j;have hg8:=P8.lt
             clear hown' hgrow hblk)
          | (refine step_append_at rfl (.tmp 34) (.tmp 43) 25 rfl w6.heap.size 2 i0 (.int .i64 0) 1 8 Tryz.underlying25 hi hz0 hz1 hz2 rfl (by decide) (.slice (some ⟨w6.heap.size,0,none⟩) 1 1) 1 [.int .i64 z] rfl OB ⟨go,0,none⟩ 0 co ((ordL 0 (p.drop 1) r).map (Value.int .i64)) rfl (by rw[List.length_map,ordL_len,Nat.mul_one]) OO.cellsOf (ints_one _) (by unfold maxLen;omega) (by omega) (by rw[heap_size];omega) ?_
             intro v' w8 hown' hgrow hblk
             have O8:Own w8 w2.heap.size v' (partL p r):=by
               rw[HPart.out];refine Own.base_le (base:=w6.heap.size) ?_ sz6;unfold Own;rw[List.length_cons,ordL_len,Nat.add_comm];exact hown'
             have Kw8:Keep w2 w8:=KW.grown hgrow (fun k hk=>by have:=OB.ge k hk;have:=sz6;omega)
             have nn:∃d,v'.ownBlock=some d:=by
               rcases hblk with e|e
               · exact⟨_,e⟩
               · exact⟨_,e⟩
             obtain⟨g5,c5,hv5⟩:∃g c,v' = .slice (some ⟨g,0,none⟩) (partL p r).length c:=by
               obtain⟨dd,hdd⟩:=nn;rcases O8.2 with ⟨e,_⟩|⟨g,cap,cur,e,_⟩
               · rw[e] at hdd;cases hdd
               · exact⟨g,cap,e⟩
             obtain⟨N8,hN8⟩:∃N,N=(partL p r).length:=⟨_,rfl⟩;have HN8:=Lib.hid hN8;rw[←hN8] at hv5;subst hv5;clear hN8 nn;have P8:Parts w8 G cc:=hPt.kept Kw8.grownBy (by simp);have d8:=P8.cell hj3;have f8:=P8.free j;have hg8:=P8.lt
             clear hown' hgrow hblk)
          | (go_simp
             refine (CO _ _ r (RT _ KA) r0 r1).mono ?_;rintro e w6 ⟨go,co,rfl,OO,ko⟩;have OA:=OA0.keep ko
             have KW:=KA.trans ko)
          | (go_simp
             refine (CO _ _ r (RT _ KB) r0 r1).mono ?_;rintro e w6 ⟨go,co,rfl,OO1,ko⟩;have OB:=Own.one w6 z;have sz6:=(KB.trans ko).size;have d16:=((KB.trans ko).cell hbw).trans d1;have hz6:=((KB.trans ko).cell hbp).trans hz;have hbw6:b<w6.heap.size:=Nat.lt_of_lt_of_le hbw sz6;have hbp6:bp<w6.heap.size:=Nat.lt_of_lt_of_le hbp sz6;have OO:=OO1.keep ((Keep.refl w6).alloc (.cells #[.int .i64 z] 2))
             have KW:=(KB.trans ko).alloc (.cells #[.int .i64 z] 2))))
        all_goals
          have v8g:(Value.slice (some ⟨g5,0,none⟩) N8 c5).ownBlock≠some G:=fun e=>by have:=O8.ge G e;omega
          have K18:=hK.trans Kw8;have KS:Keep w1 (w8.setCell ⟨G,j,none⟩ (Value.slice (some ⟨g5,0,none⟩) N8 c5)):=K18.grown (grown_set w8 G j (Value.slice (some ⟨g5,0,none⟩) N8 c5)) (fun k hk=>by simp at hk;omega);have P9:=P8.set hj3 (Value.slice (some ⟨g5,0,none⟩) N8 c5)
          have HQ9:Hid (∀i,i<k+1→PartOk (w8.setCell ⟨G,j,none⟩ (Value.slice (some ⟨g5,0,none⟩) N8 c5)) G ((fun i=>if i=j then (Value.slice (some ⟨g5,0,none⟩) N8 c5) else cc i) (2-i)) (pK es n i)):=Lib.hid (fun i hi=>by
            by_cases ei:i=k
            · subst ei
              have:2-i=j:=by rw[HJ.out]
              simp only[this,if_true];rw[HPK.out];have Q:PartOk w8 G (Value.slice (some ⟨g5,0,none⟩) N8 c5) (partL p r):=⟨O8.rd,v8g,fun q hq=>(World.ownsRow.lt O8 q hq).2,⟨g5,c5,by rw[HN8.out]⟩⟩;exact Q.kept (grown_set w8 G j (Value.slice (some ⟨g5,0,none⟩) N8 c5)) v8g
            · have hne:¬(2-i=j):=by have:=HJ.out;omega
              simp only[hne,if_false];have Q:=(HQ.out i (by omega)).keep Kw8
              exact Q.kept (grown_set w8 G j (Value.slice (some ⟨g5,0,none⟩) N8 c5)) Q.ne)
          clear HQ P8 Kw8;go_wp2;go_roundw;case rel=>exact⟨k+1,fun i=>if i=j then (Value.slice (some ⟨g5,0,none⟩) N8 c5) else cc i,by omega,by rw[HN.out],by have:=HJ.out;congr 1;omega,P9,HQ9,KS⟩
          case measure=>simp[intOf]
      · have RT:∀W:World,Keep w2 W→Rd W (.slice (some ⟨bp,op+1,none⟩) m (cp-1)) (p.drop 1):=fun W kW=>⟨_,cp-1,by rw[HD.out],.inr ⟨bp,op+1,rfl,Nat.lt_of_lt_of_le hbp kW.size,fun i hi=>(kW.cell hbp).trans (hct i hi)⟩⟩
        go_wp2
        go_region_law ((first
          | (refine step_append_at rfl (.tmp 34) (.tmp 43) 25 rfl w2.heap.size 2 i0 (.int .i64 0) 1 8 Tryz.underlying25 hi hz0 hz1 hz2 rfl (by decide) (.slice (some ⟨w2.heap.size,0,none⟩) 1 1) 1 [.int .i64 z] rfl OA ⟨go,0,none⟩ m co ((ordL m (p.drop 1) r).map (Value.int .i64)) rfl (by rw[List.length_map,ordL_len,Nat.mul_one]) OO.cellsOf (ints_one _) (by unfold maxLen;omega) (by omega) (by have:=KW.size;omega) ?_
             intro v' w8 hown' hgrow hblk
             have O8:Own w8 w2.heap.size v' (partL p r):=by
               rw[HPart.out];refine Own.base_le (base:=w2.heap.size) ?_ (Nat.le_refl _);unfold Own;rw[List.length_cons,ordL_len,Nat.add_comm];exact hown'
             have Kw8:Keep w2 w8:=KW.grown hgrow (fun k hk=>by have:=OA.ge k hk;omega)
             have nn:∃d,v'.ownBlock=some d:=by
               rcases hblk with e|e
               · exact⟨_,e⟩
               · exact⟨_,e⟩
             obtain⟨g5,c5,hv5⟩:∃g c,v' = .slice (some ⟨g,0,none⟩) (partL p r).length c:=by
               obtain⟨dd,hdd⟩:=nn;rcases O8.2 with ⟨e,_⟩|⟨g,cap,cur,e,_⟩
               · rw[e] at hdd;cases hdd
               · exact⟨g,cap,e⟩
             obtain⟨N8,hN8⟩:∃N,N=(partL p r).length:=⟨_,rfl⟩;have HN8:=Lib.hid hN8;rw[←hN8] at hv5;subst hv5;clear hN8 nn;have P8:Parts w8 G cc:=hPt.kept Kw8.grownBy (by simp);have d8:=P8.cell hj3;have f8:=P8.free j;have hg8:=P8.lt
             clear hown' hgrow hblk)
          | (refine step_append_at rfl (.tmp 34) (.tmp 43) 25 rfl w6.heap.size 2 i0 (.int .i64 0) 1 8 Tryz.underlying25 hi hz0 hz1 hz2 rfl (by decide) (.slice (some ⟨w6.heap.size,0,none⟩) 1 1) 1 [.int .i64 z] rfl OB ⟨go,0,none⟩ m co ((ordL m (p.drop 1) r).map (Value.int .i64)) rfl (by rw[List.length_map,ordL_len,Nat.mul_one]) OO.cellsOf (ints_one _) (by unfold maxLen;omega) (by omega) (by rw[heap_size];omega) ?_
             intro v' w8 hown' hgrow hblk
             have O8:Own w8 w2.heap.size v' (partL p r):=by
               rw[HPart.out];refine Own.base_le (base:=w6.heap.size) ?_ sz6;unfold Own;rw[List.length_cons,ordL_len,Nat.add_comm];exact hown'
             have Kw8:Keep w2 w8:=KW.grown hgrow (fun k hk=>by have:=OB.ge k hk;have:=sz6;omega)
             have nn:∃d,v'.ownBlock=some d:=by
               rcases hblk with e|e
               · exact⟨_,e⟩
               · exact⟨_,e⟩
             obtain⟨g5,c5,hv5⟩:∃g c,v' = .slice (some ⟨g,0,none⟩) (partL p r).length c:=by
               obtain⟨dd,hdd⟩:=nn;rcases O8.2 with ⟨e,_⟩|⟨g,cap,cur,e,_⟩
               · rw[e] at hdd;cases hdd
               · exact⟨g,cap,e⟩
             obtain⟨N8,hN8⟩:∃N,N=(partL p r).length:=⟨_,rfl⟩;have HN8:=Lib.hid hN8;rw[←hN8] at hv5;subst hv5;clear hN8 nn;have P8:Parts w8 G cc:=hPt.kept Kw8.grownBy (by simp);have d8:=P8.cell hj3;have f8:=P8.free j;have hg8:=P8.lt
             clear hown' hgrow hblk)
          | (go_simp
             refine (CO _ _ r (RT _ KA) r0 r1).mono ?_;rintro e w6 ⟨go,co,rfl,OO,ko⟩;have OA:=OA0.keep ko
             have KW:=KA.trans ko)
          | (go_simp
             refine (CO _ _ r (RT _ KB) r0 r1).mono ?_;rintro e w6 ⟨go,co,rfl,OO1,ko⟩;have OB:=Own.one w6 z;have sz6:=(KB.trans ko).size;have d16:=((KB.trans ko).cell hbw).trans d1;have hz6:=((KB.trans ko).cell hbp).trans hz;have hbw6:b<w6.heap.size:=Nat.lt_of_lt_of_le hbw sz6;have hbp6:bp<w6.heap.size:=Nat.lt_of_lt_of_le hbp sz6;have OO:=OO1.keep ((Keep.refl w6).alloc (.cells #[.int .i64 z] 2))
             have KW:=(KB.trans ko).alloc (.cells #[.int .i64 z] 2))))
        all_goals
          have v8g:(Value.slice (some ⟨g5,0,none⟩) N8 c5).ownBlock≠some G:=fun e=>by have:=O8.ge G e;omega
          have K18:=hK.trans Kw8;have KS:Keep w1 (w8.setCell ⟨G,j,none⟩ (Value.slice (some ⟨g5,0,none⟩) N8 c5)):=K18.grown (grown_set w8 G j (Value.slice (some ⟨g5,0,none⟩) N8 c5)) (fun k hk=>by simp at hk;omega);have P9:=P8.set hj3 (Value.slice (some ⟨g5,0,none⟩) N8 c5)
          have HQ9:Hid (∀i,i<k+1→PartOk (w8.setCell ⟨G,j,none⟩ (Value.slice (some ⟨g5,0,none⟩) N8 c5)) G ((fun i=>if i=j then (Value.slice (some ⟨g5,0,none⟩) N8 c5) else cc i) (2-i)) (pK es n i)):=Lib.hid (fun i hi=>by
            by_cases ei:i=k
            · subst ei
              have:2-i=j:=by rw[HJ.out]
              simp only[this,if_true];rw[HPK.out];have Q:PartOk w8 G (Value.slice (some ⟨g5,0,none⟩) N8 c5) (partL p r):=⟨O8.rd,v8g,fun q hq=>(World.ownsRow.lt O8 q hq).2,⟨g5,c5,by rw[HN8.out]⟩⟩;exact Q.kept (grown_set w8 G j (Value.slice (some ⟨g5,0,none⟩) N8 c5)) v8g
            · have hne:¬(2-i=j):=by have:=HJ.out;omega
              simp only[hne,if_false];have Q:=(HQ.out i (by omega)).keep Kw8
              exact Q.kept (grown_set w8 G j (Value.slice (some ⟨g5,0,none⟩) N8 c5)) Q.ne)
          clear HQ P8 Kw8;go_wp2;go_roundw;case rel=>exact⟨k+1,fun i=>if i=j then (Value.slice (some ⟨g5,0,none⟩) N8 c5) else cc i,by omega,by rw[HN.out],by have:=HJ.out;congr 1;omega,P9,HQ9,KS⟩
          case measure=>simp[intOf]
    · obtain rfl:k=3:=by omega
      have Q0:PartOk wr G (cc 0) (pK es n 2):=HQ.out 2 (by omega);have Q1:PartOk wr G (cc 1) (pK es n 1):=HQ.out 1 (by omega);have Q2:PartOk wr G (cc 2) (pK es n 0):=HQ.out 0 (by omega);have HR:Hid (ratL es n=pK es n 2++pK es n 1++pK es n 0):=Lib.hid (ratL_pK es n);have b0:(pK es n 2).length≤9:=by unfold pK;rw[part_len (HP.out _ (by omega))];exact plcW_len9 hx _
      have b1:(pK es n 1).length≤9:=by unfold pK;rw[part_len (HP.out _ (by omega))];exact plcW_len9 hx _
      have b2:(pK es n 0).length≤9:=by unfold pK;rw[part_len (HP.out _ (by omega))];exact plcW_len9 hx _
      have d0:=hPt.cell (j:=0) (by omega);have d1:=hPt.cell (j:=1) (by omega);have d2:=hPt.cell (j:=2) (by omega);have hGw:=hPt.lt;clear HQ HC HP;generalize pK es n 2=L0 at Q0 HR b0;generalize pK es n 1=L1 at Q1 HR b1;generalize pK es n 0=L2 at Q2 HR b2;obtain⟨g0,c0,hc0⟩:=Q0.at';obtain⟨g1,c1,hc1⟩:=Q1.at';obtain⟨g2,c2,hc2⟩:=Q2.at';rw[hc0] at d0 Q0;rw[hc1] at d1 Q1;rw[hc2] at d2 Q2;have sK:=hK.size;have sk1:=k1.size;have KE:Keep wr (wr.alloc (.cells #[] 2)).drew:=((Keep.refl wr).alloc _).drew;have OE0:Own (wr.alloc (.cells #[] 2)) wr.heap.size (.slice (some ⟨wr.heap.size,0,none⟩) 0 0) []:=World.ownsRow_lit wr #[] 0 (Nat.le_refl _) (by decide) rfl;have OE:=OE0.keep (Keep.refl (wr.alloc (.cells #[] 2))).drew;clear OE0;clear hc0 hc1 hc2 hPt;go_wp2
      go_region_law ((first
        | (refine step_append_at rfl (.tmp 57) (.tmp 60) 25 rfl wr.heap.size 2 i0 (.int .i64 0) 1 8 Tryz.underlying25 hi hz0 hz1 hz2 rfl (by decide) vb (L0++L1).length ((L0++L1).map (Value.int .i64)) rfl OB ⟨g2,0,none⟩ L2.length c2 (L2.map (Value.int .i64)) rfl (by rw[List.length_map,Nat.mul_one]) (part_cells (Q2.keep Kb)) (ints_one _) (by rw[List.length_append];unfold maxLen;omega) (by rw[List.length_append];omega) Kb.size ?_
           intro vd wd hown' hgrow hblk;have OD:Own wd wr.heap.size vd (L0++L1++L2):=by unfold Own;rw[List.length_append,List.map_append];exact hown'
           have Kd:Keep wr wd:=Kb.grown hgrow OB.ge
           clear hown' hgrow hblk)
        | (refine step_append_at rfl (.tmp 53) (.tmp 56) 25 rfl wr.heap.size 2 i0 (.int .i64 0) 1 8 Tryz.underlying25 hi hz0 hz1 hz2 rfl (by decide) va L0.length (L0.map (Value.int .i64)) rfl OA ⟨g1,0,none⟩ L1.length c1 (L1.map (Value.int .i64)) rfl (by rw[List.length_map,Nat.mul_one]) (part_cells (Q1.keep Ka)) (ints_one _) (by unfold maxLen;omega) (by omega) Ka.size ?_
           intro vb wb hown' hgrow hblk;have OB:Own wb wr.heap.size vb (L0++L1):=by unfold Own;rw[List.length_append,List.map_append];exact hown'
           have Kb:Keep wr wb:=Ka.grown hgrow OA.ge;have db2:=(Kb.cell hGw).trans d2;have hGb:G<wb.heap.size:=Nat.lt_of_lt_of_le hGw Kb.size
           clear hown' hgrow hblk)
        | (refine step_append_at rfl (.tmp 49) (.tmp 52) 25 rfl wr.heap.size 2 i0 (.int .i64 0) 1 8 Tryz.underlying25 hi hz0 hz1 hz2 rfl (by decide) (.slice (some ⟨wr.heap.size,0,none⟩) 0 0) 0 [] rfl OE ⟨g0,0,none⟩ L0.length c0 (L0.map (Value.int .i64)) rfl (by rw[List.length_map,Nat.mul_one]) (part_cells (Q0.keep KE)) (ints_one _) (by unfold maxLen;omega) (by omega) KE.size ?_
           intro va wa hown' hgrow hblk;have OA:Own wa wr.heap.size va L0:=by unfold Own;simpa using hown'
           have Ka:Keep wr wa:=KE.grown hgrow OE.ge;have da1:=(Ka.cell hGw).trans d1;have da2:=(Ka.cell hGw).trans d2;have hGa:G<wa.heap.size:=Nat.lt_of_lt_of_le hGw Ka.size
           clear hown' hgrow hblk)))
      all_goals
        go_wp2;go_ret;exact⟨_,rfl,by rw[HR.out];exact OD.base_le (by omega),(k1.trans hK).trans Kd⟩
theorem own_emptyR (w:World):Own (w.alloc (.cells #[] 2)) w.heap.size (.slice (some ⟨w.heap.size,0,none⟩) 0 0) []:=World.ownsRow_lit w #[] 0 (Nat.le_refl _) (by decide) rfl
theorem specRowsAt_own (w:World)(v:Value)(dss:List (List Dd))(n:Int)(h:RdW w v dss)(hx:dss.length≤1048576)(hm:∀i,i<dss.length→(dss.getD i []).length≤1048576):
  Calls Tryz.prog 132 #[v,.int .i64 n] w fun e w'=>∃v',e = .returned v'∧Own w' w.heap.size v' (ratB dss n)∧Keep w w':=by
 by_cases h0:n<0
 ·
  have HE:Hid (ratB dss n=[]):=Lib.hid (by unfold ratB;rw[if_neg (by omega)]);go_enter Tryz.func132,Tryz.ntmps132
  go_wp2;go_ret;exact⟨_,rfl,by rw[HE.out];exact own_emptyR w,(Keep.refl w).alloc _⟩
 have h0':0≤n:=by omega
 have hcb:=rcntB_in dss;by_cases h1:rcntB dss≤n
 ·
  have HE:Hid (ratB dss n=[]):=Lib.hid (by unfold ratB;rw[if_neg (by omega)]);have C:=specRowsCount_any w v dss h hx hm;generalize rcntB dss=m at C h1 hcb;go_enter Tryz.func132,Tryz.ntmps132
  go_wp2_with fail
  refine C.mono ?_;rintro e w1 ⟨rfl,k1⟩;have s1:=k1.size;go_wp2;go_ret;exact⟨_,rfl,by rw[HE.out];exact (own_emptyR w1).base_le s1,k1.alloc _⟩
 ·
  have h1':n<rcntB dss:=by omega
  have hb:workB dss=true:=by
   cases hb:workB dss with
   |true=>rfl
   |false=>rw[rcntB,hb] at h1';simp at h1';omega
  have HE:Hid (ratB dss n=ratL (evsW dss dss.length) n):=Lib.hid (by unfold ratB;rw[if_pos ⟨h0',h1'⟩,eventsB,if_pos hb]);have C:=specRowsCount_any w v dss h hx hm;obtain⟨u1,u2⟩:=workB_useR hb;have h9:=evsW_9 hb;have hp:=plcW_pos hb;generalize rcntB dss=m at C h1 hcb h1';go_enter Tryz.func132,Tryz.ntmps132
  go_wp2_with fail
  refine C.mono ?_;rintro e w1 ⟨rfl,k1⟩;have s1:=k1.size;go_wp2_with fail
  refine (l6Events_any _ _ _ (h.keep k1) u1 u2).mono ?_;rintro e w2 ⟨v2,rfl,a2,k2⟩;have s2:=k2.size;go_wp2_with fail
  refine (l9At_any _ _ _ _ a2.rd h9 hp h0' (by omega)).mono ?_;rintro e w4 ⟨v4,rfl,o4,k4⟩;go_wp2;go_ret;exact⟨_,rfl,by rw[HE.out];exact o4.base_le (by omega),(k1.trans k2).trans k4⟩
theorem specTalesCount_any (w:World)(v:Value)(dss:List (List Dd))(h:RdW w v dss)(hx:dss.length≤1048576)(hm:∀i,i<dss.length→(dss.getD i []).length≤1048576):
  Calls Tryz.prog 79 #[v] w fun e w'=>e = .returned (.int .i64 (tcB dss))∧Keep w w':=by
 have C:=specWorkOk_any w v dss h hx hm;cases hb:workB dss
 ·
  have HE:Hid (tcB dss=-1):=Lib.hid (by rw[tcB,hb];rfl);rw[hb] at C;go_enter Tryz.func79,Tryz.ntmps79
  go_wp2_with fail
  refine C.mono ?_;rintro e w1 ⟨rfl,k1⟩;go_wp2;go_ret;exact⟨by rw[HE.out];rfl,k1⟩
 ·
  have HE:Hid (tcB dss=cntB dss*rcntB dss):=Lib.hid (by rw[tcB,if_pos hb]);have c1:=cnt_six hb;have c2:=rcnt_six hb;have c3:=tcB_in dss;rw[HE.out] at c3;have HW:Hid (IntKind.i64.wrap (cntB dss*rcntB dss)=cntB dss*rcntB dss):=Lib.hid (by rw[IntKind.wrap_i64];omega);rw[hb] at C;have CS:=fun (W:World) (kW:Keep w W)=>specSourcesCount_any W v dss (h.keep kW) hx hm
  have CR:=fun (W:World) (kW:Keep w W)=>specRowsCount_any W v dss (h.keep kW) hx hm
  generalize cntB dss=m1 at *;generalize rcntB dss=m2 at *;have hw:=HW.out;clear c3;go_enter Tryz.func79,Tryz.ntmps79
  go_wp2_with fail
  refine C.mono ?_;rintro e w1 ⟨rfl,k1⟩;go_wp2_with fail
  refine (CS _ k1).mono ?_;rintro e w2 ⟨rfl,k2⟩;go_wp2_with fail
  refine (CR _ (k1.trans k2)).mono ?_;rintro e w3 ⟨rfl,k3⟩;go_wp2;go_ret;exact⟨by rw[HE.out];rfl,(k1.trans k2).trans k3⟩
theorem own_nilT (w:World)(base:Nat):Own w base nilV []:=World.ownsRow_nil _ _ _ _
theorem specTaleAt_own (w:World)(v:Value)(dss:List (List Dd))(n:Int)(h:RdW w v dss)(hx:dss.length≤1048576)(hm:∀i,i<dss.length→(dss.getD i []).length≤1048576):
    Calls Tryz.prog 80 #[v,.int .i64 n] w fun e w'=>∃vF vR,e = .returned (.tuple #[.agg #[vF,vR],.bool (taB dss n)])∧Own w' w.heap.size vF (tfB dss n)∧Own w' w.heap.size vR (trB dss n)∧(vF.ownBlock=none∨vF.ownBlock≠vR.ownBlock)∧Keep w w':=by
  have CT:=fun (W:World) (kW:Keep w W)=>specTalesCount_any W v dss (h.keep kW) hx hm
  by_cases h0:n<0
  · have HA:Hid (taB dss n=false):=Lib.hid (by unfold taB;simp;omega)
    have HF:Hid (tfB dss n=[]):=Lib.hid (by rw[tfB,HA.out];rfl);have HR:Hid (trB dss n=[]):=Lib.hid (by rw[trB,HA.out];rfl);go_enter Tryz.func80,Tryz.ntmps80
    have hS:StT w (w.alloc (taleC nilV nilV)) w.heap.size nilV nilV:=StT.start _ _;obtain⟨r0,r1⟩:=hS.cells;have g0:=hS.free 0;have g1:=hS.free 1;go_wp2;have hZ:=hS;refine bodyPost_ret (results_row_tmp (by rfl) _ _ w.heap.size _ _ (0,0) _ (.bool false) rfl hZ.1 rfl Tryz.underlying27 rfl (by kernel_rfl)) rfl ?_;exact⟨nilV,nilV,by rw[HA.out],by rw[HF.out];exact own_nilT _ _,by rw[HR.out];exact own_nilT _ _,.inl rfl,hZ.keep1⟩
  have h0':0≤n:=by omega
  have hcb:=tcB_in dss;by_cases h1:tcB dss≤n
  · have HA:Hid (taB dss n=false):=Lib.hid (by unfold taB;simp;omega)
    have HF:Hid (tfB dss n=[]):=Lib.hid (by rw[tfB,HA.out];rfl);have HR:Hid (trB dss n=[]):=Lib.hid (by rw[trB,HA.out];rfl);generalize tcB dss=m at CT h1 hcb;go_enter Tryz.func80,Tryz.ntmps80
    go_wp2_with fail
    refine (CT _ ((Keep.refl w).alloc _)).mono ?_;rintro e w1 ⟨rfl,k1⟩;have hS:StT w w1 w.heap.size nilV nilV:=(StT.start _ _).keep k1;obtain⟨r0,r1⟩:=hS.cells;have g0:=hS.free 0;have g1:=hS.free 1;go_wp2;have hZ:=(hS.set0 nilV).set1 nilV;refine bodyPost_ret (results_row_tmp (by rfl) _ _ w.heap.size _ _ (0,0) _ (.bool false) rfl hZ.1 rfl Tryz.underlying27 rfl (by kernel_rfl)) rfl ?_;exact⟨nilV,nilV,by rw[HA.out],by rw[HF.out];exact own_nilT _ _,by rw[HR.out];exact own_nilT _ _,.inl rfl,hZ.keep1⟩
  · have ht:taB dss n=true:=by unfold taB;simp;omega
    obtain⟨hb,hpos,-⟩:=tale_at ht;have hrb:=(rcnt_six hb).2;have HA:=Lib.hid ht;have HF:Hid (tfB dss n=atB dss (n / rcntB dss)):=Lib.hid (by rw[tfB,ht];rfl);have HR:Hid (trB dss n=ratB dss (n % rcntB dss)):=Lib.hid (by rw[trB,ht];rfl);have CR:=fun (W:World) (kW:Keep w W)=>specRowsCount_any W v dss (h.keep kW) hx hm
    have CA:=fun (W:World) (kW:Keep w W) (q:Int)=>specSourceAt_own W v dss q (h.keep kW) hx hm
    have CB:=fun (W:World) (kW:Keep w W) (q:Int)=>specRowsAt_own W v dss q (h.keep kW) hx hm
    generalize tcB dss=m at CT h1 hcb;generalize rcntB dss=k at CR HF HR hpos hrb;have q1:n.tdiv k=n / k:=by rw[Int.tdiv_eq_ediv];simp[h0']
    have q2:n.tmod k=n % k:=by rw[Int.tmod_eq_emod];simp[h0']
    have h1':n<m:=by omega
    have ne:k≠0:=by omega
    have qb:=Int.ediv_nonneg h0' (by omega:0≤k);have qc:n / k≤n:=Int.ediv_le_self _ h0';have qd:=Int.emod_nonneg n ne;have qe:=Int.emod_lt_of_pos n hpos;have qw:IntKind.i64.wrap (n / k)=n / k:=by rw[IntKind.wrap_i64];omega
    have qx:IntKind.i64.wrap (n % k)=n % k:=by rw[IntKind.wrap_i64];omega
    clear ht hb;go_enter Tryz.func80,Tryz.ntmps80
    go_wp2_with fail
    refine (CT _ ((Keep.refl w).alloc _)).mono ?_;rintro e w1 ⟨rfl,k1⟩;have K1:=((Keep.refl w).alloc _).trans k1;go_wp2_with fail
    refine (CR _ K1).mono ?_;rintro e w2 ⟨rfl,k2⟩;have hS:StT w w2 w.heap.size nilV nilV:=(StT.start _ _).keep (k1.trans k2);have K2:=K1.trans k2;clear k1 k2 K1 CT CR;have z2:=hS.size;go_wp2_with fail
    go_region_law ((first
      | (go_simp
         refine (CA _ K2.drew (n / k)).mono ?_
         rintro e w3 ⟨vF,rfl,oF,k3⟩)
      | (go_simp
         refine (CB _ (K2.drew.trans k3) (n % k)).mono ?_;rintro e w4 ⟨vR,rfl,oR,k4⟩;obtain⟨aF,cF,hvF⟩:=oF.shp;subst hvF;obtain⟨aR,cR,hvR⟩:=oR.shp;subst hvR;have hS4:StT w w4 w.heap.size nilV nilV:=hS.keep (((Keep.refl w2).drew.trans k3).trans k4);obtain⟨r0,r1⟩:=hS4.cells;have g0:=hS4.free 0
         have g1:=hS4.free 1)))
    all_goals
      go_wp2;have hZ:=(hS4.set0 (.slice aF (atB dss (n / k)).length cF)).set1 (.slice aR (ratB dss (n % k)).length cR);refine bodyPost_ret (results_row_tmp (by rfl) _ _ w.heap.size _ _ (0,0) _ (.bool true) rfl hZ.1 rfl Tryz.underlying27 rfl (by kernel_rfl)) rfl ?_;have s3:=k3.size;have oF4:=oF.keep k4;have gg:∀x y:Value,w4.grownBy ((w4.setCell ⟨w.heap.size,0,none⟩ x).setCell ⟨w.heap.size,1,none⟩ y) (some w.heap.size):=fun x y=>grown_trans (grown_setT _ _ _ _) (grown_setT _ _ _ _)
      exact⟨_,_,by rw[HA.out],by rw[HF.out];exact (oF4.other z2 (gg _ _)).base_le (Nat.le_of_lt z2),by rw[HR.out];exact (oR.other (Nat.lt_of_lt_of_le z2 s3) (gg _ _)).base_le (by have:=Nat.lt_of_lt_of_le z2 s3;omega),oF.apart oR,hZ.keep1⟩
end Go.Proofs.YtgikcfdckddgpaaGreat
