/- Gathered texts. -/
import Derived.Lib.Hide
import Derived.Test.YtgikcfdckddgpaaGreatMN
import Derived.Deep.Cut
set_option maxRecDepth 100000
set_option maxHeartbeats 8000000
namespace Go.Proofs.YtgikcfdckddgpaaGreat
open Go.ChangeShapes Go.WideShapes Go.ChangeAt Go.RowKit
theorem l1Max_any (w:World)(a b:Int):
  Calls Tryz.prog 161 #[.int .i64 a,.int .i64 b] w fun e w'=>e = .returned (.int .i64 (max a b))∧w'=w:=by
 by_cases h:b<a
 ·
  have HE:Hid (max a b=a):=Lib.hid (by omega);go_enter Tryz.func161,Tryz.ntmps161
  go_wp2;go_ret;exact⟨by rw[HE.out];rfl,rfl⟩
 ·
  have HE:Hid (max a b=b):=Lib.hid (by omega);have h':a≤b:=by omega
  go_enter Tryz.func161,Tryz.ntmps161
  go_wp2;go_ret;exact⟨by rw[HE.out];rfl,rfl⟩
theorem own_kept {w w':World}{base:Nat}{row:Option Nat}{v:Value}{zs:List Int}(h:Own w base v zs)(hg:w.grownBy w' row)(hr:∀g,row=some g→g<base):Own w' base v zs:=
 h.kept hg (by
  cases hu:v.ownBlock with
  |none=>exact .inl rfl
  |some k=>exact .inr (fun e=>by have:=h.ge k hu;have:=hr k e.symm;omega))
theorem blk_kept {w w':World}{D:Nat}{row:Option Nat}{o:Obj}(h:w.heap[D]? = some o)(hg:w.grownBy w' row)(hr:row≠some D):w'.heap[D]? = some o:=
 (hg.block D (Array.getElem?_eq_some_iff.1 h).1 hr.symm).trans h
theorem l10Draw_any (w:World)(B c:Nat)(hc:Cur w B c):
  Calls Tryz.prog 143 #[.pointer (some ⟨c,0,none⟩)] w fun e w'=>∃v vF vR dss f r bs N,e = .returned (.tuple #[v,.agg #[vF,vR]])∧RdXN w' bs N v dss∧(dss.length≤6∧∀i,i<dss.length→(dss.getD i []).length≤7)∧Own w' N vF f∧Own w' N vR r∧(vF.ownBlock=none∨vF.ownBlock≠vR.ownBlock)∧(f.length≤12∧r.length≤36)∧(w.heap.size<bs∧bs≤N∧N≤w'.heap.size)∧Dr w w' B c:=by
 have hcl:=hc.lt;have hB:=hc.1;have D0:Dr w (w.alloc (taleC nilV nilV)) B c:=(Dr.refl hc).alloc _;have H0:(w.alloc (taleC nilV nilV)).heap[w.heap.size]? = some (taleC nilV nilV):=heap_alloc_new w _;have s0:(w.alloc (taleC nilV nilV)).heap.size=w.heap.size+1:=heap_size _ _;go_enter Tryz.func143,Tryz.ntmps143
 go_wp2_with fail
 refine (l5DrawAny_any _ B c D0.1).mono ?_;rintro e w1 ⟨v,dss,rfl,hR,hS,E1⟩;rw[s0] at hR;have H1:=blk_kept H0 E1.2 (by simp;omega);have D1:=D0.trans E1;have s1:=E1.2.size;rw[s0] at s1;clear D0 H0 E1 s0;have l1:dss.length≤1048576:=by have:=hS.1;omega
 have l2:∀i,i<dss.length→(dss.getD i []).length≤1048576:=fun i hi=>by have:=hS.2 i hi;omega
 have HS:=Lib.hid hS;have L2:=Lib.hid l2;clear hS l2;have hcb:=tcB_in dss;go_wp2_with fail
 refine (specTalesCount_any _ _ _ hR.rd l1 L2.out).mono ?_;rintro e w2 ⟨rfl,k2⟩;have R2:=hR.keep k2;have D2:=D1.keepQ k2;have H2:=blk_kept H1 k2.grownBy (by simp);have s2:=k2.size;clear hR D1 H1 k2;generalize tcB dss=m at hcb;go_wp2_with fail
 refine (l1Max_any _ _ _).mono ?_;rintro e w3 ⟨rfl,rfl⟩;generalize hM:max 1 m=M;have M0:0<M:=by omega
 have M1:M≤198359290368000:=by omega
 clear hM hcb;go_wp2_with fail
 refine (below_any _ B c _ D2.1 (by omega)).mono ?_;rintro e w4 ⟨x,rfl,x0,x1,c4,g4⟩;have R4:=(R2.kept g4 (by omega)).upto;have RD4:=(R2.kept g4 (by omega)).rd;have D4:=D2.step c4 g4;have H4:=blk_kept H2 g4 (by simp;omega);have s4:=g4.size;clear R2 D2 H2 c4 g4;go_wp2_with fail
 refine (specTaleAt_own _ _ _ x RD4 l1 L2.out).mono ?_;rintro e w5 ⟨vF,vR,rfl,oF,oR,ap,k5⟩;have R5:=R4.kept k5.grownBy (by simp);have D5:=D4.keepQ k5;have H5:=blk_kept H4 k5.grownBy (by simp);have s5:=k5.size;have lf:(tfB dss x).length≤12:=by unfold tfB;split;exact atB_len _ _;simp
 have lr:(trB dss x).length≤36:=by unfold trB;split;exact ratB_len _ _;simp
 clear R4 RD4 D4 H4 k5;generalize tfB dss x=f at oF lf;generalize trB dss x=r at oR lr;generalize taB dss x=bb;obtain⟨aF,cF,rfl⟩:=oF.shp;obtain⟨aR,cR,rfl⟩:=oR.shp;go_upto_region 3 with fail
 obtain⟨w6,hw6⟩:∃W:World,W=w5.alloc (taleC (.slice aF f.length cF) (.slice aR r.length cR)):=⟨_,rfl⟩;have e0:w6.cell? ⟨w5.heap.size,0,none⟩=some (.slice aF f.length cF):=by rw[hw6];exact box_cell (Keep.refl _) 0
 have e1:w6.cell? ⟨w5.heap.size,1,none⟩=some (.slice aR r.length cR):=by rw[hw6];exact box_cell (Keep.refl _) 1
 have k6:Keep w5 w6:=by rw[hw6];exact (Keep.refl _).alloc _
 have s6:=k6.size;rw[←hw6];clear hw6;have R6:=R5.kept k6.grownBy (by simp);have D6:=D5.keepQ k6;have F6:=oF.keep k6;have O6:=oR.keep k6;have S6:StT w6 w6 w.heap.size nilV nilV:=⟨blk_kept H5 k6.grownBy (by simp),grown_drewN w6 0 _⟩;clear R5 D5 H5 oF oR k6;obtain⟨r0,r1⟩:=S6.cells;have g0:=S6.free 0;have g1:=S6.free 1;have HR6:=Lib.hid R6;clear R6;go_wp2;go_region
 all_goals
  go_wp2;have hZ:=((S6.keep (Keep.refl w6).drew).set0 (.slice aF f.length cF)).set1 (.slice aR r.length cR);refine bodyPost_ret (results_tmp_row (by rfl) _ _ w.heap.size _ _ (0,0) _ v rfl hZ.1 rfl Tryz.underlying27 rfl (by kernel_rfl)) rfl ?_;exact⟨v,_,_,dss,f,r,w.heap.size+1,w4.heap.size,rfl,HR6.out.kept hZ.2 (by intro g hg;simp at hg;omega),HS.out,own_kept F6 hZ.2 (by intro g hg;simp at hg;omega),own_kept O6 hZ.2 (by intro g hg;simp at hg;omega),ap,⟨lf,lr⟩,⟨by omega,by omega,Nat.le_trans (by omega:w4.heap.size≤w6.heap.size) hZ.2.size⟩,D6.grow hZ.2 (by intro g hg;simp at hg;omega) hcl hB⟩
theorem l10DrawAny_any (w:World)(B c:Nat)(hc:Cur w B c):
  Calls Tryz.prog 92 #[.pointer (some ⟨c,0,none⟩)] w fun e w'=>∃v vF vR dss f r bs N,e = .returned (.tuple #[v,.agg #[vF,vR]])∧RdXN w' bs N v dss∧(dss.length≤6∧∀i,i<dss.length→(dss.getD i []).length≤7)∧Own w' N vF f∧Own w' N vR r∧(f.length≤13∧r.length≤36)∧(w.heap.size<bs∧bs≤N)∧Dr w w' B c:=by
 have hcl:=hc.lt;have hB:=hc.1;obtain⟨i0,hi,hz0,hz1,hz2⟩:=info_parts Tryz.infoI;have D0:Dr w (w.alloc (taleC nilV nilV)) B c:=(Dr.refl hc).alloc _;have H0:(w.alloc (taleC nilV nilV)).heap[w.heap.size]? = some (taleC nilV nilV):=heap_alloc_new w _;have s0:(w.alloc (taleC nilV nilV)).heap.size=w.heap.size+1:=heap_size _ _;go_enter Tryz.func92,Tryz.ntmps92
 go_wp2_with fail
 refine (l10Draw_any _ B c D0.1).mono ?_;rintro e w1 ⟨v,vF,vR,dss,f,r,bs,N,rfl,hR,hS,oF,oR,ap,⟨lf,lr⟩,⟨b1,b2,b3⟩,E1⟩;rw[s0] at b1;have H1:=blk_kept H0 E1.2 (by simp;omega);have D1:=D0.trans E1;have s1:=E1.2.size;rw[s0] at s1;clear D0 H0 E1 s0;have HS:=Lib.hid hS;clear hS;obtain⟨aF,cF,rfl⟩:=oF.shp;obtain⟨aR,cR,rfl⟩:=oR.shp;have neF:(Value.slice aF f.length cF).ownBlock≠some w1.heap.size:=fun e=>by have:=(World.ownsRow.lt oF _ e).2;omega
 have neR:(Value.slice aR r.length cR).ownBlock≠some w1.heap.size:=fun e=>by have:=(World.ownsRow.lt oR _ e).2;omega
 go_upto_region 2 with fail
 obtain⟨w2,hw2⟩:∃W:World,W=w1.alloc (taleC (.slice aF f.length cF) (.slice aR r.length cR)):=⟨_,rfl⟩;have X2:w2.heap[w1.heap.size]? = some (taleC (.slice aF f.length cF) (.slice aR r.length cR)):=by rw[hw2];exact heap_alloc_new w1 _
 have k2:Keep w1 w2:=by rw[hw2];exact (Keep.refl _).alloc _
 rw[←hw2];clear hw2;have R2:=hR.kept k2.grownBy (by simp);have D2:=D1.keepQ k2;have H2:=blk_kept H1 k2.grownBy (by simp);have F2:=oF.keep k2;have O2:=oR.keep k2;have s2:=k2.size;clear hR D1 H1 oF oR k2;generalize hE:w1.heap.size=E at *;have HE:=Lib.hid hE;clear hE;go_wp2_with fail
 refine (once_any _ B c _ D2.1 (by omega)).mono ?_;rintro e w3 ⟨b,rfl,c3,g3⟩;have R3:=R2.kept g3 (by intro g hg;simp at hg;omega);have D3:=D2.step c3 g3;have H3:=blk_kept H2 g3 (by simp;omega);have X3:=blk_kept X2 g3 (by simp;omega);have F3:=own_kept F2 g3 (by intro g hg;simp at hg;omega);have O3:=own_kept O2 g3 (by intro g hg;simp at hg;omega);have s3:=g3.size;clear R2 D2 H2 X2 F2 O2 c3 g3;go_upto_if 12 with fail
 go_cut [] from 6 (fun wx=>∃vF' vR' f' r',wx.heap[E]? = some (taleC vF' vR')∧wx.heap[w.heap.size]? = some (taleC nilV nilV)∧RdXN wx bs N v dss∧Own wx N vF' f'∧Own wx N vR' r'∧(f'.length≤13∧r'.length≤36)∧Dr w wx B c)
 case first=>
  have HR3:=Lib.hid R3;have HF3:=Lib.hid F3;have HO3:=Lib.hid O3;clear R3 F3 O3;cases b
  ·
   go_wp2;go_meet;case rel=>exact⟨_,_,f,r,X3,H3,HR3.out,HF3.out,HO3.out,⟨by omega,lr⟩,D3⟩
  ·
   go_wp2_with fail
   refine (below_any _ B c _ D3.1 (by omega)).mono ?_;rintro e w4 ⟨x,rfl,x0,x1,c4,g4⟩;have R4:=HR3.out.kept g4 (by intro g hg;simp at hg;omega);have D4:=D3.step c4 g4;have H4:=blk_kept H3 g4 (by simp;omega);have X4:=blk_kept X3 g4 (by simp;omega);have F4:=own_kept HF3.out g4 (by intro g hg;simp at hg;omega);have O4:=own_kept HO3.out g4 (by intro g hg;simp at hg;omega);have s4:=g4.size;clear HR3 D3 H3 X3 HF3 HO3 c4 g4;have S4:StT w4 w4 E (.slice aF f.length cF) (.slice aR r.length cR):=⟨X4,grown_drewN w4 0 _⟩;obtain⟨t0,t1⟩:=S4.cells;have g0:=S4.free 0;have g1:=S4.free 1;have HR4:=Lib.hid R4;have HO4:=Lib.hid O4;clear R4;rcases (show x=0∨x=1 by omega) with rfl|rfl
   ·
    have X4a:=blk_kept X4 (World.grownBy_alloc w4 (.cells #[.int .i64 0] 2) none) (by simp);have H4a:=blk_kept H4 (World.grownBy_alloc w4 (.cells #[.int .i64 0] 2) none) (by simp);have R4a:=HR4.out.kept (World.grownBy_alloc w4 (.cells #[.int .i64 0] 2) none) (by simp);have O4a:=HO4.out.kept (World.grownBy_alloc w4 (.cells #[.int .i64 0] 2) none) (by cases (Value.slice aR r.length cR).ownBlock<;>simp);have D4a:=D4.alloc (.cells #[.int .i64 0] 2);have hge:∀j,(Value.slice aF f.length cF).ownBlock=some j→N≤j:=F4.ge;have HRa:=Lib.hid R4a;have HOa:=Lib.hid O4a;clear R4a O4a HR4 HO4 O4;go_wp2_with (at_builtin;refine wpList_append_own_at _ rfl _ _ 25 rfl N 2 i0 (.int .i64 0) 1 8 Tryz.underlying25 hi hz0 hz1 hz2 rfl (by decide) _ _ _ rfl (World.ownsRow.alloc F4 _) ⟨_,0,none⟩ 1 1 [.int .i64 0] rfl rfl (by intro j u hj;match j,hj with|0,hj=>simp at hj;subst hj;simp[Addr.add]) (by intro u hu;simp at hu;subst hu;rfl) (by unfold maxLen;omega) (by omega) (by rw[heap_size];omega) ?_;intro v' w5 hown' hgrow _ hblk;have o5:Own w5 N v' (f++[0]):=own_hit hown';have X5:=blk_kept X4a hgrow neF;have S5:StT w5 w5 E (.slice aF f.length cF) (.slice aR r.length cR):=⟨X5,grown_drewN w5 0 _⟩;obtain⟨y0,y1⟩:=S5.cells;have f0:=S5.free 0;have f1:=S5.free 1;obtain⟨a5,c5,hv5⟩:=o5.shp;subst hv5)
    have hgr:(w4.alloc (.cells #[.int .i64 0] 2)).grownBy w5 (Value.slice aF f.length cF).ownBlock:=hgrow;have hbl:(Value.slice a5 (f++[0]).length c5).ownBlock=(Value.slice aF f.length cF).ownBlock∨(Value.slice a5 (f++[0]).length c5).ownBlock=some (w4.alloc (.cells #[.int .i64 0] 2)).heap.size:=hblk;rw[heap_size] at hbl
    have apR:(Value.slice aR r.length cR).ownBlock=none∨(Value.slice aR r.length cR).ownBlock≠(Value.slice aF f.length cF).ownBlock:=by
     rcases ap with e|e
     ·
      cases hu:(Value.slice aR r.length cR).ownBlock with
      |none=>exact .inl rfl
      |some k=>exact .inr (by rw[e];simp)
     · exact .inr (fun h=>e h.symm)
    clear hgrow hblk
    have ne5:(Value.slice a5 (f++[0]).length c5).ownBlock≠some E:=fun e=>by
     rcases hbl with h|h
     · exact neF (h ▸ e)
     · rw[e] at h;have:=Option.some.inj h;omega
    have hZ:=S5.set0 (.slice a5 (f++[0]).length c5);have R5:=HRa.out.kept hgr (fun g hg => .inr (hge g hg));have H5:=blk_kept H4a hgr (fun e=>by have:=hge _ e;omega);have O5:=HOa.out.kept hgr apR;have D5:=D4a.grow hgr (fun k hk=>by have:=hge k hk;omega) hcl hB;have HR5:=Lib.hid (R5.kept hZ.2 (by intro g hg;simp at hg;omega));have HH5:=Lib.hid (blk_kept H5 hZ.2 (by simp;omega));have HF5:=Lib.hid (o5.kept hZ.2 (.inr ne5));have HO5:=Lib.hid (O5.kept hZ.2 (.inr neR));have HD5:=Lib.hid (D5.grow hZ.2 (by intro g hg;simp at hg;omega) hcl hB);have HZ:=Lib.hid hZ.1;have el:(f++[0]).length=f.length+1:=by simp
    rw[el] at HZ HH5 HR5 HF5 HO5 HD5;clear hown' hgr hbl R5 H5 O5 D5 o5 hZ el;go_wp2;go_meet;case rel=>exact⟨_,_,f++[0],r,HZ.out,HH5.out,HR5.out,HF5.out,HO5.out,⟨by rw[List.length_append];simp;omega,lr⟩,HD5.out⟩
   ·
    by_cases hl:1<r.length
    ·
     obtain⟨g,hg⟩:∃g,aR=some ⟨g,0,none⟩:=by
      rcases O4.2 with ⟨e,hz⟩|⟨g,cap,cur,e,_⟩
      · omega
      ·
       simp only[Value.slice.injEq] at e;exact⟨g,e.1⟩
     subst hg;have hge:N≤g:=O4.ge g rfl;have hgE:g≠E:=fun e=>neR (by rw[←e];rfl)
     have hRA:=O4.rowAt;have fr:=hRA.free 0;have q0:=hRA.cell (j:=0) (by omega);have q1:=hRA.cell (j:=1) hl;have hl1:(1:Int)<(r.length:Int):=by omega
     have hl0:(0:Int)<(r.length:Int):=by omega
     obtain⟨y,hy⟩:∃y,y=r.getD 1 0:=⟨_,rfl⟩;rw[←hy] at q1;clear hy;have GS:w4.grownBy (w4.drew.setCell ⟨g,0,none⟩ (.int .i64 y)) (some g):=grown_trans (grown_drew w4 (some g)) (grown_set _ g 0 _);have HR5:=Lib.hid (HR4.out.kept GS (by intro k hk;simp at hk;omega));have HH5:=Lib.hid (blk_kept H4 GS (by simp;omega));have HX5:=Lib.hid (blk_kept X4 GS (by simp;omega))
     have HF5:=Lib.hid (F4.kept GS (by
      rcases ap with e|e
      · exact .inl e
      · exact .inr e))
     have HO5:=Lib.hid ((HO4.out.keep (Keep.refl w4).drew).setAt 0 y);have HD5:=Lib.hid (D4.grow GS (by intro k hk;simp at hk;omega) hcl hB);clear hRA GS O4 F4 D4;go_wp2;go_region
     all_goals
      go_wp2;go_meet;case rel=>exact⟨_,_,f,r.set 0 y,HX5.out,HH5.out,HR5.out,HF5.out,HO5.out,⟨by omega,by rw[List.length_set];exact lr⟩,HD5.out⟩
    ·
     have hl1:¬((1:Int)<(r.length:Int)):=by omega
     go_wp2;go_meet;case rel=>exact⟨_,_,f,r,X4,H4,HR4.out,F4,HO4.out,⟨by omega,lr⟩,D4⟩
 case rest=>
  clear R3 D3 H3 X3 F3 O3;obtain⟨vF',vR',f',r',X,H,R,F,O,⟨lf',lr'⟩,DD⟩:=hcut;obtain⟨aF',cF',rfl⟩:=F.shp;obtain⟨aR',cR',rfl⟩:=O.shp;have S6:StT wc wc w.heap.size nilV nilV:=⟨H,grown_drewN wc 0 _⟩;have e0:wc.cell? ⟨E,0,none⟩=some (.slice aF' f'.length cF'):=cell_of_row wc E 0 _ _ (0,0) X;have e1:wc.cell? ⟨E,1,none⟩=some (.slice aR' r'.length cR'):=cell_of_row wc E 1 _ _ (0,0) X;obtain⟨r0,r1⟩:=S6.cells;have g0:=S6.free 0;have g1:=S6.free 1;have HR6:=Lib.hid R;have HF:=Lib.hid F;have HO:=Lib.hid O;clear R F O;go_wp2;go_region
  all_goals
   go_wp2;have hZ:=((S6.keep (Keep.refl wc).drew).set0 (.slice aF' f'.length cF')).set1 (.slice aR' r'.length cR');refine bodyPost_ret (results_tmp_row (by rfl) _ _ w.heap.size _ _ (0,0) _ v rfl hZ.1 rfl Tryz.underlying27 rfl (by kernel_rfl)) rfl ?_;exact⟨v,_,_,dss,f',r',bs,N,rfl,HR6.out.kept hZ.2 (by intro g hg;simp at hg;omega),HS.out,own_kept HF.out hZ.2 (by intro g hg;simp at hg;omega),own_kept HO.out hZ.2 (by intro g hg;simp at hg;omega),⟨lf',lr'⟩,⟨by omega,b2⟩,DD.grow hZ.2 (by intro g hg;simp at hg;omega) hcl hB⟩
theorem drawTaleOk_any (w:World)(a:Option Addr)(cap:Nat)(zs:List Int)(hb:RdB w w.heap.size a zs):
  Calls Tryz.prog 50 #[.slice a zs.length cap] w fun e w'=>∃v vF vR dss f r bs N,e = .returned (.tuple #[v,.agg #[vF,vR]])∧RdXN w' bs N v dss∧(dss.length≤6∧∀i,i<dss.length→(dss.getD i []).length≤7)∧Own w' N vF f∧Own w' N vR r∧(f.length≤13∧r.length≤36)∧(w.heap.size<bs∧bs≤N)∧Keep w w':=by
 have k0:Keep w (w.alloc (taleC nilV nilV)):=(Keep.refl w).alloc _;have s0:(w.alloc (taleC nilV nilV)).heap.size=w.heap.size+1:=heap_size _ _;have H0:(w.alloc (taleC nilV nilV)).heap[w.heap.size]? = some (taleC nilV nilV):=heap_alloc_new w _;have hb0:RdB (w.alloc (taleC nilV nilV)) (w.alloc (taleC nilV nilV)).heap.size a zs:=RdB.up hb k0;go_enter Tryz.func50,Tryz.ntmps50
 go_wp2_with fail
 refine (new_any _ a cap zs hb0).mono ?_;rintro e w1 ⟨rfl,c1,k1⟩;have H1:=blk_kept H0 k1.grownBy (by simp);have s1:=k1.size;rw[s0] at c1 s1;go_wp2_with fail
 refine (l10DrawAny_any _ _ _ c1).mono ?_;rintro e w2 ⟨v,vF,vR,dss,f,r,bs,N,rfl,hR,hs,hF,hO,hl,hbs,D2⟩;have H2:=blk_kept H1 D2.2 (by simp);have K2:=D2.newQ (k0.trans k1) (by omega);obtain⟨aF,cF,rfl⟩:=hF.shp;obtain⟨aR,cR,rfl⟩:=hO.shp;have S6:StT w2 w2 w.heap.size nilV nilV:=⟨H2,grown_drewN w2 0 _⟩;obtain⟨r0,r1⟩:=S6.cells;have g0:=S6.free 0;have g1:=S6.free 1;have hZ:=(S6.set0 (.slice aF f.length cF)).set1 (.slice aR r.length cR);have HR:=Lib.hid (hR.kept hZ.2 (by intro g hg;simp at hg;omega));have HF:=Lib.hid (own_kept hF hZ.2 (by intro g hg;simp at hg;omega));have HO:=Lib.hid (own_kept hO hZ.2 (by intro g hg;simp at hg;omega));have HK:=Lib.hid (K2.grown hZ.2 (by intro g hg;simp at hg;omega));have HS:=Lib.hid hs;have HL:=Lib.hid hl;have HB:=Lib.hid hbs;have HZ:=Lib.hid hZ.1;clear hR hs hF hO D2 H0 H1 H2 K2 k0 k1 s0 hb0 hl hbs hZ S6;go_wp2;refine bodyPost_ret (results_tmp_row (by rfl) _ _ w.heap.size _ _ (0,0) _ v rfl HZ.out rfl Tryz.underlying27 rfl (by kernel_rfl)) rfl ?_;exact⟨v,_,_,dss,f,r,bs,N,rfl,HR.out,HS.out,HF.out,HO.out,HL.out,⟨by have:=HB.out.1;omega,HB.out.2⟩,HK.out⟩
end Go.Proofs.YtgikcfdckddgpaaGreat
