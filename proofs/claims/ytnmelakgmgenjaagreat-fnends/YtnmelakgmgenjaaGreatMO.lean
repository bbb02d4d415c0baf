/- Gathered texts. -/
import Derived.Test.YtnmelakgmgenjaaGreatMN
import Derived.Deep.Cut
import Derived.Lib.Hide
import Derived.BigRegion
import Derived.Deep.RegionLaw
import Derived.RegionTactic
set_option maxRecDepth 100000
set_option maxHeartbeats 8000000
namespace Go.Proofs.YtnmelakgmgenjaaGreat
open Go.ChangeShapes Go.WideShapes Go.ChangeAt Go.RowKit
theorem Yu (w:World)(B g:Nat)(lo hi:Int)(hc:Lj w B g)(h0:-1099511627776<=lo)(h1:lo<=hi)(h2:hi<=1099511627776):
  Calls Tryz.prog 106 #[.pointer (some ⟨g,0,none⟩),.int .i64 lo,.int .i64 hi] w fun e w'=>∃x,e = .returned (.int .i64 x)/\lo<=x/\x<=hi/\Lj w' B g/\w.grownBy w' (some g):=by
 go_enter Tryz.func106,Tryz.ntmps106
 go_wp2_with fail
 refine (BO _ B g _ hc (by omega)).mono ?_;rintro e w1 ⟨x,rfl,x0,x1,c1,g1⟩;go_wp2;go_ret;exact⟨_,rfl,by omega,by omega,c1,g1⟩
abbrev Dl (k p v g:Int):Obj:= .cells #[.int .i64 k,.int .i64 p,.int .i64 v,.int .i64 g] 65
def Fl (w:World)(D:Nat)(k p v g:Int):Prop:=w.heap[D]? = some (Dl k p v g)
theorem Fl.lt {w:World}{D:Nat}{k p v g:Int}(h:Fl w D k p v g):D<w.heap.size:=(Array.getElem?_eq_some_iff.1 h).1
theorem Fl.kept {w w':World}{D:Nat}{k p v g:Int}{row:Option Nat}(h:Fl w D k p v g)(hg:w.grownBy w' row)(hne:row≠some D):Fl w' D k p v g:=
 (hg.block D h.lt (fun e=>hne e.symm)).trans h
theorem Fl.cells {w:World}{D:Nat}{k p v g:Int}(h:Fl w D k p v g):
  w.cell? ⟨D,0,none⟩=some (.int .i64 k)/\w.cell? ⟨D,1,none⟩=some (.int .i64 p)/\w.cell? ⟨D,2,none⟩=some (.int .i64 v)/\w.cell? ⟨D,3,none⟩=some (.int .i64 g):=
 ⟨cell_of_row w D 0 _ _ (0,0) h,cell_of_row w D 1 _ _ (0,0) h,cell_of_row w D 2 _ _ (0,0) h,cell_of_row w D 3 _ _ (0,0) h⟩
theorem Fl.free {w:World}{D:Nat}{k p v g:Int}(h:Fl w D k p v g):w.frozen? ⟨D,0,none⟩=false/\w.frozen? ⟨D,1,none⟩=false/\w.frozen? ⟨D,2,none⟩=false/\w.frozen? ⟨D,3,none⟩=false:=
 ⟨frozen_of_row w D 0 _ _ h,frozen_of_row w D 1 _ _ h,frozen_of_row w D 2 _ _ h,frozen_of_row w D 3 _ _ h⟩
theorem Fl.set0 {w:World}{D:Nat}{k p v g:Int}(h:Fl w D k p v g)(x:Int):Fl (w.setCell ⟨D,0,none⟩ (.int .i64 x)) D x p v g:=by unfold Fl;rw[heap_setCell_same w D 0 _ _ _ h];rfl
theorem Fl.set1 {w:World}{D:Nat}{k p v g:Int}(h:Fl w D k p v g)(x:Int):Fl (w.setCell ⟨D,1,none⟩ (.int .i64 x)) D k x v g:=by unfold Fl;rw[heap_setCell_same w D 1 _ _ _ h];rfl
theorem Fl.set2 {w:World}{D:Nat}{k p v g:Int}(h:Fl w D k p v g)(x:Int):Fl (w.setCell ⟨D,2,none⟩ (.int .i64 x)) D k p x g:=by unfold Fl;rw[heap_setCell_same w D 2 _ _ _ h];rfl
theorem Fl.set3 {w:World}{D:Nat}{k p v g:Int}(h:Fl w D k p v g)(x:Int):Fl (w.setCell ⟨D,3,none⟩ (.int .i64 x)) D k p v x:=by unfold Fl;rw[heap_setCell_same w D 3 _ _ _ h];rfl
theorem Fl.new (w:World)(k p v g:Int):Fl (w.alloc (Dl k p v g)) w.heap.size k p v g:=heap_alloc_new w _
def Dr (w wr:World)(B c:Nat):Prop:=Lj wr B c/\w.grownBy wr (some c)
theorem Dr.step {w wr wr':World}{B c:Nat}(h:Dr w wr B c)(hc:Lj wr' B c)(hg:wr.grownBy wr' (some c)):Dr w wr' B c:=⟨hc,BF h.2 hg⟩
theorem Dr.alloc {w wr:World}{B c:Nat}(h:Dr w wr B c)(o:Obj):Dr w (wr.alloc o) B c:=
 ⟨h.1.keep ((AC.refl wr).alloc o),BF h.2 (World.grownBy_alloc wr o (some c))⟩
theorem Dr.set {w wr:World}{B c D:Nat}(h:Dr w wr B c)(hD:w.heap.size<=D)(hc:c<w.heap.size)(hB:B<=c)(j:Nat)(x:Value):Dr w (wr.setCell ⟨D,j,none⟩ x) B c:=by
 have hg:=Av wr D j x;refine⟨h.1.kept hg (by simp;omega) (by intro k hk;simp at hk;omega),?_⟩;exact⟨hg.os.trans h.2.os,hg.tape.trans h.2.tape,hg.output.trans h.2.output,Nat.le_trans h.2.size hg.size,fun i hi hne=>(hg.block i (Nat.lt_of_lt_of_le hi h.2.size) (by simp;omega)).trans (h.2.block i hi hne)⟩
theorem Dr.refl {w:World}{B c:Nat}(h:Lj w B c):Dr w w B c:=⟨h,EX w 0 _⟩
theorem M9 (w:World)(B c:Nat)(hc:Lj w B c):
  Calls Tryz.prog 105 #[.pointer (some ⟨c,0,none⟩)] w fun e w'=>∃k p v g,e = .returned (Fr k p v g)/\Dr w w' B c/\1<=k/\k<=4:=by
 have hcl:=hc.lt;have hB:=hc.1;have R0:=Fl.new w 0 0 0 0;have D0:=(Dr.refl hc).alloc (Dl 0 0 0 0);go_enter Tryz.func105,Tryz.ntmps105
 go_wp2_with fail
 refine (BO _ B c _ D0.1 (by omega)).mono ?_;rintro e w1 ⟨x,rfl,x0,x1,c1,g1⟩;have R1:=R0.kept g1 (by simp;omega);have D1:=D0.step c1 g1;clear R0 D0 c1 g1;go_wp2_with fail
 refine (BO _ B c _ D1.1 (by omega)).mono ?_;rintro e w2 ⟨y,rfl,y0,y1,c2,g2⟩;have R2:=R1.kept g2 (by simp;omega);have D2:=D1.step c2 g2;have S2:=D2.2.size;clear R1 D1 c2 g2;have X2:=Fl.new w2 (1+x) y 0 0;have R2':=R2.kept (World.grownBy_alloc w2 (Dl (1+x) y 0 0) none) (by simp);have D2':=D2.alloc (Dl (1+x) y 0 0);have hRX:w.heap.size<w2.heap.size:=R2.lt;clear R2 D2;go_wp2_with fail
 refine (Fd _ B c _ D2'.1 (by omega)).mono ?_;rintro e w3 ⟨b,rfl,c3,g3⟩;have X3:=X2.kept g3 (by simp;omega);have R3:=R2'.kept g3 (by simp;omega);have D3:=D2'.step c3 g3;clear X2 R2' D2' c3 g3;obtain⟨s0,s1,s2,s3⟩:=X3.cells;obtain⟨f0,f1,f2,f3⟩:=X3.free;have hX3:=X3.lt;go_upto_if 11 with fail
 go_cut [] from 4 (fun wx=>∃K,1<=K/\K<=4/\Fl wx w2.heap.size K y 0 0/\Fl wx w.heap.size 0 0 0 0/\Dr w wx B c)
 case first=>
  cases b
  ·
   go_wp2;go_meet;case rel=>exact⟨_,by omega,by omega,X3,R3,D3⟩
  ·
   go_wp2_with fail
   refine (BO _ B c _ D3.1 (by omega)).mono ?_;rintro e w4 ⟨z,rfl,z0,z1,c4,g4⟩;have X4:=X3.kept g4 (by simp;omega);have R4:=R3.kept g4 (by simp;omega);have D4:=D3.step c4 g4;obtain⟨t0,t1,t2,t3⟩:=X4.cells;obtain⟨h0,h1,h2,h3⟩:=X4.free;have hX4:=X4.lt;go_wp2;go_meet;case rel=>exact⟨_,by omega,by omega,X4.set0 _,R4.kept (Av w4 _ 0 _) (by simp;omega),D4.set (by omega) hcl hB 0 _⟩
 case rest=>
  obtain⟨K,k0,k1,X4,R4,D4⟩:=hcut;clear X3 R3 D3 s0 s1 s2 s3 f0 f1 f2 f3 hX3;obtain⟨t0,t1,t2,t3⟩:=X4.cells;obtain⟨h0,h1,h2,h3⟩:=X4.free;have hX4:=X4.lt;have hK:K=1\/K=2\/K=3\/K=4:=by omega
  rcases hK with rfl|rfl|rfl|rfl
  ·
   clear k0 k1;obtain⟨r0,r1,r2,r3⟩:=R4.cells;obtain⟨q0,q1,q2,q3⟩:=R4.free;go_wp2;have hZ:=(((R4.set0 1).set1 y).set2 0).set3 0;refine bodyPost_ret (BU (by rfl) _ _ w.heap.size _ _ (0,0) _ rfl hZ Tryz.underlying65 rfl (by kernel_rfl)) rfl ?_;exact⟨_,_,_,_,rfl,(((D4.set (Nat.le_refl _) hcl hB 0 _).set (Nat.le_refl _) hcl hB 1 _).set (Nat.le_refl _) hcl hB 2 _).set (Nat.le_refl _) hcl hB 3 _,by decide,by decide⟩
  ·
   clear k0 k1;go_wp2_with fail
   refine (BO _ B c _ D4.1 (by omega)).mono ?_;rintro e w5 ⟨z,rfl,z0,z1,c5,g5⟩;have X5:=X4.kept g5 (by simp;omega);have R5:=R4.kept g5 (by simp;omega);have D5:=D4.step c5 g5;obtain⟨v0,v1,v2,v3⟩:=X5.cells;obtain⟨n0,n1,n2,n3⟩:=X5.free;have hX5:=X5.lt;have R6:=R5.kept (Av w5 w2.heap.size 2 (.int .i64 (1+z))) (by simp;omega);have D6:=D5.set (show w.heap.size<=w2.heap.size by omega) hcl hB 2 (.int .i64 (1+z));obtain⟨r0,r1,r2,r3⟩:=R6.cells;obtain⟨q0,q1,q2,q3⟩:=R6.free;go_wp2;have hZ:=(((R6.set0 2).set1 y).set2 (1+z)).set3 0;refine bodyPost_ret (BU (by rfl) _ _ w.heap.size _ _ (0,0) _ rfl hZ Tryz.underlying65 rfl (by kernel_rfl)) rfl ?_;exact⟨_,_,_,_,rfl,(((D6.set (Nat.le_refl _) hcl hB 0 _).set (Nat.le_refl _) hcl hB 1 _).set (Nat.le_refl _) hcl hB 2 _).set (Nat.le_refl _) hcl hB 3 _,by decide,by decide⟩
  ·
   clear k0 k1;go_wp2_with fail
   refine (BO _ B c _ D4.1 (by omega)).mono ?_;rintro e w5 ⟨z,rfl,z0,z1,c5,g5⟩;have X5:=X4.kept g5 (by simp;omega);have R5:=R4.kept g5 (by simp;omega);have D5:=D4.step c5 g5;obtain⟨v0,v1,v2,v3⟩:=X5.cells;obtain⟨n0,n1,n2,n3⟩:=X5.free;have hX5:=X5.lt;have R6:=R5.kept (Av w5 w2.heap.size 2 (.int .i64 (1+z))) (by simp;omega);have D6:=D5.set (show w.heap.size<=w2.heap.size by omega) hcl hB 2 (.int .i64 (1+z));obtain⟨r0,r1,r2,r3⟩:=R6.cells;obtain⟨q0,q1,q2,q3⟩:=R6.free;go_wp2;have hZ:=(((R6.set0 3).set1 y).set2 (1+z)).set3 0;refine bodyPost_ret (BU (by rfl) _ _ w.heap.size _ _ (0,0) _ rfl hZ Tryz.underlying65 rfl (by kernel_rfl)) rfl ?_;exact⟨_,_,_,_,rfl,(((D6.set (Nat.le_refl _) hcl hB 0 _).set (Nat.le_refl _) hcl hB 1 _).set (Nat.le_refl _) hcl hB 2 _).set (Nat.le_refl _) hcl hB 3 _,by decide,by decide⟩
  ·
   clear k0 k1;have R6:=R4.kept (Av wc w2.heap.size 1 (.int .i64 0)) (by simp;omega);have D6:=D4.set (show w.heap.size<=w2.heap.size by omega) hcl hB 1 (.int .i64 0);obtain⟨r0,r1,r2,r3⟩:=R6.cells;obtain⟨q0,q1,q2,q3⟩:=R6.free;go_wp2;have hZ:=(((R6.set0 4).set1 0).set2 0).set3 0;refine bodyPost_ret (BU (by rfl) _ _ w.heap.size _ _ (0,0) _ rfl hZ Tryz.underlying65 rfl (by kernel_rfl)) rfl ?_;exact⟨_,_,_,_,rfl,(((D6.set (Nat.le_refl _) hcl hB 0 _).set (Nat.le_refl _) hcl hB 1 _).set (Nat.le_refl _) hcl hB 2 _).set (Nat.le_refl _) hcl hB 3 _,by decide,by decide⟩
theorem N4 (w:World)(B c:Nat)(hc:Lj w B c):
  Calls Tryz.prog 74 #[.pointer (some ⟨c,0,none⟩)] w fun e w'=>∃k p v g,e = .returned (Fr k p v g)/\Dr w w' B c:=by
 have hcl:=hc.lt;have hB:=hc.1;have R0:=Fl.new w 0 0 0 0;have D0:=(Dr.refl hc).alloc (Dl 0 0 0 0);go_enter Tryz.func74,Tryz.ntmps74
 go_wp2_with fail
 refine (M9 _ B c D0.1).mono ?_;rintro e w1 ⟨k,p,v,g,rfl,⟨c1,g1⟩,-,-⟩;have R1:=R0.kept g1 (by simp;omega);have D1:=D0.step c1 g1;clear R0 D0 c1 g1;have hRX:w.heap.size<w1.heap.size:=R1.lt;have X2:=Fl.new w1 k p v g;have R2:=R1.kept (World.grownBy_alloc w1 (Dl k p v g) none) (by simp);have D2:=D1.alloc (Dl k p v g);clear R1 D1;obtain⟨W2,hW2⟩:∃W2,W2=w1.alloc (Dl k p v g):=⟨_,rfl⟩;go_upto_region 2 with fail
 go_cut [12] from 4 (fun s12 wx=>∃b,s12 = .bool b/\Fl wx w1.heap.size k p v g/\Fl wx w.heap.size 0 0 0 0/\Dr w wx B c)
 case first=>
  clear hW2;by_cases hk:k<=2
  ·
   go_wp2_with fail
   refine (Fd _ B c _ D2.1 (by omega)).mono ?_;rintro e w3 ⟨b,rfl,c3,g3⟩;go_wp2;go_meet;case rel=>exact⟨_,rfl,X2.kept g3 (by simp;omega),R2.kept g3 (by simp;omega),D2.step c3 g3⟩
  ·
   go_wp2;go_meet;case rel=>exact⟨_,rfl,X2,R2,D2⟩
 case rest=>
  obtain⟨b,rfl,X3,R3,D3⟩:=hcut;clear X2 R2 D2 hW2;go_upto_if 12 with fail
  go_cut [] from 4 (fun wx=>∃g,Fl wx w1.heap.size k p v g/\Fl wx w.heap.size 0 0 0 0/\Dr w wx B c)
  case first=>
   cases b
   ·
    go_wp2;go_meet;case rel=>exact⟨_,X3,R3,D3⟩
   ·
    go_wp2_with fail
    refine (BO _ B c _ D3.1 (by omega)).mono ?_;rintro e w4 ⟨z,rfl,z0,z1,c4,g4⟩;have X4:=X3.kept g4 (by simp;omega);have R4:=R3.kept g4 (by simp;omega);have D4:=D3.step c4 g4;obtain⟨t0,t1,t2,t3⟩:=X4.cells;obtain⟨h0,h1,h2,h3⟩:=X4.free;have hX4:=X4.lt;go_wp2;go_meet;case rel=>exact⟨_,X4.set3 _,R4.kept (Av w4 _ 3 _) (by simp;omega),D4.set (by omega) hcl hB 3 _⟩
  case rest=>
   clear X3 R3 D3;obtain⟨g,X3,R3,D3⟩:=hcut;go_wp2_with fail
   refine (Fd _ B c _ D3.1 (by omega)).mono ?_;rintro e w4 ⟨b,rfl,c4,g4⟩;have X4:=X3.kept g4 (by simp;omega);have R4:=R3.kept g4 (by simp;omega);have D4:=D3.step c4 g4;clear X3 R3 D3 c4 g4;go_upto_if 18 with fail
   go_cut [] from 4 (fun wx=>∃k p v g,Fl wx w1.heap.size k p v g/\Fl wx w.heap.size 0 0 0 0/\Dr w wx B c)
   case first=>
    cases b
    ·
     go_wp2;go_meet;case rel=>exact⟨_,_,_,_,X4,R4,D4⟩
    go_wp2_with fail
    refine (BO _ B c _ D4.1 (by omega)).mono ?_;rintro e w5 ⟨q,rfl,q0,q1,c5,g5⟩;have X5:=X4.kept g5 (by simp;omega);have R5:=R4.kept g5 (by simp;omega);have D5:=D4.step c5 g5;have hX5:=X5.lt;clear X4 R4 D4 c5 g5;have hq:q=0\/q=1\/q=2\/q=3:=by omega
    clear q0 q1;rcases hq with rfl|rfl|rfl|rfl
    ·
     go_wp2_with fail
     refine (Yu _ B c _ _ D5.1 (by omega) (by omega) (by omega)).mono ?_;rintro e w6 ⟨z,rfl,z0,z1,c6,g6⟩;have X6:=X5.kept g6 (by simp;omega);have R6:=R5.kept g6 (by simp;omega);have D6:=D5.step c6 g6;obtain⟨v0,v1,v2,v3⟩:=X6.cells;obtain⟨n0,n1,n2,n3⟩:=X6.free;have hX6:=X6.lt;go_wp2;go_meet;case rel=>exact⟨_,_,_,_,X6.set0 _,R6.kept (Av w6 _ 0 _) (by simp;omega),D6.set (by omega) hcl hB 0 _⟩
    ·
     have DL:=D5.alloc (.cells #[.int .i64 (-1),.int .i64 2,.int .i64 3] 2);have XL:=X5.kept (World.grownBy_alloc w5 (.cells #[.int .i64 (-1),.int .i64 2,.int .i64 3] 2) none) (by simp);have RL:=R5.kept (World.grownBy_alloc w5 (.cells #[.int .i64 (-1),.int .i64 2,.int .i64 3] 2) none) (by simp);have hSz:=AD w5 (.cells #[.int .i64 (-1),.int .i64 2,.int .i64 3] 2);go_wp2_with fail
     refine (BO _ B c _ DL.1 (by omega)).mono ?_;rintro e w6 ⟨z,rfl,z0,z1,c6,g6⟩;obtain⟨zn,rfl⟩:=Int.eq_ofNat_of_zero_le z0;obtain⟨y,hy⟩:=QU (w1:=w5) (e:=2) [-1,2,3] g6 (by simp;omega) zn (by simp;omega);have hS6:w5.heap.size<w6.heap.size:=by have:=g6.size;omega
     have X6:=XL.kept g6 (by simp;omega);have R6:=RL.kept g6 (by simp;omega);have D6:=DL.step c6 g6;clear DL XL RL hSz c6 g6;obtain⟨v0,v1,v2,v3⟩:=X6.cells;obtain⟨n0,n1,n2,n3⟩:=X6.free;have hX6:=X6.lt;go_wp2;go_meet;case rel=>exact⟨_,_,_,_,X6.set1 _,R6.kept (Av w6 _ 1 _) (by simp;omega),D6.set (by omega) hcl hB 1 _⟩
    ·
     have DL:=D5.alloc (.cells #[.int .i64 (-1),.int .i64 0,.int .i64 9,.int .i64 10] 2);have XL:=X5.kept (World.grownBy_alloc w5 (.cells #[.int .i64 (-1),.int .i64 0,.int .i64 9,.int .i64 10] 2) none) (by simp);have RL:=R5.kept (World.grownBy_alloc w5 (.cells #[.int .i64 (-1),.int .i64 0,.int .i64 9,.int .i64 10] 2) none) (by simp);have hSz:=AD w5 (.cells #[.int .i64 (-1),.int .i64 0,.int .i64 9,.int .i64 10] 2);go_wp2_with fail
     refine (BO _ B c _ DL.1 (by omega)).mono ?_;rintro e w6 ⟨z,rfl,z0,z1,c6,g6⟩;obtain⟨zn,rfl⟩:=Int.eq_ofNat_of_zero_le z0;obtain⟨y,hy⟩:=QU (w1:=w5) (e:=2) [-1,0,9,10] g6 (by simp;omega) zn (by simp;omega);have hS6:w5.heap.size<w6.heap.size:=by have:=g6.size;omega
     have X6:=XL.kept g6 (by simp;omega);have R6:=RL.kept g6 (by simp;omega);have D6:=DL.step c6 g6;clear DL XL RL hSz c6 g6;obtain⟨v0,v1,v2,v3⟩:=X6.cells;obtain⟨n0,n1,n2,n3⟩:=X6.free;have hX6:=X6.lt;go_wp2;go_meet;case rel=>exact⟨_,_,_,_,X6.set2 _,R6.kept (Av w6 _ 2 _) (by simp;omega),D6.set (by omega) hcl hB 2 _⟩
    ·
     have DL:=D5.alloc (.cells #[.int .i64 (-1),.int .i64 9,.int .i64 10] 2);have XL:=X5.kept (World.grownBy_alloc w5 (.cells #[.int .i64 (-1),.int .i64 9,.int .i64 10] 2) none) (by simp);have RL:=R5.kept (World.grownBy_alloc w5 (.cells #[.int .i64 (-1),.int .i64 9,.int .i64 10] 2) none) (by simp);have hSz:=AD w5 (.cells #[.int .i64 (-1),.int .i64 9,.int .i64 10] 2);go_wp2_with fail
     refine (BO _ B c _ DL.1 (by omega)).mono ?_;rintro e w6 ⟨z,rfl,z0,z1,c6,g6⟩;obtain⟨zn,rfl⟩:=Int.eq_ofNat_of_zero_le z0;obtain⟨y,hy⟩:=QU (w1:=w5) (e:=2) [-1,9,10] g6 (by simp;omega) zn (by simp;omega);have hS6:w5.heap.size<w6.heap.size:=by have:=g6.size;omega
     have X6:=XL.kept g6 (by simp;omega);have R6:=RL.kept g6 (by simp;omega);have D6:=DL.step c6 g6;clear DL XL RL hSz c6 g6;obtain⟨v0,v1,v2,v3⟩:=X6.cells;obtain⟨n0,n1,n2,n3⟩:=X6.free;have hX6:=X6.lt;go_wp2;go_meet;case rel=>exact⟨_,_,_,_,X6.set3 _,R6.kept (Av w6 _ 3 _) (by simp;omega),D6.set (by omega) hcl hB 3 _⟩
   case rest=>
    clear X4 R4 D4;obtain⟨k,p,v,g,X4,R4,D4⟩:=hcut;obtain⟨t0,t1,t2,t3⟩:=X4.cells;have hX4:=X4.lt;obtain⟨r0,r1,r2,r3⟩:=R4.cells;obtain⟨q0,q1,q2,q3⟩:=R4.free;go_wp2;have hZ:=(((R4.set0 k).set1 p).set2 v).set3 g;refine bodyPost_ret (BU (by rfl) _ _ w.heap.size _ _ (0,0) _ rfl hZ Tryz.underlying65 rfl (by kernel_rfl)) rfl ?_;exact⟨_,_,_,_,rfl,(((D4.set (Nat.le_refl _) hcl hB 0 _).set (Nat.le_refl _) hcl hB 1 _).set (Nat.le_refl _) hcl hB 2 _).set (Nat.le_refl _) hcl hB 3 _⟩
theorem Bs (w:World)(cs:Array Value)(t:TypeId)(n i:Nat)(hn:n=w.heap.size):(w.alloc (.cells cs t)).cell? ⟨n,0+i,none⟩=cs[i]?:=by
 subst hn;rw[Nat.zero_add,cell_of_row _ w.heap.size i _ _ (0,0) (heap_alloc_new w _)]
theorem Dr.grow {w wr w':World}{B c:Nat}{row:Option Nat}(h:Dr w wr B c)(hg:wr.grownBy w' row)(hr:∀k,row=some k->w.heap.size<=k)(hc:c<w.heap.size)(hB:B<=c):Dr w w' B c:=by
 refine⟨h.1.kept hg (fun e=>by have:=hr c e;omega) (fun k hk=>by have:=hr k hk;omega),?_⟩;exact⟨hg.os.trans h.2.os,hg.tape.trans h.2.tape,hg.output.trans h.2.output,Nat.le_trans h.2.size hg.size,fun i hi hne=>(hg.block i (Nat.lt_of_lt_of_le hi h.2.size) (fun e=>by have:=hr i e.symm;omega)).trans (h.2.block i hi hne)⟩
theorem Dr.trans {a b d:World}{B c:Nat}(h:Dr a b B c)(k:Dr b d B c):Dr a d B c:=⟨k.1,BF h.2 k.2⟩
theorem Br.at {w:World}{base:Nat}{v:Value}{ds:List Dd}(h:Br w base v ds)(hn:0<ds.length):
  ∃g c,v = .slice (some ⟨g,0,none⟩) ds.length c/\base<=g/\g<w.heap.size/\(∀i,i<ds.length->af w g (i*4) (ds.getD i zD))/\∀i,w.frozen? ⟨g,i,none⟩=false:=by
 obtain⟨a,c,rfl,r⟩:=h.SX;rcases r with r|⟨g,rfl,hb,hB,hA⟩
 . rw[r] at hn;simp at hn
 . exact⟨g,_,rfl,hb,hB.lt,hA,hB.free⟩
theorem Br.cells {w:World}{base g n c:Nat}{ds:List Dd}(h:Br w base (.slice (some ⟨g,0,none⟩) n c) ds){i:Nat}(hi:i<ds.length):af w g (i*4) (ds.getD i zD)/\w.frozen? ⟨g,i*4+3,none⟩=false/\g<w.heap.size:=by
 obtain⟨g',c',e,_,hg,hA,hF⟩:=h.at (by omega);simp only[Value.slice.injEq,Option.some.injEq,Addr.mk.injEq,and_true] at e;obtain⟨rfl,_,_⟩:=e;exact⟨hA i hi,hF _,hg⟩
theorem CU.cellAt {w:World}{base N g n c:Nat}{V:Nat->Value}{AA:List (List Dd)}(h:CU w base N (.slice (some ⟨g,0,none⟩) n c) V AA){i:Nat}(hi:i<AA.length):w.cell? ⟨g,i,none⟩=some (V i)/\g<w.heap.size:=by
 obtain⟨g',c',e,_,_,hg,_,hC,_⟩:=h.at (by omega);simp only[Value.slice.injEq,Option.some.injEq,Addr.mk.injEq,and_true] at e;obtain⟨rfl,_,_⟩:=e;exact⟨hC i hi,hg⟩
theorem ZR {AA:List (List Dd)}{L:List Dd}(h:∀i,i<AA.length->(AA.getD i []).length<=4)(hL:L.length<=4):∀i,i<(AA++[L]).length->((AA++[L]).getD i []).length<=4:=by
 intro i hi;by_cases e:i<AA.length
 . rw[Ie AA [L] i [] e];exact h i e
 ·
  have:i=AA.length:=by simp at hi;omega
  subst this;rw[Ow];exact hL
theorem gu {n k:Nat}{Ov:List (List Dd)}{ds:List Dd}(hk:k<Ov.length)(h:∀i,i<n->(Ov.getD i []).length<=4)(hd:ds.length<=4):∀i,i<n->((Ov.set k ds).getD i []).length<=4:=by
 intro i hi;rw[GS Ov k i ds [] hk];split
 . exact hd
 . exact h i hi
theorem TH (w:World):CU (w.alloc (.cells #[] 62)) w.heap.size (w.alloc (.cells #[] 62)).heap.size (.slice (some ⟨w.heap.size,0,none⟩) 0 0) (fun _=>vZ) []:=
 ⟨World.ownsRow_lit w #[] 0 (Nat.le_refl _) (by decide) rfl,fun k hk=>by simp[Value.ownBlock] at hk;rw[AD];omega,by simp,by simp,by simp,by simp⟩
theorem RU (w:World):Br (w.alloc (.cells #[] 65)) w.heap.size (.slice (some ⟨w.heap.size,0,none⟩) 0 0) []:=
 World.ownsRow_lit w #[] 0 (Nat.le_refl _) (by decide) rfl
theorem Tn (w:World)(B c:Nat)(hc:Lj w B c):
  Calls Tryz.prog 72 #[.pointer (some ⟨c,0,none⟩)] w fun e w'=>∃v V AA,e = .returned v/\CU w' w.heap.size w'.heap.size v V AA/\1<=AA.length/\AA.length<=3/\(∀i,i<AA.length->(AA.getD i []).length<=4)/\Dr w w' B c:=by
 have hcl:=hc.lt;have hB:=hc.1;obtain⟨i0,hi,hz0,hz1,hz2⟩:=info_parts Tryz.jX;obtain⟨j0,hj,hy0,hy1,hy2⟩:=info_parts Tryz.ZC;have a0:=TH w;have D0:=(Dr.refl hc).alloc (.cells #[] 62);go_enter Tryz.func72,Tryz.ntmps72
 go_wp2_with fail
 refine (BO _ B c _ D0.1 (by omega)).mono ?_;rintro e w1 ⟨x,rfl,x0,x1,c1,g1⟩;have a1:=(a0.kept g1 hcl).up g1.size;have D1:=D0.step c1 g1;obtain⟨n0,rfl⟩:=Int.eq_ofNat_of_zero_le x0;clear a0 D0 c1 g1 x0;go_wp2;go_loopw [3,4,5,6] (fun x e4 e5 i wr=>∃(r de:Nat) (ev:Int) (V:Nat->Value) (AA:List (List Dd)),i = .int .i64 r/\e4 = .int .i64 ev/\e5 = .int .i64 de/\0<=ev/\ev<=6/\de<=12/\1<=AA.length+r/\AA.length+r<=3/\CU wr w.heap.size wr.heap.size x V AA/\Hid (∀i,i<AA.length->(AA.getD i []).length<=4)/\Dr w wr B c) (fun _ _ _ i _=>(intOf i).toNat)
 case atStart=>exact⟨1+n0,0,0,_,[],by go_num,rfl,rfl,by omega,by omega,by omega,by simp,by simp;omega,a1,Lib.hid (by simp),D1⟩
 case round=>
  obtain⟨r,de,ev,V,AA,rfl,rfl,rfl,e0,e6,d12,r1,r3,hX,hL4,hD⟩:=hrel;clear a1 D1;by_cases hr0:r=0
  ·
   have hr:(r:Int)<=0:=by omega
   have hrd:decide (0<r)=false:=by simp[hr0]
   have n1:1<=AA.length:=by omega
   have n3:AA.length<=3:=by omega
   clear hr0 r1 r3;obtain⟨g,cx,rfl,hgb,hgN,hgw,hcx,hcell,-⟩:=hX.at (by omega);go_wp2;obtain⟨wo,hwo⟩:∃wo:World,wo=wr:=⟨_,rfl⟩;subst hwo;clear hcell;go_loopw [11] (fun i wr=>∃(k:Nat),k<=AA.length/\i = .int .i64 k/\Hid (∃ess:List (List Dd),ess.length<=AA.length/\AA.length<=ess.length/\Hid (∀i,i<AA.length->(ess.getD i []).length<=4)/\CU wr w.heap.size wo.heap.size (.slice (some ⟨g,0,none⟩) AA.length cx) V ess/\wo.heap.size<=wr.heap.size/\Dr w wr B c)) (fun i _=>AA.length-(intOf i).toNat)
   case atStart=>exact⟨0,Nat.zero_le _,rfl,Lib.hid ⟨AA,Nat.le_refl _,Nat.le_refl _,hL4,hX,Nat.le_refl _,hD⟩⟩
   case round=>
    obtain⟨k,hk,rfl,hH⟩:=hrel;clear hD;obtain⟨ess,el1,el2,hE4,hY,hsz,hD⟩:=hH.out;clear hH;by_cases hlt:k<AA.length
    ·
     have hEk:=hE4.out k hlt;have hAk:=hY.each k (by omega);obtain⟨d1,hgw2⟩:=hY.cellAt (i:=k) (by omega);obtain⟨a5,c5,rH⟩:=hAk.shape;have HLk:Hid (∀q,q=(ess.getD k []).length->(ess.getD k []).length=q):=Lib.hid (fun q h=>h.symm);obtain⟨lk,hlk⟩:∃lk,lk=(ess.getD k []).length:=⟨_,rfl⟩;have HL2:=Lib.hid hlk;rw[<-hlk] at rH hEk;rw[rH] at d1;clear hlk HLk;have i1:(0:Int)<=(k:Int):=Int.natCast_nonneg _;have i2:(k:Int)<(AA.length:Int):=by omega
     by_cases h1:1<lk
     ·
      obtain⟨gk,ck,e1,hgk,-⟩:=hAk.at (by rw[<-HL2.out];omega);rw[rH] at e1;simp only[Value.slice.injEq] at e1;obtain⟨rfl,-,-⟩:=e1;have HV:=Lib.hid rH;clear rH hAk;have h1i:(1:Int)<(lk:Int):=by omega
      go_wp2_with fail
      refine (Fd _ B c _ hD.1 (by omega)).mono ?_;rintro e w2 ⟨b,rfl,c2,g2⟩;have hY2:=hY.kept g2 hcl;have hD2:=hD.step c2 g2;have hsz2:=Nat.le_trans hsz g2.size;clear hY hD hsz c2 g2 d1 hgw2;cases b
      ·
       go_wp2;go_roundw;case rel=>exact⟨k+1,by omega,by go_num,Lib.hid ⟨ess,el1,el2,hE4,hY2,hsz2,hD2⟩⟩
       case measure=>simp[intOf];omega
      ·
       have hw1:IntKind.i64.wrap ((lk:Int)-1)=(lk:Int)-1:=by rw[IntKind.wrap_i64];omega
       go_wp2_with fail
       refine (BO _ B c _ hD2.1 (by omega)).mono ?_;rintro e w3 ⟨x,rfl,x0,x2,c3,g3⟩;have hY3:=hY2.kept g3 hcl;have hD3:=hD2.step c3 g3;have hsz3:=Nat.le_trans hsz2 g3.size;obtain⟨f,rfl⟩:=Int.eq_ofNat_of_zero_le x0;clear hY2 hD2 hsz2 c3 g3 x0;go_wp2;go_loopw [14] (fun i wq=>∃(q:Nat),q<=lk/\i = .int .i64 q/\Hid (∃Ov:List (List Dd),Ov.length<=AA.length/\AA.length<=Ov.length/\Hid (∀i,i<AA.length->(Ov.getD i []).length<=4)/\Hid ((Ov.getD k []).length=lk)/\CU wq w.heap.size wo.heap.size (.slice (some ⟨g,0,none⟩) AA.length cx) V Ov/\wo.heap.size<=wq.heap.size/\Dr w wq B c)) (fun i _=>lk-(intOf i).toNat)
       case atStart=>exact⟨f,by omega,rfl,Lib.hid ⟨ess,el1,el2,hE4,Lib.hid HL2.out.symm,hY3,hsz3,hD3⟩⟩
       case round=>
        obtain⟨q,hq,rfl,hH⟩:=hrel;obtain⟨Ov,l1,l2,h4,hlk,hY,hsz,hD⟩:=hH.out;clear hY3 hD3 hsz3 hH;by_cases l9:q<lk
        ·
         go_wp2_with fail
         refine (BO _ B c _ hD.1 (by omega)).mono ?_;rintro e w4 ⟨z,rfl,z0,z2,c4,g4⟩;have hY:=hY.kept g4 hcl;have hD:=hD.step c4 g4;have hsz:=Nat.le_trans hsz g4.size;clear c4 g4;by_cases hz:(q:Int)<(f:Int)+2+z
         ·
          obtain⟨d1,hgw2⟩:=hY.cellAt (i:=k) (by omega);have hAk:=hY.each k (by omega);rw[HV.out] at d1 hAk;obtain⟨AT,fr,hgk2⟩:=hAk.cells (i:=q) (by rw[hlk.out];exact l9);obtain⟨A0,-,-,A3⟩:=AT;generalize ((Ov.getD k []).getD q zD).1=x0 at A0;generalize ((Ov.getD k []).getD q zD).2.2.2=x3 at A3;have j1:(0:Int)<=(q:Int):=Int.natCast_nonneg _;have j2:(q:Int)<(lk:Int):=by omega
          by_cases hx:2<x0
          ·
           go_wp2;go_roundw;case rel=>exact⟨k+1,by omega,by go_num,Lib.hid ⟨Ov,l1,l2,h4,hY,hsz,hD⟩⟩
           case measure=>simp[intOf];omega
          ·
           have hx':x0<=2:=by omega
           obtain⟨es,he,hY5⟩:=hY.put (i:=k) (k:=q) (by omega) HV.out (by rw[hlk.out];exact l9) ((k:Int)+1);have hD5:=hD.set hgk hcl hB (q*4+3) (.int .i64 ((k:Int)+1));have H4:Hid (∀i,i<AA.length->((Ov.set k es).getD i []).length<=4):=Lib.hid (gu (by omega) h4.out (by rw[he];exact h4.out k hlt));have HK:Hid (((Ov.set k es).getD k []).length=lk):=Lib.hid (by rw[GS Ov k k es [] (by omega),if_pos rfl,he,hlk.out]);clear hx hAk;go_wp2;go_roundw;case rel=>exact⟨q+1,by omega,by go_num,Lib.hid ⟨Ov.set k es,by rw[List.length_set];exact l1,by rw[List.length_set];exact l2,H4,HK,hY5,by simpa using hsz,hD5⟩⟩
           case measure=>simp[intOf];omega
         ·
          have hz':(f:Int)+2+z<=(q:Int):=by omega
          go_wp2;go_roundw;case rel=>exact⟨k+1,by omega,by go_num,Lib.hid ⟨Ov,l1,l2,h4,hY,hsz,hD⟩⟩
          case measure=>simp[intOf];omega
        ·
         have hql':(lk:Int)<=(q:Int):=by omega
         go_wp2;go_roundw;case rel=>exact⟨k+1,by omega,by go_num,Lib.hid ⟨Ov,l1,l2,h4,hY,hsz,hD⟩⟩
         case measure=>simp[intOf];omega
     ·
      have h1i:(lk:Int)<=1:=by omega
      go_wp2;go_roundw;case rel=>exact⟨k+1,by omega,by go_num,Lib.hid ⟨ess,el1,el2,hE4,hY,hsz,hD⟩⟩
      case measure=>simp[intOf];omega
    ·
     obtain rfl:k=AA.length:=by omega
     go_wp2;go_ret;exact⟨_,_,ess,rfl,hY.up hsz,by omega,by omega,fun i hi=>hE4.out i (by omega),hD⟩
  ·
   obtain⟨r',rfl⟩:∃r':Nat,r=r'+1:=⟨r-1,by omega⟩;clear hr0;have ad0:=RU wr;have hcw:c<wr.heap.size:=Nat.lt_of_lt_of_le hcl hD.2.size;have D2:=(Dr.refl hD.1).alloc (.cells #[] 65);go_wp2_with fail
   refine (BO _ B c _ D2.1 (by omega)).mono ?_;rintro e w2 ⟨y,rfl,y0,y1,c2,g2⟩;have ad2:=ad0.kept g2 (GV ad0.ge hcw);have D3:=D2.step c2 g2;obtain⟨m0,rfl⟩:=Int.eq_ofNat_of_zero_le y0;clear ad0 D2 c2 g2 y0;go_wp2;obtain⟨wo,hwo⟩:∃wo:World,wo=wr:=⟨_,rfl⟩;subst hwo;go_loopw [4,5,7,8] (fun e4 e5 y i wq=>∃(m de:Nat) (ev:Int) (L:List Dd),i = .int .i64 m/\e4 = .int .i64 ev/\e5 = .int .i64 de/\0<=ev/\ev<=6/\de<=12/\L.length+m<=4/\Br wq wo.heap.size y L/\Dr wo wq B c) (fun _ _ _ i _=>(intOf i).toNat)
   case atStart=>exact⟨m0,de,ev,[],rfl,rfl,rfl,e0,e6,d12,by simp;omega,ad2,D3⟩
   case round=>
    clear e0 e6 d12;obtain⟨m,de,ev,L,rfl,rfl,rfl,e0,e6,d12,lm,hA,hQ⟩:=hrel;clear ad2 D3;by_cases hm0:m=0
    ·
     have hm:(m:Int)<=0:=by omega
     have hmd:decide (0<m)=false:=by simp[hm0]
     clear hm0;have hX2:=hX.kept hQ.2 hcl;have hLL:=hL4.out;have hsz1:=hD.2.size;have hsz2:=hQ.2.size;have hL4':L.length<=4:=by omega
     obtain⟨a5,c5,rfl⟩:=hA.shape;have hX3:=hX2.keep ((AC.refl wr).alloc (.cells #[.slice a5 L.length c5] 62));have hA3:=hA.keep ((AC.refl wr).alloc (.cells #[.slice a5 L.length c5] 62));have hge:=fun k hk=>(World.ownsRow.lt hX.row k hk).1
     have HP:=Lib.hid (ZR hLL hL4');clear hX2 hLL hA;go_wp2_with (at_builtin;refine wpList_append_own_at _ rfl _ _ 24 rfl w.heap.size 62 j0 (.slice none 0 0) 1 24 Tryz.underlying24 hj hy0 hy1 hy2 rfl (by decide) _ _ _ rfl hX3.row ⟨_,0,none⟩ 1 1 [.slice a5 L.length c5] rfl rfl ?b1 ?b2 ?b3 ?b4 ?b5 ?_)
     case b1=>
      intro j u hj
      match j,hj with
      | 0,hj=>simp at hj;subst hj;simp[Addr.add]
     case b2=>intro u hu;simp at hu;subst hu;rfl
     case b3=>unfold maxLen;first|omega|(simp;omega)
     case b4=>first|omega|(simp;omega)
     case b5=>first|omega|(simp;omega)
     intro v' w5 hown' hgrow _ hblk;have hP:=CU.push hX3 hA3 hsz1 hown' hgrow (by rw[AD];exact hblk) (by rw[AD];omega);have D5:=((hD.trans hQ).alloc _).grow hgrow hge hcl hB;clear hgrow hown' hblk;go_wp2;go_roundw;case rel=>exact⟨r',de,ev,_,AA++[L],by go_num,rfl,rfl,e0,e6,d12,by simp;omega,by simp;omega,hP,HP,D5⟩
     case measure=>simp[intOf]
    ·
     obtain⟨m,rfl⟩:∃m':Nat,m=m'+1:=⟨m-1,by omega⟩;clear hm0;go_wp2_with fail
     refine (M9 _ B c hQ.1).mono ?_;rintro e w4 ⟨kk,p,v,g,rfl,D4',k1,k4⟩;have D4:=hQ.trans D4';have hA4:=hA.kept D4'.2 (GV hA.ge hcw);have hge:=hA.ge;have hsz4:=D4.2.size;obtain⟨a5,c5,rfl⟩:=hA.shape;clear hA hQ D4';have hk:kk=1\/kk=2\/kk=3\/kk=4:=by omega
     clear k1 k4;rcases hk with rfl|rfl|rfl|rfl
     ·
      by_cases hx:6<ev+1
      ·
       go_wp2;go_roundw;case rel=>exact⟨m,de,ev,L,by go_num,rfl,rfl,by omega,by omega,by omega,by omega,hA4.keep (((AC.refl w4).alloc _).alloc _),(D4.alloc _).alloc _⟩
       case measure=>simp[intOf]
      ·
       have hx':ev+1<=6:=by omega
       by_cases hd:de=12
       ·
        have ed:((de:Int)==12)=true:=by simp;omega
        clear hd;go_wp2;go_roundw;case rel=>exact⟨m,de,ev,L,by go_num,rfl,rfl,by omega,by omega,by omega,by omega,hA4.keep (((AC.refl w4).alloc _).alloc _),(D4.alloc _).alloc _⟩
        case measure=>simp[intOf]
       ·
        have ed:((de:Int)==12)=false:=by simp;omega
        have de12:de<12:=by omega
        clear hd;go_wp2_with (at_builtin;refine wpList_append_own_at _ rfl _ _ 62 rfl wo.heap.size 65 i0 (.agg #[.int .i64 0,.int .i64 0,.int .i64 0,.int .i64 0]) 4 32 Tryz.underlying62 hi hz0 hz1 hz2 rfl (by decide) _ _ _ rfl (hA4.keep ((((AC.refl w4).alloc _).alloc _).alloc _)) ⟨_,0,none⟩ 1 1 (cD (1,p,v,g)) rfl rfl ?c1 ?c2 ?c3 ?c4 ?c5 ?_)
        case c1=>
         intro j u hj
         match j,hj with
         | 0,hj=>simp[cD] at hj;subst hj;rw[BS];exact Bs _ _ _ _ 0 (by rw[AD,AD])
         | 1,hj=>simp[cD] at hj;subst hj;rw[BS];exact Bs _ _ _ _ 1 (by rw[AD,AD])
         | 2,hj=>simp[cD] at hj;subst hj;rw[BS];exact Bs _ _ _ _ 2 (by rw[AD,AD])
         | 3,hj=>simp[cD] at hj;subst hj;rw[BS];exact Bs _ _ _ _ 3 (by rw[AD,AD])
         |n+4,hj=>simp[cD] at hj
        case c2=>intro u hu;simp[cD] at hu;rcases hu with rfl|rfl|rfl|rfl<;>rfl
        case c3=>unfold maxLen;first|(simp;done)|omega|(simp;omega)
        case c4=>first|(simp;done)|omega|(simp;omega)
        case c5=>first|(simp;done)|omega|(simp;omega)
        intro v' w5 hown' hgrow _ _;have hA5:Br w5 wo.heap.size v' (L++[(1,p,v,g)]):=Ht hown';have D5:=(((D4.alloc _).alloc _).alloc _).grow hgrow hge hcw hB;clear hgrow hown' hA4;go_wp2;go_roundw;case rel=>exact⟨m,de+1,ev+1,_,by go_num,by go_num,by go_num,by omega,by omega,by omega,by simp;omega,hA5,D5⟩
        case measure=>simp[intOf]
     ·
      by_cases hx:6<ev+1
      ·
       go_wp2;go_roundw;case rel=>exact⟨m,de,ev,L,by go_num,rfl,rfl,by omega,by omega,by omega,by omega,hA4.keep (((AC.refl w4).alloc _).alloc _),(D4.alloc _).alloc _⟩
       case measure=>simp[intOf]
      ·
       have hx':ev+1<=6:=by omega
       by_cases hd:de=12
       ·
        have ed:((de:Int)==12)=true:=by simp;omega
        clear hd;go_wp2;go_roundw;case rel=>exact⟨m,de,ev,L,by go_num,rfl,rfl,by omega,by omega,by omega,by omega,hA4.keep (((AC.refl w4).alloc _).alloc _),(D4.alloc _).alloc _⟩
        case measure=>simp[intOf]
       ·
        have ed:((de:Int)==12)=false:=by simp;omega
        have de12:de<12:=by omega
        clear hd;go_wp2_with (at_builtin;refine wpList_append_own_at _ rfl _ _ 62 rfl wo.heap.size 65 i0 (.agg #[.int .i64 0,.int .i64 0,.int .i64 0,.int .i64 0]) 4 32 Tryz.underlying62 hi hz0 hz1 hz2 rfl (by decide) _ _ _ rfl (hA4.keep ((((AC.refl w4).alloc _).alloc _).alloc _)) ⟨_,0,none⟩ 1 1 (cD (2,p,v,g)) rfl rfl ?c1 ?c2 ?c3 ?c4 ?c5 ?_)
        case c1=>
         intro j u hj
         match j,hj with
         | 0,hj=>simp[cD] at hj;subst hj;rw[BS];exact Bs _ _ _ _ 0 (by rw[AD,AD])
         | 1,hj=>simp[cD] at hj;subst hj;rw[BS];exact Bs _ _ _ _ 1 (by rw[AD,AD])
         | 2,hj=>simp[cD] at hj;subst hj;rw[BS];exact Bs _ _ _ _ 2 (by rw[AD,AD])
         | 3,hj=>simp[cD] at hj;subst hj;rw[BS];exact Bs _ _ _ _ 3 (by rw[AD,AD])
         |n+4,hj=>simp[cD] at hj
        case c2=>intro u hu;simp[cD] at hu;rcases hu with rfl|rfl|rfl|rfl<;>rfl
        case c3=>unfold maxLen;first|(simp;done)|omega|(simp;omega)
        case c4=>first|(simp;done)|omega|(simp;omega)
        case c5=>first|(simp;done)|omega|(simp;omega)
        intro v' w5 hown' hgrow _ _;have hA5:Br w5 wo.heap.size v' (L++[(2,p,v,g)]):=Ht hown';have D5:=(((D4.alloc _).alloc _).alloc _).grow hgrow hge hcw hB;clear hgrow hown' hA4;go_wp2;go_roundw;case rel=>exact⟨m,de+1,ev+1,_,by go_num,by go_num,by go_num,by omega,by omega,by omega,by simp;omega,hA5,D5⟩
        case measure=>simp[intOf]
     ·
      by_cases hx:6<ev+2
      ·
       go_wp2;go_roundw;case rel=>exact⟨m,de,ev,L,by go_num,rfl,rfl,by omega,by omega,by omega,by omega,hA4.keep (((AC.refl w4).alloc _).alloc _),(D4.alloc _).alloc _⟩
       case measure=>simp[intOf]
      ·
       have hx':ev+2<=6:=by omega
       by_cases hd:de=12
       ·
        have ed:((de:Int)==12)=true:=by simp;omega
        clear hd;go_wp2;go_roundw;case rel=>exact⟨m,de,ev,L,by go_num,rfl,rfl,by omega,by omega,by omega,by omega,hA4.keep (((AC.refl w4).alloc _).alloc _),(D4.alloc _).alloc _⟩
        case measure=>simp[intOf]
       ·
        have ed:((de:Int)==12)=false:=by simp;omega
        have de12:de<12:=by omega
        clear hd;go_wp2_with (at_builtin;refine wpList_append_own_at _ rfl _ _ 62 rfl wo.heap.size 65 i0 (.agg #[.int .i64 0,.int .i64 0,.int .i64 0,.int .i64 0]) 4 32 Tryz.underlying62 hi hz0 hz1 hz2 rfl (by decide) _ _ _ rfl (hA4.keep ((((AC.refl w4).alloc _).alloc _).alloc _)) ⟨_,0,none⟩ 1 1 (cD (3,p,v,g)) rfl rfl ?c1 ?c2 ?c3 ?c4 ?c5 ?_)
        case c1=>
         intro j u hj
         match j,hj with
         | 0,hj=>simp[cD] at hj;subst hj;rw[BS];exact Bs _ _ _ _ 0 (by rw[AD,AD])
         | 1,hj=>simp[cD] at hj;subst hj;rw[BS];exact Bs _ _ _ _ 1 (by rw[AD,AD])
         | 2,hj=>simp[cD] at hj;subst hj;rw[BS];exact Bs _ _ _ _ 2 (by rw[AD,AD])
         | 3,hj=>simp[cD] at hj;subst hj;rw[BS];exact Bs _ _ _ _ 3 (by rw[AD,AD])
         |n+4,hj=>simp[cD] at hj
        case c2=>intro u hu;simp[cD] at hu;rcases hu with rfl|rfl|rfl|rfl<;>rfl
        case c3=>unfold maxLen;first|(simp;done)|omega|(simp;omega)
        case c4=>first|(simp;done)|omega|(simp;omega)
        case c5=>first|(simp;done)|omega|(simp;omega)
        intro v' w5 hown' hgrow _ _;have hA5:Br w5 wo.heap.size v' (L++[(3,p,v,g)]):=Ht hown';have D5:=(((D4.alloc _).alloc _).alloc _).grow hgrow hge hcw hB;clear hgrow hown' hA4;go_wp2;go_roundw;case rel=>exact⟨m,de+1,ev+2,_,by go_num,by go_num,by go_num,by omega,by omega,by omega,by simp;omega,hA5,D5⟩
        case measure=>simp[intOf]
     ·
      by_cases hd:de=12
      ·
       have ed:((de:Int)==12)=true:=by simp;omega
       clear hd;go_wp2;go_roundw;case rel=>exact⟨m,de,ev,L,by go_num,rfl,rfl,by omega,by omega,by omega,by omega,hA4.keep (((AC.refl w4).alloc _).alloc _),(D4.alloc _).alloc _⟩
       case measure=>simp[intOf]
      ·
       have ed:((de:Int)==12)=false:=by simp;omega
       have de12:de<12:=by omega
       clear hd;go_wp2_with (at_builtin;refine wpList_append_own_at _ rfl _ _ 62 rfl wo.heap.size 65 i0 (.agg #[.int .i64 0,.int .i64 0,.int .i64 0,.int .i64 0]) 4 32 Tryz.underlying62 hi hz0 hz1 hz2 rfl (by decide) _ _ _ rfl (hA4.keep ((((AC.refl w4).alloc _).alloc _).alloc _)) ⟨_,0,none⟩ 1 1 (cD (4,p,v,g)) rfl rfl ?c1 ?c2 ?c3 ?c4 ?c5 ?_)
       case c1=>
        intro j u hj
        match j,hj with
        | 0,hj=>simp[cD] at hj;subst hj;rw[BS];exact Bs _ _ _ _ 0 (by rw[AD,AD])
        | 1,hj=>simp[cD] at hj;subst hj;rw[BS];exact Bs _ _ _ _ 1 (by rw[AD,AD])
        | 2,hj=>simp[cD] at hj;subst hj;rw[BS];exact Bs _ _ _ _ 2 (by rw[AD,AD])
        | 3,hj=>simp[cD] at hj;subst hj;rw[BS];exact Bs _ _ _ _ 3 (by rw[AD,AD])
        |n+4,hj=>simp[cD] at hj
       case c2=>intro u hu;simp[cD] at hu;rcases hu with rfl|rfl|rfl|rfl<;>rfl
       case c3=>unfold maxLen;first|(simp;done)|omega|(simp;omega)
       case c4=>first|(simp;done)|omega|(simp;omega)
       case c5=>first|(simp;done)|omega|(simp;omega)
       intro v' w5 hown' hgrow _ _;have hA5:Br w5 wo.heap.size v' (L++[(4,p,v,g)]):=Ht hown';have D5:=(((D4.alloc _).alloc _).alloc _).grow hgrow hge hcw hB;clear hgrow hown' hA4;go_wp2;go_roundw;case rel=>exact⟨m,de+1,ev,_,by go_num,by go_num,by go_num,by omega,by omega,by omega,by simp;omega,hA5,D5⟩
       case measure=>simp[intOf]
theorem VQ {a:Option Nat}{k:Nat}(h:a≠some k):a=none\/a≠some k:= .inr h
theorem CU.first {w w2:World}{base N g n cx:Nat}{V:Nat->Value}{AA:List (List Dd)}{v':Value}{es:List Dd}(h:CU w base N (.slice (some ⟨g,0,none⟩) n cx) V AA)(h1:0<AA.length)(hn:n=AA.length)(hA:Br w2 base v' es)
  (hgrow:w.grownBy w2 (V 0).ownBlock) (hblk:v'.ownBlock=(V 0).ownBlock\/v'.ownBlock=some w.heap.size):
  bB (w2.setCell ⟨g,0,none⟩ v') base (.slice (some ⟨g,0,none⟩) n cx) (AA.set 0 es):=by
 subst hn;have hgw:=(h.cellAt h1).2;have hgb:base<=g:=(World.ownsRow.lt h.row g rfl).1;have hgv:(V 0).ownBlock≠some g:=fun e=>h.out 0 h1 g e rfl
 have zJ:v'.ownBlock≠some g:=by
  rcases hblk with e|e
  . rw[e];exact hgv
  . rw[e];simp only[ne_eq,Option.some.injEq];omega
 have hb:w2.heap[g]? = w.heap[g]?:=hgrow.block g hgw (fun e=>hgv e.symm);have hp:=Oy w2 g 0 v';refine⟨_,cx,by rw[List.length_set],.inr ⟨g,0,rfl,hgb,Nat.lt_of_lt_of_le (Nat.lt_of_lt_of_le hgw hgrow.size) hp.size,fun i hi=>?_⟩⟩;rw[List.length_set] at hi;rw[GS AA 0 i es [] h1,Nat.zero_add];by_cases e:0=i
 ·
  subst e;rw[if_pos rfl];exact⟨v',World.cell?_setCell_same _ _ _ ((GN hb 0).trans (h.cellAt h1).1),hA.kept hp (VQ zJ)⟩
 ·
  rw[if_neg e];refine⟨V i,?_,?_⟩
  ·
   rw[World.cell?_setCell_other _ _ _ _ (by intro q;injection q with q1 q2;exact e q2)];exact (GN hb i).trans (h.cellAt hi).1
  ·
   have k1:Br w2 base (V i) (AA.getD i []):=(h.each i hi).kept hgrow (by
    cases hv:(V i).ownBlock with
    |none=>exact .inl rfl
    |some q=>exact .inr (fun e2=>h.apart 0 i (by omega) hi q e2.symm hv))
   exact k1.kept hp (VQ (fun e2=>h.out i hi g e2 rfl))
theorem CU.twice {w w2:World}{base N:Nat}{v v':Value}{V:Nat->Value}{AA:List (List Dd)}(h:CU w base N v V AA)(h1:0<AA.length)
  (hown:w2.ownsRow base 62 1 v' (AA.length+AA.length) ((List.range AA.length).map V++(List.range AA.length).map V)) (hgrow:w.grownBy w2 v.ownBlock):bB w2 base v' (AA++AA):=by
 have hd:∀i,i<AA.length->Br w2 base (V i) (AA.getD i []):=fun i hi=>(h.each i hi).kept hgrow (by
  cases hv:(V i).ownBlock with
  |none=>exact .inl rfl
  |some q=>exact .inr (fun e2=>h.out i hi q hv e2.symm))
 have hlt:=World.ownsRow.lt hown;have h2:=hown;rcases hown.2 with ⟨_,hz⟩|⟨g,cap,cur,rfl,hb,hg,_⟩
 . omega
 ·
  refine⟨_,cap,by rw[List.length_append],.inr ⟨g,0,rfl,hb,(hlt g rfl).2,fun i hi=>?_⟩⟩;rw[List.length_append] at hi;rw[Nat.zero_add];by_cases e:i<AA.length
  ·
   refine⟨V i,?_,by rw[Ie AA AA i [] e];exact hd i e⟩;rw[World.ownsRow.cellAt h2 i (by simp;omega),List.getElem?_append_left (by simpa using e),Fg V _ i e]
  ·
   have e2:i-AA.length<AA.length:=by omega
   refine⟨V (i-AA.length),?_,?_⟩
   . rw[World.ownsRow.cellAt h2 i (by simp;omega),List.getElem?_append_right (by simp;omega),List.length_map,List.length_range,Fg V _ _ e2]
   ·
    have:(AA++AA).getD i []=AA.getD (i-AA.length) []:=by
     rw[List.getD_eq_getElem?_getD,List.getElem?_append_right (by omega),List.getD_eq_getElem?_getD]
    rw[this];exact hd _ e2
theorem CU.low {w:World}{base base' N:Nat}{v:Value}{V:Nat->Value}{AA:List (List Dd)}(h:CU w base N v V AA)(hb:base'<=base):CU w base' N v V AA:=by
 refine⟨⟨h.row.1,?_⟩,h.lt,fun i hi=>(h.each i hi).Az hb,h.iB,h.out,h.apart⟩;rcases h.row.2 with q|⟨g,cap,cur,e,hg,r⟩
 . exact .inl q
 . exact .inr ⟨g,cap,cur,e,Nat.le_trans hb hg,r⟩
theorem H0 {w w':World}{b:Nat}(h:w'.heap[b]? = w.heap[b]?)(o:Nat):w'.frozen? ⟨b,o,none⟩=w.frozen? ⟨b,o,none⟩:=by
 simp only[World.frozen?,h]
theorem Ot (xs:List Dd):(xs.flatMap cD).toArray.size=xs.length*4:=by
 induction xs with
 |nil=>rfl
 |cons d r ih=>simp[cD] at ih ⊢;omega
theorem Hu (w:World)(base:Nat)(xs ys:List Dd)(hb:base<=w.heap.size)(hx:xs.length<=9)(hy:ys.length<=9):
  CU (((w.alloc (.cells (xs.flatMap cD).toArray 65)).alloc (.cells (ys.flatMap cD).toArray 65)).alloc (.cells #[.slice (some ⟨w.heap.size,0,none⟩) xs.length xs.length,.slice (some ⟨w.heap.size+1,0,none⟩) ys.length ys.length] 62)) base (w.heap.size+3)
   (.slice (some ⟨w.heap.size+2,0,none⟩) 2 2) (fun i=>if i=0 then .slice (some ⟨w.heap.size,0,none⟩) xs.length xs.length else .slice (some ⟨w.heap.size+1,0,none⟩) ys.length ys.length) [xs,ys]:=by
 have a1:Br (w.alloc (.cells (xs.flatMap cD).toArray 65)) base (.slice (some ⟨w.heap.size,0,none⟩) xs.length xs.length) xs:=
  World.ownsRow_lit w (xs.flatMap cD).toArray xs.length hb (by unfold maxLen;omega) (Ot xs)
 have a2:Br ((w.alloc (.cells (xs.flatMap cD).toArray 65)).alloc (.cells (ys.flatMap cD).toArray 65)) base (.slice (some ⟨w.heap.size+1,0,none⟩) ys.length ys.length) ys:=by
  have:=World.ownsRow_lit (base:=base) (e:=65) (size:=4) (w.alloc (.cells (xs.flatMap cD).toArray 65)) (ys.flatMap cD).toArray ys.length (by rw[AD];omega) (by unfold maxLen;omega) (Ot ys);rw[AD] at this;exact this
 have a3:(((w.alloc (.cells (xs.flatMap cD).toArray 65)).alloc (.cells (ys.flatMap cD).toArray 65)).alloc (.cells #[.slice (some ⟨w.heap.size,0,none⟩) xs.length xs.length,.slice (some ⟨w.heap.size+1,0,none⟩) ys.length ys.length] 62)).ownsRow base 62 1 (.slice (some ⟨w.heap.size+2,0,none⟩) 2 2) 2 [.slice (some ⟨w.heap.size,0,none⟩) xs.length xs.length,.slice (some ⟨w.heap.size+1,0,none⟩) ys.length ys.length]:=by
  have:=World.ownsRow_lit (base:=base) (e:=62) (size:=1) ((w.alloc (.cells (xs.flatMap cD).toArray 65)).alloc (.cells (ys.flatMap cD).toArray 65)) #[.slice (some ⟨w.heap.size,0,none⟩) xs.length xs.length,.slice (some ⟨w.heap.size+1,0,none⟩) ys.length ys.length] 2 (by rw[AD,AD];omega) (by unfold maxLen;omega) rfl;rw[AD,AD] at this;exact this
 have two:∀i,i<([xs,ys]:List (List Dd)).length->i=0\/i=1:=fun i hi=>by simp at hi;omega
 refine⟨a3,fun k hk=>by simp[Value.ownBlock] at hk;omega,fun i hi=>?_,fun i hi k hk=>?_,fun i hi k hk=>?_,fun i j hij hj k hk=>?_⟩
 ·
  rcases two i hi with rfl|rfl
  . exact (a1.keep ((AC.refl _).alloc _)).keep ((AC.refl _).alloc _)
  . exact a2.keep ((AC.refl _).alloc _)
 ·
  rcases two i hi with rfl|rfl
  . simp[Value.ownBlock] at hk;omega
  . simp[Value.ownBlock] at hk;omega
 ·
  rcases two i hi with rfl|rfl
  . simp[Value.ownBlock] at hk ⊢;omega
  . simp[Value.ownBlock] at hk ⊢;omega
 ·
  rcases two j hj with rfl|rfl
  . omega
  ·
   obtain rfl:i=0:=by omega
   simp[Value.ownBlock] at hk ⊢;omega
theorem YS (w:World)(a0 a1 a2 a3 b0 b1 b2 b3 c0 c1 c2 c3 d0 d1 d2 d3 e0 e1 e2 e3:Int){W:World}(hW:W=((((w.alloc (Dl a0 a1 a2 a3)).alloc (Dl b0 b1 b2 b3)).alloc (Dl c0 c1 c2 c3)).alloc (Dl d0 d1 d2 d3)).alloc (Dl e0 e1 e2 e3)):
  Fl W w.heap.size a0 a1 a2 a3/\Fl W (w.heap.size+1) b0 b1 b2 b3/\Fl W (w.heap.size+1+1) c0 c1 c2 c3/\Fl W (w.heap.size+1+1+1) d0 d1 d2 d3/\Fl W (w.heap.size+1+1+1+1) e0 e1 e2 e3:=by
 subst hW;unfold Fl;refine⟨?_,?_,?_,?_,?_⟩
 all_goals
  simp only[Bw,AD];repeat (first|exact if_pos rfl|exact if_pos trivial|rw[if_neg (by omega)])
theorem Np {xs ys:List Dd}(hx:xs.length<=4)(hy:ys.length<=4):∀i,i<([xs,ys]:List (List Dd)).length->(([xs,ys]:List (List Dd)).getD i []).length<=4:=by
 intro i hi;have:i=0\/i=1:=by simp at hi;omega
 rcases this with rfl|rfl
 . exact hx
 . exact hy
theorem MF (w:World)(B c:Nat)(hc:Lj w B c):
  Calls Tryz.prog 73 #[.pointer (some ⟨c,0,none⟩)] w fun e w'=>∃v V AA,e = .returned v/\CU w' w.heap.size w'.heap.size v V AA/\1<=AA.length/\AA.length<=3/\(∀i,i<AA.length->(AA.getD i []).length<=4)/\Dr w w' B c:=by
 have hcl:=hc.lt;have hB:=hc.1;obtain⟨q0,q1,q2,q3,q4⟩:=YS w 2 0 1 0 2 1 1 0 1 0 0 0 1 1 0 0 4 0 0 0 rfl;have D0:=(((((Dr.refl hc).alloc (Dl 2 0 1 0)).alloc (Dl 2 1 1 0)).alloc (Dl 1 0 0 0)).alloc (Dl 1 1 0 0)).alloc (Dl 4 0 0 0);go_enter Tryz.func73,Tryz.ntmps73
 go_wp2_with fail
 refine (BO _ B c _ D0.1 (by omega)).mono ?_;rintro e w1 ⟨x,rfl,x0,x1,c1,g1⟩;have D1:=D0.step c1 g1;have hsz:=D1.2.size;have p0:=q0.kept g1 (by simp;omega);have p1:=q1.kept g1 (by simp;omega);have p2:=q2.kept g1 (by simp;omega);have p3:=q3.kept g1 (by simp;omega);have p4:=q4.kept g1 (by simp;omega);clear q0 q1 q2 q3 q4 D0 c1 g1;obtain⟨s00,s01,s02,s03⟩:=p0.cells;obtain⟨s10,s11,s12,s13⟩:=p1.cells;obtain⟨s20,s21,s22,s23⟩:=p2.cells;obtain⟨s30,s31,s32,s33⟩:=p3.cells;obtain⟨s40,s41,s42,s43⟩:=p4.cells;have l0:=p0.lt;have l1:=p1.lt;have l2:=p2.lt;have l3:=p3.lt;have l4:=p4.lt;clear p0 p1 p2 p3 p4;have hx:x=0\/x=1\/x=2\/x=3\/x=4:=by omega
 clear x0 x1;rcases hx with rfl|rfl|rfl|rfl|rfl
 ·
  go_wp2;go_ret;exact⟨_,_,_,rfl,(Hu w1 w.heap.size [(2,0,1,0),(1,1,0,0)] [(2,1,1,0),(1,0,0,0)] hsz (by simp) (by simp)).up (by rw[AD,AD,AD];omega),by simp,by simp,Np (by simp) (by simp),((D1.alloc _).alloc _).alloc _⟩
 ·
  go_wp2;go_ret;exact⟨_,_,_,rfl,(Hu w1 w.heap.size [(2,0,1,0),(4,0,0,0),(1,1,0,0)] [(2,1,1,0),(4,0,0,0),(1,0,0,0)] hsz (by simp) (by simp)).up (by rw[AD,AD,AD];omega),by simp,by simp,Np (by simp) (by simp),((D1.alloc _).alloc _).alloc _⟩
 ·
  go_wp2;go_ret;exact⟨_,_,_,rfl,(Hu w1 w.heap.size [(2,0,1,0),(2,1,1,0)] [(1,1,0,0),(1,0,0,0)] hsz (by simp) (by simp)).up (by rw[AD,AD,AD];omega),by simp,by simp,Np (by simp) (by simp),((D1.alloc _).alloc _).alloc _⟩
 ·
  go_wp2;go_ret;exact⟨_,_,_,rfl,(Hu w1 w.heap.size [(2,0,1,0),(1,0,0,0),(1,1,0,0)] [(2,1,1,0),(1,1,0,0),(1,0,0,0)] hsz (by simp) (by simp)).up (by rw[AD,AD,AD];omega),by simp,by simp,Np (by simp) (by simp),((D1.alloc _).alloc _).alloc _⟩
 ·
  go_wp2;go_ret;exact⟨_,_,_,rfl,(Hu w1 w.heap.size [(2,0,1,0),(4,0,0,0),(1,1,0,0)] [(2,1,1,0),(1,0,0,0)] hsz (by simp) (by simp)).up (by rw[AD,AD,AD];omega),by simp,by simp,Np (by simp) (by simp),((D1.alloc _).alloc _).alloc _⟩
theorem Rr (xs:List Dd):∀u,u∈xs.flatMap cD->u.oneCell'=true:=by
 intro u hu;obtain⟨d,_,hd⟩:=List.mem_flatMap.1 hu;simp[cD] at hd;rcases hd with rfl|rfl|rfl|rfl<;>rfl
theorem Dr.drew {w wr:World}{B c:Nat}(h:Dr w wr B c):Dr w wr.drew B c:=
 ⟨h.1.keep (AC.refl wr).drew,BF h.2 ⟨rfl,rfl,rfl,Nat.le_refl _,fun _ _ _=>rfl⟩⟩
theorem WX (w:World)(d:Dd):∀j u,(cD d)[j]? = some u->(w.alloc (.cells #[.int .i64 d.1,.int .i64 d.2.1,.int .i64 d.2.2.1,.int .i64 d.2.2.2] 65)).cell? ((⟨w.heap.size,0,none⟩:Addr).add j)=some u:=by
 intro j u hj;rw[BS,Bs _ _ _ _ j rfl];rw[<-List.getElem?_toArray] at hj;exact hj
theorem Nh {AA:List (List Dd)}{es:List Dd}(h1:0<AA.length)(h3:AA.length<=3)(h4:∀i,i<AA.length->(AA.getD i []).length<=4)(he:es.length<=7):(AA.set 0 es).length<=6/\∀i,i<(AA.set 0 es).length->((AA.set 0 es).getD i []).length<=7:=by
 refine⟨by rw[List.length_set];omega,fun i hi=>?_⟩;rw[List.length_set] at hi;rw[GS AA 0 i es [] h1];split
 . exact he
 . have:=h4 i hi;omega
theorem Ss {AA:List (List Dd)}(h3:AA.length<=3)(h4:∀i,i<AA.length->(AA.getD i []).length<=4):(AA++AA).length<=6/\∀i,i<(AA++AA).length->((AA++AA).getD i []).length<=7:=by
 refine⟨by rw[List.length_append];omega,fun i hi=>?_⟩;rw[List.length_append] at hi;by_cases e:i<AA.length
 . rw[Ie AA AA i [] e];have:=h4 i e;omega
 ·
  have:(AA++AA).getD i []=AA.getD (i-AA.length) []:=by
   rw[List.getD_eq_getElem?_getD,List.getElem?_append_right (by omega),List.getD_eq_getElem?_getD]
  rw[this];have:=h4 (i-AA.length) (by omega);omega
theorem JM (w:World)(B c:Nat)(hc:Lj w B c):
  Calls Tryz.prog 34 #[.pointer (some ⟨c,0,none⟩)] w fun e w'=>∃v AA,e = .returned v/\bB w' w.heap.size v AA/\(AA.length<=6/\∀i,i<AA.length->(AA.getD i []).length<=7)/\Dr w w' B c:=by
 have hcl:=hc.lt;have hB:=hc.1;obtain⟨i0,hi,hz0,hz1,hz2⟩:=info_parts Tryz.jX;obtain⟨j0,hj,hy0,hy1,hy2⟩:=info_parts Tryz.ZC;go_enter Tryz.func34,Tryz.ntmps34
 go_wp2_with fail
 refine (Tn _ B c hc).mono ?_;rintro e w1 ⟨v1,V1,dss1,rfl,hX1,n1,n3,l4,D1⟩;go_wp2_with fail
 refine (Fd _ B c _ D1.1 (by omega)).mono ?_;rintro e w2 ⟨b,rfl,c2,g2⟩;have hX2:=(hX1.kept g2 hcl).up g2.size;have D2:=D1.step c2 g2;clear hX1 D1 c2 g2;go_upto_if 7 with fail
 go_cut [3] from 4 (fun s3 wx=>∃V AA,CU wx w.heap.size wx.heap.size s3 V AA/\1<=AA.length/\AA.length<=3/\Hid (∀i,i<AA.length->(AA.getD i []).length<=4)/\Dr w wx B c)
 case first=>
  cases b
  ·
   go_wp2;go_meet;case rel=>exact⟨_,_,hX2,n1,n3,Lib.hid l4,D2⟩
  ·
   go_wp2_with fail
   refine (MF _ B c D2.1).mono ?_;rintro e w3 ⟨v3,V3,dss3,rfl,hX3,m1,m3,k4,D3⟩;go_wp2;go_meet;case rel=>exact⟨_,_,hX3.low D2.2.size,m1,m3,Lib.hid k4,D2.trans D3⟩
 case rest=>
  clear hX2 D2 n1 n3 l4;obtain⟨V,AA,hX,n1,n3,l4,D2⟩:=hcut;go_wp2_with fail
  refine (Fd _ B c _ D2.1 (by omega)).mono ?_;rintro e w4 ⟨b2,rfl,c4,g4⟩;have hX4:=(hX.kept g4 hcl).up g4.size;have D4:=D2.step c4 g4;clear hX D2 c4 g4;have HN:Hid (AA.length<=6/\∀i,i<AA.length->(AA.getD i []).length<=7):=Lib.hid ⟨by omega,fun i hi=>by have:=l4.out i hi;omega⟩;cases b2
  ·
   have HR:=Lib.hid hX4.wF;go_wp2;go_ret;exact⟨_,AA,rfl,HR.out,HN.out,D4⟩
  ·
   go_wp2_with fail
   refine (BO _ B c _ D4.1 (by omega)).mono ?_;rintro e w5 ⟨x,rfl,x0,x1,c5,g5⟩;have hX5:=(hX4.kept g5 hcl).up g5.size;have D5:=D4.step c5 g5;clear hX4 D4 c5 g5 HN;have hx:x=0\/x=1\/x=2\/x=3:=by omega
   clear x0 x1;obtain⟨g,cx,rfl,hgb,hgN,hgw,hcx,hcell,hfree⟩:=hX5.at (by omega);have d0:=hcell 0 (by omega);have f0:=hfree 0;have hA0:=hX5.each 0 (by omega);have hl0:=l4.out 0 (by omega);have hout0:∀k,(V 0).ownBlock=some k->w.heap.size<=k/\k<w5.heap.size:=hA0.lt;have i1:(0:Int)<(AA.length:Int):=by omega
   have h01:0<AA.length:=by omega
   rcases hx with rfl|rfl|rfl|rfl
   ·
    obtain⟨a5,c5,hV0⟩:=hA0.shape;have HV:=Lib.hid hV0;rw[hV0] at d0 hA0 hout0;clear hV0;obtain⟨L,hL⟩:∃L,L=AA.getD 0 []:=⟨_,rfl⟩;rw[<-hL] at d0 hA0 hl0 hout0 HV;clear hL hcell hfree;have hsz5:=D5.2.size;have D5':=D5.drew;have hX5':=hX5.keep (AC.refl w5).drew;have hA5':=hA0.keep (AC.refl w5).drew;have yg:(Value.slice a5 L.length c5).ownBlock≠some g:=fun e=>hX5.out 0 (by omega) g (by rw[HV.out];exact e) rfl
    have cg:g≠c:=by omega
    go_wp2
    go_region_law ((first
     | (refine DF rfl (.tmp 19) (.tmp 22) 62 rfl w.heap.size 65 i0 (.agg #[.int .i64 0,.int .i64 0,.int .i64 0,.int .i64 0]) 4 32 Tryz.underlying62 hi hz0 hz1 hz2 rfl (by decide) (.slice a5 L.length c5) L.length (L.flatMap cD) (by simp[Act.eval]) (hA6.keep ((AC.refl w6).alloc (.cells #[.int .i64 kq,.int .i64 pq,.int .i64 vq,.int .i64 gq] 65))) ⟨w6.heap.size,0,none⟩ 1 1 (cD (kq,pq,vq,gq)) (by simp[Act.eval]) rfl (WX w6 (kq,pq,vq,gq)) (Rr [(kq,pq,vq,gq)]) (by unfold maxLen;omega) (by omega) (by rw[AD];omega) ?_;intro v' w7 hown' hgrow hblk;have hA7:Br w7 w.heap.size v' (L++[(kq,pq,vq,gq)]):=Ht hown';have oU:(V 0).ownBlock=(Value.slice a5 L.length c5).ownBlock:=(by rw[HV.out]);have HR:=Lib.hid ((hX6.keep ((AC.refl w6).alloc (.cells #[.int .i64 kq,.int .i64 pq,.int .i64 vq,.int .i64 gq] 65))).first (by omega) rfl hA7 (by rw[oU];exact hgrow) (by rw[oU];exact hblk));have HS:=Lib.hid (Nh (es:=L++[(kq,pq,vq,gq)]) (by omega) n3 l4.out (by simp;omega));have D7:=((D6.alloc (.cells #[.int .i64 kq,.int .i64 pq,.int .i64 vq,.int .i64 gq] 65)).grow hgrow (fun k hk=>(hout0 k hk).1) hcl hB).set hgb hcl hB 0 v';have hb7:w7.heap[g]? = w6.heap[g]?:=(hgrow.block g (by rw[AD];omega) (fun e=>yg e.symm)).trans (by rw[Bw,if_neg (by omega)]);have d7:=(GN hb7 0).trans d6;have f7:w7.frozen? ⟨g,0,none⟩=false:=(by rw[H0 hb7 0];exact f6);have hg7:g<w7.heap.size:=Nat.lt_of_lt_of_le (by rw[AD];omega) hgrow.size;obtain⟨a7,c7,hv7⟩:=hA7.shape;generalize (L++[(kq,pq,vq,gq)]).length=n7 at hv7;subst hv7;clear hgrow hown' hblk hA7 hb7 d6 f6 hg6)
     | (go_simp;refine (N4 _ B c D5'.1).mono ?_;rintro e w6 ⟨kq,pq,vq,gq,rfl,D6'⟩;have D6:=D5'.trans D6';have hX6:=hX5'.kept D6'.2 hcl;have hA6:=hA5'.kept D6'.2 (GV hA5'.ge hcl);have hb6:w6.heap[g]? = w5.heap[g]?:=D6'.2.block g hgw (by simp;omega);have d6:=(GN hb6 0).trans d0;have f6:w6.frozen? ⟨g,0,none⟩=false:=(by rw[H0 hb6 0];exact f0);have hg6:g<w6.heap.size:=Nat.lt_of_lt_of_le hgw D6'.2.size;have hs6:=D6.2.size;clear D6' hb6)))
    all_goals
     go_wp2;go_ret;exact⟨_,_,rfl,HR.out,HS.out,D7⟩
   ·
    have hN:Hid ((AA++AA).length<=6/\∀i,i<(AA++AA).length->((AA++AA).getD i []).length<=7):=Lib.hid (Ss n3 l4.out);have hsz5:=D5.2.size;go_wp2_with (at_builtin;refine wpList_append_own_at _ rfl _ _ 24 rfl w.heap.size 62 j0 (.slice none 0 0) 1 24 Tryz.underlying24 hj hy0 hy1 hy2 rfl (by decide) _ _ _ rfl hX5.row ⟨g,0,none⟩ AA.length cx ((List.range AA.length).map V) rfl ?b1 ?b2 ?b3 ?b4 ?b5 ?b6 ?_)
    case b1=>simp
    case b2=>
     intro j u hj;have hj':j<AA.length:=by have:=(List.getElem?_eq_some_iff.1 hj).1;simpa using this
     rw[Fg V _ j hj'] at hj;rw[BS,Nat.zero_add,hcell j hj'];exact hj
    case b3=>
     intro u hu;obtain⟨i,hi,rfl⟩:=List.mem_map.1 hu;rw[List.mem_range] at hi;obtain⟨a,cc,e⟩:=(hX5.each i hi).shape;rw[e];rfl
    case b4=>unfold maxLen;omega
    case b5=>omega
    case b6=>exact hsz5
    intro v' w6 hown' hgrow _ _;have HR:=Lib.hid (hX5.twice (by omega) hown' hgrow);have D6:=D5.grow hgrow (fun k hk=>(World.ownsRow.lt hX5.row k hk).1) hcl hB;clear hgrow hown' hX5;go_wp2;go_ret;exact⟨_,_,rfl,HR.out,hN.out,D6⟩
   ·
    go_wp2;go_ret;exact⟨_,[],rfl,⟨_,_,rfl,.inl rfl⟩,⟨by simp,by simp⟩,D5.alloc _⟩
   ·
    obtain⟨a5,c5,hV0⟩:=hA0.shape;have HV:=Lib.hid hV0;rw[hV0] at d0 hA0 hout0;clear hV0;obtain⟨L,hL⟩:∃L,L=AA.getD 0 []:=⟨_,rfl⟩;rw[<-hL] at d0 hA0 hl0 hout0 HV;clear hL hcell hfree;have hsz5:=D5.2.size;have hA1:=hA0.keep ((AC.refl w5).alloc (.cells #[.int .i64 1,.int .i64 0,.int .i64 0,.int .i64 1,.int .i64 4,.int .i64 0,.int .i64 0,.int .i64 0,.int .i64 1,.int .i64 0,.int .i64 0,.int .i64 1] 65));have hX6:=hX5.keep ((AC.refl w5).alloc (.cells #[.int .i64 1,.int .i64 0,.int .i64 0,.int .i64 1,.int .i64 4,.int .i64 0,.int .i64 0,.int .i64 0,.int .i64 1,.int .i64 0,.int .i64 0,.int .i64 1] 65));go_wp2_with (at_builtin;refine wpList_append_own_at _ rfl _ _ 62 rfl w.heap.size 65 i0 (.agg #[.int .i64 0,.int .i64 0,.int .i64 0,.int .i64 0]) 4 32 Tryz.underlying62 hi hz0 hz1 hz2 rfl (by decide) _ _ _ rfl hA1 ⟨_,0,none⟩ 3 3 (([(1,0,0,1),(4,0,0,0),(1,0,0,1)]:List Dd).flatMap cD) rfl rfl ?d1 ?d2 ?d3 ?d4 ?d5 ?_)
    case d1=>
     intro j u hj;rw[BS,Bs _ _ _ _ j rfl];rw[<-List.getElem?_toArray] at hj;exact hj
    case d2=>exact Rr _
    case d3=>unfold maxLen;first|omega|(simp;omega)
    case d4=>first|omega|(simp;omega)
    case d5=>first|omega|(simp;omega)
    intro v' w6 hown' hgrow _ hblk
    have hA6:Br w6 w.heap.size v' (L++[(1,0,0,1),(4,0,0,0),(1,0,0,1)]):=by
     unfold Br;rw[List.flatMap_append];simpa using hown'
    have oU:(V 0).ownBlock=(Value.slice a5 L.length c5).ownBlock:=by rw[HV.out]
    have HR:=Lib.hid (hX6.first (by omega) rfl hA6 (by rw[oU];exact hgrow) (by rw[oU,AD];exact hblk));have HS:=Lib.hid (Nh (es:=L++[(1,0,0,1),(4,0,0,0),(1,0,0,1)]) (by omega) n3 l4.out (by simp;omega));have D6:=(D5.alloc (.cells #[.int .i64 1,.int .i64 0,.int .i64 0,.int .i64 1,.int .i64 4,.int .i64 0,.int .i64 0,.int .i64 0,.int .i64 1,.int .i64 0,.int .i64 0,.int .i64 1] 65)).grow hgrow (fun k hk=>(hout0 k hk).1) hcl hB;have D7:=D6.set hgb hcl hB 0 v';have yg:(Value.slice a5 L.length c5).ownBlock≠some g:=fun e=>hX6.out 0 (by omega) g (by rw[oU];exact e) rfl
    have hb6:w6.heap[g]? = w5.heap[g]?:=(hgrow.block g (by rw[AD];omega) (fun e=>yg e.symm)).trans (by rw[Bw,if_neg (by omega)]);have d6:=(GN hb6 0).trans d0;have f6:w6.frozen? ⟨g,0,none⟩=false:=by rw[<-f0];exact H0 hb6 0
    have hg6:g<w6.heap.size:=Nat.lt_of_lt_of_le (by rw[AD];omega) hgrow.size;obtain⟨a7,c7,hv7⟩:=hA6.shape;generalize (L++[(1,0,0,1),(4,0,0,0),(1,0,0,1)]).length=n7 at hv7;subst hv7;clear hgrow hown' hblk hX5 hX6 hA1 hA0 hA6 D6;go_wp2;go_ret;exact⟨_,_,rfl,HR.out,HS.out,D7⟩
theorem Dr.sI {w W wr:World}{B c:Nat}(h:Dr W wr B c)(k:AC w W)(hc:w.heap.size<=c):AC w wr:=k.grown h.2 (fun j hj=>by simp at hj;omega)
theorem Pw (w:World)(a:Option Addr)(cap:Nat)(zs:List Int)(hb:Q4 w w.heap.size a zs):
  Calls Tryz.prog 29 #[.slice a zs.length cap] w fun e w'=>∃v AA,e = .returned v/\JJ w' v AA/\(AA.length<=6/\∀i,i<AA.length->(AA.getD i []).length<=7)/\AC w w':=by
 go_enter Tryz.func29,Tryz.ntmps29
 go_wp2_with fail
 refine (U7 _ a cap zs hb).mono ?_;rintro e w1 ⟨rfl,c1,k1⟩;go_wp2_with fail
 refine (JM _ _ _ c1).mono ?_;rintro e w2 ⟨v,AA,rfl,hR,hs,D2⟩;have K2:=D2.sI k1 (Nat.le_refl _);have HR:=Lib.hid hR.rd;have HS:=Lib.hid hs;clear hR hs D2;go_wp2;go_ret;exact⟨_,_,rfl,HR.out,HS.out,K2⟩
section
structure EI (w0 w:World)(P:Nat->Prop)(AA:List (List Dd))(E Sn:List (List Int))(O:List Bd)(ve vs vo:Value)(he hs:List Value)(ho:List BV):Prop where
 low:∀g,P g->w0.heap.size<=g/\g<w.heap.size
 e:Gh w P w0.heap.size ve he E
 s:Gh w P w0.heap.size vs hs Sn
 o:FJ w P w0.heap.size vo ho AA O
 es:∀g,ve.ownBlock=some g->vs.ownBlock≠some g
 eo:∀g,ve.ownBlock=some g->vo.ownBlock≠some g
 so:∀g,vs.ownBlock=some g->vo.ownBlock≠some g
 K:AC w0 w
section
variable {w0 w w':World} {P:Nat->Prop} {AA:List (List Dd)} {E E' Sn Sn':List (List Int)} {O:List Bd} {ve vs vo v':Value} {he hs h':List Value} {ho:List BV}
theorem EI.keep (h:EI w0 w P AA E Sn O ve vs vo he hs ho)(k:AC w w'):EI w0 w' P AA E Sn O ve vs vo he hs ho:=
 ⟨fun g hg=>⟨(h.low g hg).1,Nat.lt_of_lt_of_le (h.low g hg).2 k.size⟩,h.e.kept k.grownBy (by simp),h.s.kept k.grownBy (by simp),h.o.kept k.grownBy (by simp),h.es,h.eo,h.so,h.K.trans k⟩
theorem EI.wide (h:EI w0 w P AA E Sn O ve vs vo he hs ho)(k:AC w w'):EI w0 w' (fun g=>P g\/(w.heap.size<=g/\g<w'.heap.size)) AA E Sn O ve vs vo he hs ho:=by
 have h1:=h.keep k
 have no:∀ {v:Value},(∀g,v.ownBlock=some g->¬P g)->(∀g,v.ownBlock=some g->g<w.heap.size)->∀g,v.ownBlock=some g->¬(P g\/(w.heap.size<=g/\g<w'.heap.size)):=fun q1 q2 g hg hp=>by
  rcases hp with hp|hp
  . exact q1 g hg hp
  . have:=q2 g hg;omega
 refine⟨fun g hg=>?_,h1.e.mono (fun _ => .inl) (no h.e.np (fun g hg=>(h.e.lt g hg).2)),h1.s.mono (fun _ => .inl) (no h.s.np (fun g hg=>(h.s.lt g hg).2)),h1.o.mono (fun _ => .inl) (no h.o.np (fun g hg=>(h.o.lt g hg).2)),h.es,h.eo,h.so,h1.K⟩;rcases hg with hg|hg
 . exact h1.low g hg
 . exact⟨Nat.le_trans h.K.size hg.1,hg.2⟩
theorem Ip {v v':Value}{w:World}(hb:v'.ownBlock=v.ownBlock\/∃g,v'.ownBlock=some g/\w.heap.size<=g){u:Value}(ha:∀g,v.ownBlock=some g->u.ownBlock≠some g)(hu:∀g,u.ownBlock=some g->g<w.heap.size):∀g,v'.ownBlock=some g->u.ownBlock≠some g:=fun g hg=>by
 rcases hb with e|⟨q,e,hq⟩
 . exact ha g (e ▸ hg)
 ·
  intro hug;have:=hu g hug;rw[e] at hg;have:=Option.some.inj hg;omega
theorem Ik {u v:Value}(h:∀g,u.ownBlock=some g->v.ownBlock≠some g):∀g,v.ownBlock=some g->u.ownBlock≠some g:=fun g hv hu=>h g hu hv
theorem EI.iU (h:EI w0 w P AA E Sn O ve vs vo he hs ho)(o:Gh w' P w0.heap.size v' h' Sn')(hg:w.grownBy w' vs.ownBlock)(hb:v'.ownBlock=vs.ownBlock\/∃g,v'.ownBlock=some g/\w.heap.size<=g):EI w0 w' P AA E Sn' O ve v' vo he h' ho/\Au P w w':=
 ⟨⟨fun g hp=>⟨(h.low g hp).1,Nat.lt_of_lt_of_le (h.low g hp).2 hg.size⟩,h.e.kept hg (fun g hr=>⟨h.s.np g hr,fun q=>h.es g q hr⟩),o,h.o.kept hg (fun g hr=>⟨h.s.np g hr,fun q=>h.so g hr q⟩),
  Ik (Ip hb (Ik h.es) (fun g hv=>(h.e.lt g hv).2)),h.eo,Ip hb h.so (fun g hv=>(h.o.lt g hv).2),h.K.grown hg (fun g hr=>(h.s.lt g hr).1)⟩,Au.Cx hg h.s.np⟩
theorem EI.ze (h:EI w0 w P AA E Sn O ve vs vo he hs ho)(o:Gh w' P w0.heap.size v' h' E')(hg:w.grownBy w' ve.ownBlock)(hb:v'.ownBlock=ve.ownBlock\/∃g,v'.ownBlock=some g/\w.heap.size<=g):EI w0 w' P AA E' Sn O v' vs vo h' hs ho/\Au P w w':=
 ⟨⟨fun g hp=>⟨(h.low g hp).1,Nat.lt_of_lt_of_le (h.low g hp).2 hg.size⟩,o,h.s.kept hg (fun g hr=>⟨h.e.np g hr,fun q=>h.es g hr q⟩),h.o.kept hg (fun g hr=>⟨h.e.np g hr,fun q=>h.eo g hr q⟩),
  Ip hb h.es (fun g hv=>(h.s.lt g hv).2),Ip hb h.eo (fun g hv=>(h.o.lt g hv).2),h.so,h.K.grown hg (fun g hr=>(h.e.lt g hr).1)⟩,Au.Cx hg h.e.np⟩
theorem EI.pop {l:List Bd}{b:Bd}(h:EI w0 w P AA E Sn (l++[b]) ve vs vo he hs ho):
  ∃g cap bv,vo = .slice (some ⟨g,0,none⟩) (l.length+1) cap/\l.length+1<=cap/\C4 w P bv AA b/\EI w0 w P AA E Sn l ve vs (.slice (some ⟨g,0,none⟩) l.length cap) he hs (ho.take l.length)/\g<w.heap.size/\∀j,j<8->w.cell? ⟨g,l.length*8+j,none⟩=(cB bv)[j]?:=by
 obtain⟨g,cap,bv,rfl,h1,h2,h3,h4⟩:=h.o.pop;exact⟨g,cap,bv,rfl,h1,h2,⟨h.low,h.e,h.s,h3,h.es,h.eo,h.so,h.K⟩,(h.o.lt g rfl).2,h4⟩
theorem EI.push {b:Bd}{bv:BV}(h:EI w0 w P AA E Sn O ve vs vo he hs ho)(hb:C4 w P bv AA b)(o:w'.ownsRow w0.heap.size 36 8 v' (O.length+1) (ho.flatMap cB++cB bv))(hg:w.grownBy w' vo.ownBlock)(hn:v'.ownBlock=vo.ownBlock\/∃g,v'.ownBlock=some g/\w.heap.size<=g):EI w0 w' P AA E Sn (O++[b]) ve vs v' he hs (ho++[bv])/\Au P w w':=
 ⟨⟨fun g hp=>⟨(h.low g hp).1,Nat.lt_of_lt_of_le (h.low g hp).2 hg.size⟩,h.e.kept hg (fun g hr=>⟨h.o.np g hr,fun q=>h.eo g q hr⟩),h.s.kept hg (fun g hr=>⟨h.o.np g hr,fun q=>h.so g q hr⟩),
  h.o.push hb o hg (fun g hv hp=>by
   rcases hn with e|⟨q,e,hq⟩
   . exact h.o.np g (e ▸ hv) hp
   ·
    rw[e] at hv;have:=Option.some.inj hv;have:=(h.low g hp).2
    omega),h.es,Ik (Ip hn (Ik h.eo) (fun g hv=>(h.e.lt g hv).2)),Ik (Ip hn (Ik h.so) (fun g hv=>(h.s.lt g hv).2)),h.K.grown hg (fun g hr=>(h.o.lt g hr).1)⟩,Au.Cx hg h.o.np⟩
end
structure SG (AA:List (List Dd))(quick:Bool)(E Sn:List (List Int))(O:List Bd):Prop where
 si:SI AA quick ⟨E,Sn,O⟩
 wH:bC AA O
 len:E.length<=Sn.length
theorem nM {AA:List (List Dd)}(hb:AQ AA=true)(quick:Bool):SG AA quick [] [] [Cd AA]:=⟨nO AA quick,jC hb,Nat.le_refl _⟩
theorem SG.lens {AA:List (List Dd)}{quick:Bool}{E Sn:List (List Int)}{O:List Bd}(h:SG AA quick E Sn O)(hb:AQ AA=true):E.length<=1099511627776/\Sn.length<=1099511627776/\O.length<=125:=by
 have h1:=Z4 hb h.si;have h2:=jB h.wH;have h3:=h.len;have h4:JN<=1099511627776:=by decide
 exact⟨Nat.le_trans h3 (Nat.le_trans h1 h4),Nat.le_trans h1 h4,h2⟩
theorem Ii {l:List Bd}{b:Bd}:(l++[b]).getLast? = some b/\(l++[b]).dropLast=l:=⟨List.getLast?_concat,List.dropLast_concat⟩
theorem SG.old {AA:List (List Dd)}{quick:Bool}{E Sn:List (List Int)}{l:List Bd}{b:Bd}(h:SG AA quick E Sn (l++[b]))(hb:AQ AA=true)(hs:QG Sn (Cm b)=true):SG AA quick E Sn l/\Jp AA l<Jp AA (l++[b]):=by
 have e:Jh AA (AB AA) quick ⟨E,Sn,l++[b]⟩=⟨E,Sn,l⟩:=by
  unfold Jh;simp only[Ii.1,Ii.2,hs,if_true]
 have h1:=UJ h.si;have h2:=Qw hb h.si h.wH;have h3:=UR hb h.si (by simp);rw[e] at h1 h2 h3;exact⟨⟨h1,h2,h.len⟩,h3⟩
theorem SG.end {AA:List (List Dd)}{quick:Bool}{E Sn:List (List Int)}{l:List Bd}{b:Bd}(h:SG AA quick E Sn (l++[b]))(hb:AQ AA=true)(hs:QG Sn (Cm b)=false)(he:Co AA b=true):SG AA quick (EL E (An b)) (EL Sn (Cm b)) l/\Jp AA l<Jp AA (l++[b]):=by
 have e:Jh AA (AB AA) quick ⟨E,Sn,l++[b]⟩=⟨EL E (An b),EL Sn (Cm b),l⟩:=by
  unfold Jh;simp only[Ii.1,Ii.2,hs,he,if_true];rfl
 have h1:=UJ h.si;have h2:=Qw hb h.si h.wH;have h3:=UR hb h.si (by simp);have h4:=J6 (AA:=AA) (es:=AB AA) (quick:=quick) (S:=⟨E,Sn,l++[b]⟩) h.len;rw[e] at h1 h2 h3 h4;exact⟨⟨h1,h2,h4⟩,h3⟩
theorem SG.on {AA:List (List Dd)}{quick:Bool}{E Sn:List (List Int)}{l:List Bd}{b:Bd}(h:SG AA quick E Sn (l++[b]))(hb:AQ AA=true)(hs:QG Sn (Cm b)=false)(he:Co AA b=false):SG AA quick E (EL Sn (Cm b)) (l++BK AA (AB AA) quick b)/\Jp AA (l++BK AA (AB AA) quick b)<Jp AA (l++[b]):=by
 have e:Jh AA (AB AA) quick ⟨E,Sn,l++[b]⟩=⟨E,EL Sn (Cm b),l++BK AA (AB AA) quick b⟩:=by
  unfold Jh;simp only[Ii.1,Ii.2,hs,he];rfl
 have h1:=UJ h.si;have h2:=Qw hb h.si h.wH;have h3:=UR hb h.si (by simp);have h4:=J6 (AA:=AA) (es:=AB AA) (quick:=quick) (S:=⟨E,Sn,l++[b]⟩) h.len;rw[e] at h1 h2 h3 h4;exact⟨⟨h1,h2,h4⟩,h3⟩
def DC (AA:List (List Dd))(es:List Ev)(quick:Bool)(b:Bd)(i:Nat):List Bd:=
 (((Ad AA b).take i).filter (fun s=>!(quick&&decide (10<=s)))).map (fun s=>if quick=true then Bf AA es b s.toNat else Am AA es b s)
theorem Tu (AA:List (List Dd))(es:List Ev)(quick:Bool)(b:Bd):DC AA es quick b (Ad AA b).length=BK AA es quick b:=by
 unfold DC BK;rw[List.take_length]
theorem IL (AA:List (List Dd))(es:List Ev)(quick:Bool)(b:Bd){i:Nat}(hi:i<(Ad AA b).length):DC AA es quick b (i+1)=DC AA es quick b i++if (quick&&decide (10<=(Ad AA b).getD i 0))=true then [] else [if quick=true then Bf AA es b ((Ad AA b).getD i 0).toNat else Am AA es b ((Ad AA b).getD i 0)]:=by
 unfold DC;rw[Gf _ _ hi,List.filter_append,List.map_append]
 congr 1
 by_cases h:(quick&&decide (10<=(Ad AA b).getD i 0))=true
 ·
  rw[if_pos h];simp only[List.filter_cons,h];rfl
 ·
  rw[if_neg h];simp only[Bool.not_eq_true] at h;simp only[List.filter_cons,h];rfl
theorem NN (AA:List (List Dd))(es:List Ev)(quick:Bool)(b:Bd)(i:Nat):(DC AA es quick b i).length<=i:=by
 unfold DC;rw[List.length_map];exact Nat.le_trans (List.length_filter_le _ _) (by rw[List.length_take];omega)
theorem Wm {AA:List (List Dd)}(hb:AQ AA=true)(b:Bd):(Ad AA b).length<=6:=by
 have hl3:=Ci hb;unfold Ad;rw[List.length_append,List.length_map,List.length_map];have h1:=List.length_filter_le (Bh AA b) (List.range AA.length);have h2:=List.length_filter_le (fun c=>!(b.AG.getD c []).isEmpty) (List.range AA.length);rw[List.length_range] at h1 h2;omega
end
theorem IZ {w:World}{ops:Array Oper}{o:Oper}{a:Act}{K:Act->World->Prop}{Q:Exit->Act->World->Prop}{E:Prop}(hgd:o.guard=none)(s x:Operand)
  (ho:o.op = .call { callee:= .builtin .append,args:=#[s,x],argTypes:=#[28,28] })
  (base:Nat) (v:Value) (zs:List Int) (hs:a.eval s=v) (hown:BM w base v zs)
  (vx:Value) (hx:a.eval x=vx) (ys:List Int) (hr:Rd w vx ys) (hz:zs.length<=1048576) (hy:ys.length<=1048576) (hb:base<=w.heap.size)
  (h:∀v' w',BM w' base v' (zs++ys)->w.grownBy w' v.ownBlock->K (a.put o.dst v') w'):
  if Region.wanted o (yielded ops a.tmps)=true then Oper.wp Tryz.prog o a w K Q else E:=by
 have hw:Region.wanted o (yielded ops a.tmps)=true:=by simp[Region.wanted,hgd]
 rw[if_pos hw];exact Cu s x ho base v zs hs hown vx hx ys hr hz hy hb (fun v' w' h1 h2 _=>h v' w' h1 h2)
theorem Rq {l:List (List Nt)}(h:∀n∈l,n.length<=100):(GQ l).length<=101*l.length:=by
 induction l with
 |nil=>simp[GQ]
 |cons n l ih=>
  have h1:=h n (by simp);have h2:=ih (fun m hm=>h m (List.mem_cons_of_mem _ hm));unfold GQ at h2 ⊢;rw[List.flatMap_cons,List.length_append,List.length_cons,List.length_map,List.length_cons];omega
theorem WJ (l:List (List Nt))(k:Nat)(h:k<l.length):GQ (l.take (k+1))=GQ (l.take k)++-2::(l.getD k []).map (fun x=>x.2.2):=by
 rw[List.take_add_one,List.getD_eq_getElem?_getD,List.getElem?_eq_getElem h];unfold GQ;rw[List.flatMap_append];simp
theorem ZT (ns:List Nt)(k:Nat)(h:k<ns.length):(ns.take (k+1)).map (fun x=>x.2.2)=(ns.take k).map (fun x=>x.2.2)++[(ns.getD k zN).2.2]:=by
 rw[List.take_add_one,List.getD_eq_getElem?_getD,List.getElem?_eq_getElem h,List.map_append];rfl
theorem VO (w:World)(x:Int):Rd (w.alloc (.cells #[.int .i64 x] 2)) (.slice (some ⟨w.heap.size,0,none⟩) 1 1) [x]:=by
 refine⟨_,_,rfl,.inr ⟨w.heap.size,0,rfl,by rw[AD];omega,fun i hi=>?_⟩⟩;obtain rfl:i=0:=by simp at hi;omega
 rw[cell_of_row _ _ 0 _ _ _ (heap_alloc_new w _)];rfl
theorem Tm (w:World)(v:BV)(AA:List (List Dd))(b:Bd)(h:CV w v AA b)(hx:b.AL.length<=3)(hl:b.AO.length<=3)(hs:b.sn.length<=12)(hn:b.AG.length<=3)(hq:∀n∈b.AG,n.length<=100):
  Calls Tryz.prog 77 #[v.agg] w fun e w'=>∃v',e = .returned v'/\BM w' w.heap.size v' (Cm b)/\AC w w':=by
 obtain⟨aW,aP,aL,aN,aX,aS,aF,aR,cW,cP,cL,cN,cX,cS,cF,cR,rfl⟩:=h.shapes;obtain⟨W0,hW0⟩:∃W:World,W=w.alloc (.cells #[.slice aW AA.length cW,.slice aP b.AM.length cP,.slice aL b.AO.length cL,.slice aN b.AG.length cN,.slice aX b.AL.length cX,.slice aS b.sn.length cS,.slice aF b.fr.length cF,.slice aR b.rws.length cR] 36):=⟨_,rfl⟩;have K0:AC w W0:=by rw[hW0];exact (AC.refl w).alloc _
 have hD:W0.heap[w.heap.size]? = some (.cells #[.slice aW AA.length cW,.slice aP b.AM.length cP,.slice aL b.AO.length cL,.slice aN b.AG.length cN,.slice aX b.AL.length cX,.slice aS b.sn.length cS,.slice aF b.fr.length cF,.slice aR b.rws.length cR] 36 (0,0)):=by rw[hW0];exact heap_alloc_new _ _
 have s0:w.heap.size<W0.heap.size:=by rw[hW0,AD];omega
 have KD:AC W0 W0.drew:=(AC.refl W0).drew;have c2:W0.drew.cell? ⟨w.heap.size,2,none⟩=some (.slice aL b.AO.length cL):=by rw[KD.cell s0,cell_of_row _ _ 2 _ _ _ hD];rfl
 have c4:W0.drew.cell? ⟨w.heap.size,4,none⟩=some (.slice aX b.AL.length cX):=by rw[KD.cell s0,cell_of_row _ _ 4 _ _ _ hD];rfl
 have c5:W0.drew.cell? ⟨w.heap.size,5,none⟩=some (.slice aS b.sn.length cS):=by rw[KD.cell s0,cell_of_row _ _ 5 _ _ _ hD];rfl
 have c3:W0.cell? ⟨w.heap.size,3,none⟩=some (.slice aN b.AG.length cN):=by rw[cell_of_row _ _ 3 _ _ _ hD];rfl
 have HX:=Lib.hid (h.X.keep (K0.trans KD));have HL:=Lib.hid (h.L.keep (K0.trans KD));have HS:=Lib.hid (h.S.keep (K0.trans KD));have HN:=h.N.keep K0;clear h hD;go_enter Tryz.func77,Tryz.ntmps77
 go_upto_region 1 with fail
 rw[<-hW0];clear hW0;go_cut [3] from 6 (fun s3 wx=>∃v3,v3=s3/\BM wx W0.heap.size v3 (b.AL++b.AO++b.sn)/\AC W0 wx)
 case first=>
  clear HN c3;go_wp2
  go_region_law ((first
   | (refine IZ rfl (.tmp 11) (.tmp 13) rfl W0.heap.size _ (b.AL++b.AO) rfl O2 _ rfl b.sn (HS.out.keep wY) (by simp;omega) (by omega) KW2.size ?_;intro v3 w3 O3 g3;have K3:=KW2.grown g3 (fun k hk=>O2.ge k hk);clear g3)
   | (refine IZ rfl (.tmp 8) (.tmp 10) rfl W0.heap.size _ b.AL rfl O1 _ rfl b.AO (HL.out.keep pz) (by omega) (by omega) KW1.size ?_;intro v2 w2 O2 g2;have wY:=pz.grown g2 (fun k hk=>by have:=O1.ge k hk;rw[A7];exact this);have KW2:=KD.trans wY;have c5'':=(wY.cell (by rw[A7];exact s0)).trans c5;clear g2)
   | (go_simp;refine (DI _ _ b.AL HX.out (by omega)).mono ?_;rintro e w1 ⟨v1,rfl,O1,pz⟩;have KW1:=KD.trans pz;have c2':=(pz.cell (by rw[A7];exact s0)).trans c2;have c5':=(pz.cell (by rw[A7];exact s0)).trans c5)))
  all_goals
   go_wp2;go_meet;exact⟨_,rfl,O3,K3⟩
 case rest=>
  obtain⟨v3,rfl,O3,K3⟩:=hcut;clear c2 c4 c5 HX HL HS KD;obtain⟨a',c',he',hN⟩:=HN;simp only[Value.slice.injEq,true_and] at he';obtain⟨rfl,rfl⟩:=he';obtain⟨A,hA⟩:∃A,A=b.AL++b.AO++b.sn:=⟨_,rfl⟩;have hA15:A.length<=18:=by rw[hA];simp;omega
  have HK:Hid (Cm b=A++GQ b.AG):=Lib.hid (by rw[hA];rfl);rw[<-hA] at O3;clear hA hx hl hs;have HQ:=Lib.hid hq;clear hq;go_wp2;go_loopw [3,4,5] (fun s3 s4 _ wr=>∃(i:Nat) (v:Value),v=s3/\i<=b.AG.length/\s4 = .int .i64 (i:Int)/\BM wr W0.heap.size v (A++GQ (b.AG.take i))/\AC W0 wr) (fun _ s4 _ _=>b.AG.length-(intOf s4).toNat)
  case atStart=>exact⟨0,_,rfl,Nat.zero_le _,rfl,by simpa [GQ] using O3,K3⟩
  case round=>
   obtain⟨i,v,rfl,hi,rfl,ho,hK⟩:=hrel;clear O3 K3;have d3:=(hK.cell s0).trans c3;by_cases hlt:i<b.AG.length
   ·
    rcases hN with h0|⟨bn,on,rfl,hbn,hcn⟩
    . exfalso;rw[h0] at hlt;simp at hlt
    obtain⟨vi,e1,rn⟩:=hcn i hlt;obtain⟨ai,ci,rfl,rn⟩:=rn;have hml:=HQ.out (b.AG.getD i []) (by rw[List.getD_eq_getElem?_getD,List.getElem?_eq_getElem hlt];exact List.getElem_mem hlt);have hfl:=Rq (l:=b.AG.take i) (fun n hn=>HQ.out n (List.mem_of_mem_take hn));rw[List.length_take,Nat.min_eq_left hi] at hfl;have HF:=Lib.hid (WJ b.AG i hlt);obtain⟨Fi,vT⟩:∃F,F=A++GQ (b.AG.take i):=⟨_,rfl⟩;have hFl:Fi.length<=400:=by rw[vT,List.length_append];omega
    rw[<-vT] at ho;have HFI:=Lib.hid vT;clear vT hfl hcn;have OM:=Lib.hid (VO wr (-2));go_wp2_with (at_builtin;refine BB rfl _ _ rfl W0.heap.size _ Fi rfl (ho.keep ((AC.refl wr).alloc _)) _ rfl [-2] OM.out (by omega) (by simp) (by rw[AD];have:=hK.size;omega) ?_)
    intro v5 w5 o5 g5 _;have K5:=(hK.alloc (.cells #[.int .i64 (-2)] 2)).grown g5 (fun k hk=>ho.ge k hk);clear g5 ho OM;generalize b.AG.getD i []=ns at *;go_wp2;go_loopw [3,5] (fun s3 s5 wq=>∃(k:Nat) (v:Value),v=s3/\k<=ns.length/\s5 = .int .i64 (k:Int)/\BM wq W0.heap.size v (Fi++[-2]++(ns.take k).map (fun x=>x.2.2))/\AC W0 wq) (fun _ s5 _=>ns.length-(intOf s5).toNat)
    case atStart=>exact⟨0,_,rfl,Nat.zero_le _,rfl,by simpa using o5,K5⟩
    case round=>
     obtain⟨k,v,rfl,hk,rfl,ho,hq2⟩:=hrel;have d3':=(hq2.cell s0).trans c3;have e1':=(hq2.cell hbn).trans e1;by_cases hlk:k<ns.length
     ·
      rcases rn with h0|⟨bb,oo,rfl,hbb,hcb⟩
      . exfalso;rw[h0] at hlk;simp at hlk
      have g2:=(hq2.cell hbb).trans (qQ (hcb k _ (Ir hlk))).2.2;have HM:=Lib.hid (ZT ns k hlk);generalize (ns.getD k zN).2.2=ev at g2 HM;obtain⟨Gk,vU⟩:∃F,F=Fi++[-2]++(ns.take k).map (fun x=>x.2.2):=⟨_,rfl⟩;have hGl:Gk.length<=600:=by rw[vU];simp;omega
      rw[<-vU] at ho;have HGK:=Lib.hid vU;clear vU hcb;have j1:(0:Int)<=(k:Int):=Int.natCast_nonneg _;have j2:(k:Int)<(ns.length:Int):=by omega
      have i1:(0:Int)<=(i:Int):=Int.natCast_nonneg _;have i2:(i:Int)<(b.AG.length:Int):=by omega
      have OM:=Lib.hid (VO wr ev);go_wp2_with (at_builtin;refine BB rfl _ _ rfl W0.heap.size _ Gk rfl (ho.keep ((AC.refl wr).alloc _)) _ rfl [ev] OM.out (by omega) (by simp) (by rw[AD];have:=hq2.size;omega) ?_)
      intro v6 w6 o6 g6 _;have K6:=(hq2.alloc (.cells #[.int .i64 ev] 2)).grown g6 (fun k hk=>ho.ge k hk);clear g6 ho OM;go_wp2;go_roundw;case rel=>exact⟨k+1,_,rfl,by omega,by go_num,by rw[HM.out,<-List.append_assoc,<-HGK.out];exact o6,K6⟩
      case measure=>simp[intOf];omega
     ·
      obtain rfl:k=ns.length:=by omega
      rw[List.take_length] at ho;have i1:(0:Int)<=(i:Int):=Int.natCast_nonneg _;have i2:(i:Int)<(b.AG.length:Int):=by omega
      go_wp2;go_roundw;case rel=>exact⟨i+1,_,rfl,by omega,by go_num,by rw[HF.out,<-List.append_assoc,<-HFI.out];simpa using ho,hq2⟩
      case measure=>simp[intOf];omega
   ·
    obtain rfl:i=b.AG.length:=by omega
    rw[List.take_length,<-HK.out] at ho;go_wp2;go_ret;exact⟨_,rfl,ho.Az (by omega),K0.trans hK⟩
end Go.Proofs.YtnmelakgmgenjaaGreat
