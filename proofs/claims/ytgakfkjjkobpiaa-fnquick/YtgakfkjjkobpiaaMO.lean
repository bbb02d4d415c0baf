/- Gathered texts. -/
import Derived.Test.YtgakfkjjkobpiaaMN
import Derived.Deep.Cut
import Derived.Lib.Hide
import Derived.BigRegion
import Derived.Deep.RegionLaw
import Derived.RegionTactic
import Derived.Laws.Tables
set_option maxRecDepth 100000
set_option maxHeartbeats 8000000
namespace Go.Proofs.Ytgakfkjjkobpiaa
open Go.ChangeShapes Go.WideShapes Go.ChangeAt Go.RowKit
def Box (w:World)(D:Nat)(k p v g:Int):Prop:=w.heap[D]? = some (deedC k p v g)
theorem Box.lt {w:World}{D:Nat}{k p v g:Int}(h:Box w D k p v g):D<w.heap.size:=(Array.getElem?_eq_some_iff.1 h).1
theorem Box.kept {w w':World}{D:Nat}{k p v g:Int}{row:Option Nat}(h:Box w D k p v g)(hg:w.grownBy w' row)(hne:row≠some D):Box w' D k p v g:=
 (hg.block D h.lt (fun e=>hne e.symm)).trans h
theorem Box.cells {w:World}{D:Nat}{k p v g:Int}(h:Box w D k p v g):
  w.cell? ⟨D,0,none⟩=some (.int .i64 k)∧w.cell? ⟨D,1,none⟩=some (.int .i64 p)∧w.cell? ⟨D,2,none⟩=some (.int .i64 v)∧w.cell? ⟨D,3,none⟩=some (.int .i64 g):=
 ⟨cell_of_row w D 0 _ _ (0,0) h,cell_of_row w D 1 _ _ (0,0) h,cell_of_row w D 2 _ _ (0,0) h,cell_of_row w D 3 _ _ (0,0) h⟩
theorem Box.free {w:World}{D:Nat}{k p v g:Int}(h:Box w D k p v g):w.frozen? ⟨D,0,none⟩=false∧w.frozen? ⟨D,1,none⟩=false∧w.frozen? ⟨D,2,none⟩=false∧w.frozen? ⟨D,3,none⟩=false:=
 ⟨frozen_of_row w D 0 _ _ h,frozen_of_row w D 1 _ _ h,frozen_of_row w D 2 _ _ h,frozen_of_row w D 3 _ _ h⟩
theorem Box.set0 {w:World}{D:Nat}{k p v g:Int}(h:Box w D k p v g)(x:Int):Box (w.setCell ⟨D,0,none⟩ (.int .i64 x)) D x p v g:=by unfold Box;rw[heap_setCell_same w D 0 _ _ _ h];rfl
theorem Box.set1 {w:World}{D:Nat}{k p v g:Int}(h:Box w D k p v g)(x:Int):Box (w.setCell ⟨D,1,none⟩ (.int .i64 x)) D k x v g:=by unfold Box;rw[heap_setCell_same w D 1 _ _ _ h];rfl
theorem Box.set2 {w:World}{D:Nat}{k p v g:Int}(h:Box w D k p v g)(x:Int):Box (w.setCell ⟨D,2,none⟩ (.int .i64 x)) D k p x g:=by unfold Box;rw[heap_setCell_same w D 2 _ _ _ h];rfl
theorem Box.set3 {w:World}{D:Nat}{k p v g:Int}(h:Box w D k p v g)(x:Int):Box (w.setCell ⟨D,3,none⟩ (.int .i64 x)) D k p v x:=by unfold Box;rw[heap_setCell_same w D 3 _ _ _ h];rfl
theorem Box.new (w:World)(k p v g:Int):Box (w.alloc (deedC k p v g)) w.heap.size k p v g:=heap_alloc_new w _
def Dr (w wr:World)(B c:Nat):Prop:=Cur wr B c∧w.grownBy wr (some c)
theorem Dr.step {w wr wr':World}{B c:Nat}(h:Dr w wr B c)(hc:Cur wr' B c)(hg:wr.grownBy wr' (some c)):Dr w wr' B c:=⟨hc,grown_trans h.2 hg⟩
theorem Dr.alloc {w wr:World}{B c:Nat}(h:Dr w wr B c)(o:Obj):Dr w (wr.alloc o) B c:=
 ⟨h.1.keep ((Keep.refl wr).alloc o),grown_trans h.2 (World.grownBy_alloc wr o (some c))⟩
theorem Dr.set {w wr:World}{B c D:Nat}(h:Dr w wr B c)(hD:w.heap.size≤D)(hc:c<w.heap.size)(hB:B≤c)(j:Nat)(x:Value):Dr w (wr.setCell ⟨D,j,none⟩ x) B c:=by
 have hg:=grown_setCell wr D j x;refine⟨h.1.kept hg (by simp;omega) (by intro k hk;simp at hk;omega),?_⟩;exact⟨hg.os.trans h.2.os,hg.tape.trans h.2.tape,hg.output.trans h.2.output,Nat.le_trans h.2.size hg.size,fun i hi hne=>(hg.block i (Nat.lt_of_lt_of_le hi h.2.size) (by simp;omega)).trans (h.2.block i hi hne)⟩
theorem Dr.refl {w:World}{B c:Nat}(h:Cur w B c):Dr w w B c:=⟨h,grown_drewN w 0 _⟩
theorem l4Draw_any (w:World)(B c:Nat)(hc:Cur w B c):
  Calls Try.prog 141 #[.pointer (some ⟨c,0,none⟩)] w fun e w'=>∃k p v g,e = .returned (deedV k p v g)∧Dr w w' B c∧1≤k∧k≤4:=by
 have hcl:=hc.lt;have hB:=hc.1;have R0:=Box.new w 0 0 0 0;have D0:=(Dr.refl hc).alloc (deedC 0 0 0 0);go_enter Try.func141,Try.ntmps141
 go_wp2_with fail
 refine (below_any _ B c _ D0.1 (by omega)).mono ?_;rintro e w1 ⟨x,rfl,x0,x1,c1,g1⟩;have R1:=R0.kept g1 (by simp;omega);have D1:=D0.step c1 g1;clear R0 D0 c1 g1;go_wp2_with fail
 refine (below_any _ B c _ D1.1 (by omega)).mono ?_;rintro e w2 ⟨y,rfl,y0,y1,c2,g2⟩;have R2:=R1.kept g2 (by simp;omega);have D2:=D1.step c2 g2;have S2:=D2.2.size;clear R1 D1 c2 g2;have X2:=Box.new w2 (1+x) y 0 0;have R2':=R2.kept (World.grownBy_alloc w2 (deedC (1+x) y 0 0) none) (by simp);have D2':=D2.alloc (deedC (1+x) y 0 0);have hRX:w.heap.size<w2.heap.size:=R2.lt;clear R2 D2;go_wp2_with fail
 refine (once_any _ B c _ D2'.1 (by omega)).mono ?_;rintro e w3 ⟨b,rfl,c3,g3⟩;have X3:=X2.kept g3 (by simp;omega);have R3:=R2'.kept g3 (by simp;omega);have D3:=D2'.step c3 g3;clear X2 R2' D2' c3 g3;obtain⟨s0,s1,s2,s3⟩:=X3.cells;obtain⟨f0,f1,f2,f3⟩:=X3.free;have hX3:=X3.lt;go_upto_if 11 with fail
 go_cut [] from 4 (fun wx=>∃K,1≤K∧K≤4∧Box wx w2.heap.size K y 0 0∧Box wx w.heap.size 0 0 0 0∧Dr w wx B c)
 case first=>
  cases b
  ·
   go_wp2;go_meet;case rel=>exact⟨_,by omega,by omega,X3,R3,D3⟩
  ·
   go_wp2_with fail
   refine (below_any _ B c _ D3.1 (by omega)).mono ?_;rintro e w4 ⟨z,rfl,z0,z1,c4,g4⟩;have X4:=X3.kept g4 (by simp;omega);have R4:=R3.kept g4 (by simp;omega);have D4:=D3.step c4 g4;obtain⟨t0,t1,t2,t3⟩:=X4.cells;obtain⟨h0,h1,h2,h3⟩:=X4.free;have hX4:=X4.lt;go_wp2;go_meet;case rel=>exact⟨_,by omega,by omega,X4.set0 _,R4.kept (grown_setCell w4 _ 0 _) (by simp;omega),D4.set (by omega) hcl hB 0 _⟩
 case rest=>
  obtain⟨K,k0,k1,X4,R4,D4⟩:=hcut;clear X3 R3 D3 s0 s1 s2 s3 f0 f1 f2 f3 hX3;obtain⟨t0,t1,t2,t3⟩:=X4.cells;obtain⟨h0,h1,h2,h3⟩:=X4.free;have hX4:=X4.lt;have hK:K=1∨K=2∨K=3∨K=4:=by omega
  rcases hK with rfl|rfl|rfl|rfl
  ·
   clear k0 k1;obtain⟨r0,r1,r2,r3⟩:=R4.cells;obtain⟨q0,q1,q2,q3⟩:=R4.free;go_wp2;have hZ:=(((R4.set0 1).set1 y).set2 0).set3 0;refine bodyPost_ret (results_row (by rfl) _ _ w.heap.size _ _ (0,0) _ rfl hZ Try.underlying98 rfl (by kernel_rfl)) rfl ?_;exact⟨_,_,_,_,rfl,(((D4.set (Nat.le_refl _) hcl hB 0 _).set (Nat.le_refl _) hcl hB 1 _).set (Nat.le_refl _) hcl hB 2 _).set (Nat.le_refl _) hcl hB 3 _,by decide,by decide⟩
  ·
   clear k0 k1;go_wp2_with fail
   refine (below_any _ B c _ D4.1 (by omega)).mono ?_;rintro e w5 ⟨z,rfl,z0,z1,c5,g5⟩;have X5:=X4.kept g5 (by simp;omega);have R5:=R4.kept g5 (by simp;omega);have D5:=D4.step c5 g5;obtain⟨v0,v1,v2,v3⟩:=X5.cells;obtain⟨n0,n1,n2,n3⟩:=X5.free;have hX5:=X5.lt;have R6:=R5.kept (grown_setCell w5 w2.heap.size 2 (.int .i64 (1+z))) (by simp;omega);have D6:=D5.set (show w.heap.size≤w2.heap.size by omega) hcl hB 2 (.int .i64 (1+z));obtain⟨r0,r1,r2,r3⟩:=R6.cells;obtain⟨q0,q1,q2,q3⟩:=R6.free;go_wp2;have hZ:=(((R6.set0 2).set1 y).set2 (1+z)).set3 0;refine bodyPost_ret (results_row (by rfl) _ _ w.heap.size _ _ (0,0) _ rfl hZ Try.underlying98 rfl (by kernel_rfl)) rfl ?_;exact⟨_,_,_,_,rfl,(((D6.set (Nat.le_refl _) hcl hB 0 _).set (Nat.le_refl _) hcl hB 1 _).set (Nat.le_refl _) hcl hB 2 _).set (Nat.le_refl _) hcl hB 3 _,by decide,by decide⟩
  ·
   clear k0 k1;go_wp2_with fail
   refine (below_any _ B c _ D4.1 (by omega)).mono ?_;rintro e w5 ⟨z,rfl,z0,z1,c5,g5⟩;have X5:=X4.kept g5 (by simp;omega);have R5:=R4.kept g5 (by simp;omega);have D5:=D4.step c5 g5;obtain⟨v0,v1,v2,v3⟩:=X5.cells;obtain⟨n0,n1,n2,n3⟩:=X5.free;have hX5:=X5.lt;have R6:=R5.kept (grown_setCell w5 w2.heap.size 2 (.int .i64 (1+z))) (by simp;omega);have D6:=D5.set (show w.heap.size≤w2.heap.size by omega) hcl hB 2 (.int .i64 (1+z));obtain⟨r0,r1,r2,r3⟩:=R6.cells;obtain⟨q0,q1,q2,q3⟩:=R6.free;go_wp2;have hZ:=(((R6.set0 3).set1 y).set2 (1+z)).set3 0;refine bodyPost_ret (results_row (by rfl) _ _ w.heap.size _ _ (0,0) _ rfl hZ Try.underlying98 rfl (by kernel_rfl)) rfl ?_;exact⟨_,_,_,_,rfl,(((D6.set (Nat.le_refl _) hcl hB 0 _).set (Nat.le_refl _) hcl hB 1 _).set (Nat.le_refl _) hcl hB 2 _).set (Nat.le_refl _) hcl hB 3 _,by decide,by decide⟩
  ·
   clear k0 k1;have R6:=R4.kept (grown_setCell wc w2.heap.size 1 (.int .i64 0)) (by simp;omega);have D6:=D4.set (show w.heap.size≤w2.heap.size by omega) hcl hB 1 (.int .i64 0);obtain⟨r0,r1,r2,r3⟩:=R6.cells;obtain⟨q0,q1,q2,q3⟩:=R6.free;go_wp2;have hZ:=(((R6.set0 4).set1 0).set2 0).set3 0;refine bodyPost_ret (results_row (by rfl) _ _ w.heap.size _ _ (0,0) _ rfl hZ Try.underlying98 rfl (by kernel_rfl)) rfl ?_;exact⟨_,_,_,_,rfl,(((D6.set (Nat.le_refl _) hcl hB 0 _).set (Nat.le_refl _) hcl hB 1 _).set (Nat.le_refl _) hcl hB 2 _).set (Nat.le_refl _) hcl hB 3 _,by decide,by decide⟩
theorem l4DrawAny_any (w:World)(B c:Nat)(hc:Cur w B c):
  Calls Try.prog 129 #[.pointer (some ⟨c,0,none⟩)] w fun e w'=>∃k p v g,e = .returned (deedV k p v g)∧Dr w w' B c:=by
 have hcl:=hc.lt;have hB:=hc.1;have R0:=Box.new w 0 0 0 0;have D0:=(Dr.refl hc).alloc (deedC 0 0 0 0);go_enter Try.func129,Try.ntmps129
 go_wp2_with fail
 refine (l4Draw_any _ B c D0.1).mono ?_;rintro e w1 ⟨k,p,v,g,rfl,⟨c1,g1⟩,-,-⟩;have R1:=R0.kept g1 (by simp;omega);have D1:=D0.step c1 g1;clear R0 D0 c1 g1;have hRX:w.heap.size<w1.heap.size:=R1.lt;have X2:=Box.new w1 k p v g;have R2:=R1.kept (World.grownBy_alloc w1 (deedC k p v g) none) (by simp);have D2:=D1.alloc (deedC k p v g);clear R1 D1;obtain⟨W2,hW2⟩:∃W2,W2=w1.alloc (deedC k p v g):=⟨_,rfl⟩;go_upto_region 2 with fail
 go_cut [12] from 4 (fun s12 wx=>∃b,s12 = .bool b∧Box wx w1.heap.size k p v g∧Box wx w.heap.size 0 0 0 0∧Dr w wx B c)
 case first=>
  clear hW2;by_cases hk:k≤2
  ·
   go_wp2_with fail
   refine (once_any _ B c _ D2.1 (by omega)).mono ?_;rintro e w3 ⟨b,rfl,c3,g3⟩;go_wp2;go_meet;case rel=>exact⟨_,rfl,X2.kept g3 (by simp;omega),R2.kept g3 (by simp;omega),D2.step c3 g3⟩
  ·
   go_wp2;go_meet;case rel=>exact⟨_,rfl,X2,R2,D2⟩
 case rest=>
  obtain⟨b,rfl,X3,R3,D3⟩:=hcut;clear X2 R2 D2 hW2;go_upto_if 12 with fail
  go_cut [] from 4 (fun wx=>∃g,Box wx w1.heap.size k p v g∧Box wx w.heap.size 0 0 0 0∧Dr w wx B c)
  case first=>
   cases b
   ·
    go_wp2;go_meet;case rel=>exact⟨_,X3,R3,D3⟩
   ·
    go_wp2_with fail
    refine (below_any _ B c _ D3.1 (by omega)).mono ?_;rintro e w4 ⟨z,rfl,z0,z1,c4,g4⟩;have X4:=X3.kept g4 (by simp;omega);have R4:=R3.kept g4 (by simp;omega);have D4:=D3.step c4 g4;obtain⟨t0,t1,t2,t3⟩:=X4.cells;obtain⟨h0,h1,h2,h3⟩:=X4.free;have hX4:=X4.lt;go_wp2;go_meet;case rel=>exact⟨_,X4.set3 _,R4.kept (grown_setCell w4 _ 3 _) (by simp;omega),D4.set (by omega) hcl hB 3 _⟩
  case rest=>
   clear X3 R3 D3;obtain⟨g,X3,R3,D3⟩:=hcut;go_wp2_with fail
   refine (once_any _ B c _ D3.1 (by omega)).mono ?_;rintro e w4 ⟨b,rfl,c4,g4⟩;have X4:=X3.kept g4 (by simp;omega);have R4:=R3.kept g4 (by simp;omega);have D4:=D3.step c4 g4;clear X3 R3 D3 c4 g4;go_upto_if 18 with fail
   go_cut [] from 4 (fun wx=>∃k p v g,Box wx w1.heap.size k p v g∧Box wx w.heap.size 0 0 0 0∧Dr w wx B c)
   case first=>
    cases b
    ·
     go_wp2;go_meet;case rel=>exact⟨_,_,_,_,X4,R4,D4⟩
    go_wp2_with fail
    refine (below_any _ B c _ D4.1 (by omega)).mono ?_;rintro e w5 ⟨q,rfl,q0,q1,c5,g5⟩;have X5:=X4.kept g5 (by simp;omega);have R5:=R4.kept g5 (by simp;omega);have D5:=D4.step c5 g5;have hX5:=X5.lt;clear X4 R4 D4 c5 g5;have hq:q=0∨q=1∨q=2∨q=3:=by omega
    clear q0 q1;rcases hq with rfl|rfl|rfl|rfl
    ·
     go_wp2_with fail
     refine (from_any _ B c _ _ D5.1 (by omega) (by omega) (by omega)).mono ?_;rintro e w6 ⟨z,rfl,z0,z1,c6,g6⟩;have X6:=X5.kept g6 (by simp;omega);have R6:=R5.kept g6 (by simp;omega);have D6:=D5.step c6 g6;obtain⟨v0,v1,v2,v3⟩:=X6.cells;obtain⟨n0,n1,n2,n3⟩:=X6.free;have hX6:=X6.lt;go_wp2;go_meet;case rel=>exact⟨_,_,_,_,X6.set0 _,R6.kept (grown_setCell w6 _ 0 _) (by simp;omega),D6.set (by omega) hcl hB 0 _⟩
    ·
     have DL:=D5.alloc (.cells #[.int .i64 (-1),.int .i64 2,.int .i64 3] 2);have XL:=X5.kept (World.grownBy_alloc w5 (.cells #[.int .i64 (-1),.int .i64 2,.int .i64 3] 2) none) (by simp);have RL:=R5.kept (World.grownBy_alloc w5 (.cells #[.int .i64 (-1),.int .i64 2,.int .i64 3] 2) none) (by simp);have hSz:=heap_size w5 (.cells #[.int .i64 (-1),.int .i64 2,.int .i64 3] 2);go_wp2_with fail
     refine (below_any _ B c _ DL.1 (by omega)).mono ?_;rintro e w6 ⟨z,rfl,z0,z1,c6,g6⟩;obtain⟨zn,rfl⟩:=Int.eq_ofNat_of_zero_le z0;obtain⟨y,hy⟩:=lit_int (w1:=w5) (e:=2) [-1,2,3] g6 (by simp;omega) zn (by simp;omega);have hS6:w5.heap.size<w6.heap.size:=by have:=g6.size;omega
     have X6:=XL.kept g6 (by simp;omega);have R6:=RL.kept g6 (by simp;omega);have D6:=DL.step c6 g6;clear DL XL RL hSz c6 g6;obtain⟨v0,v1,v2,v3⟩:=X6.cells;obtain⟨n0,n1,n2,n3⟩:=X6.free;have hX6:=X6.lt;go_wp2;go_meet;case rel=>exact⟨_,_,_,_,X6.set1 _,R6.kept (grown_setCell w6 _ 1 _) (by simp;omega),D6.set (by omega) hcl hB 1 _⟩
    ·
     have DL:=D5.alloc (.cells #[.int .i64 (-1),.int .i64 0,.int .i64 9,.int .i64 10] 2);have XL:=X5.kept (World.grownBy_alloc w5 (.cells #[.int .i64 (-1),.int .i64 0,.int .i64 9,.int .i64 10] 2) none) (by simp);have RL:=R5.kept (World.grownBy_alloc w5 (.cells #[.int .i64 (-1),.int .i64 0,.int .i64 9,.int .i64 10] 2) none) (by simp);have hSz:=heap_size w5 (.cells #[.int .i64 (-1),.int .i64 0,.int .i64 9,.int .i64 10] 2);go_wp2_with fail
     refine (below_any _ B c _ DL.1 (by omega)).mono ?_;rintro e w6 ⟨z,rfl,z0,z1,c6,g6⟩;obtain⟨zn,rfl⟩:=Int.eq_ofNat_of_zero_le z0;obtain⟨y,hy⟩:=lit_int (w1:=w5) (e:=2) [-1,0,9,10] g6 (by simp;omega) zn (by simp;omega);have hS6:w5.heap.size<w6.heap.size:=by have:=g6.size;omega
     have X6:=XL.kept g6 (by simp;omega);have R6:=RL.kept g6 (by simp;omega);have D6:=DL.step c6 g6;clear DL XL RL hSz c6 g6;obtain⟨v0,v1,v2,v3⟩:=X6.cells;obtain⟨n0,n1,n2,n3⟩:=X6.free;have hX6:=X6.lt;go_wp2;go_meet;case rel=>exact⟨_,_,_,_,X6.set2 _,R6.kept (grown_setCell w6 _ 2 _) (by simp;omega),D6.set (by omega) hcl hB 2 _⟩
    ·
     have DL:=D5.alloc (.cells #[.int .i64 (-1),.int .i64 9,.int .i64 10] 2);have XL:=X5.kept (World.grownBy_alloc w5 (.cells #[.int .i64 (-1),.int .i64 9,.int .i64 10] 2) none) (by simp);have RL:=R5.kept (World.grownBy_alloc w5 (.cells #[.int .i64 (-1),.int .i64 9,.int .i64 10] 2) none) (by simp);have hSz:=heap_size w5 (.cells #[.int .i64 (-1),.int .i64 9,.int .i64 10] 2);go_wp2_with fail
     refine (below_any _ B c _ DL.1 (by omega)).mono ?_;rintro e w6 ⟨z,rfl,z0,z1,c6,g6⟩;obtain⟨zn,rfl⟩:=Int.eq_ofNat_of_zero_le z0;obtain⟨y,hy⟩:=lit_int (w1:=w5) (e:=2) [-1,9,10] g6 (by simp;omega) zn (by simp;omega);have hS6:w5.heap.size<w6.heap.size:=by have:=g6.size;omega
     have X6:=XL.kept g6 (by simp;omega);have R6:=RL.kept g6 (by simp;omega);have D6:=DL.step c6 g6;clear DL XL RL hSz c6 g6;obtain⟨v0,v1,v2,v3⟩:=X6.cells;obtain⟨n0,n1,n2,n3⟩:=X6.free;have hX6:=X6.lt;go_wp2;go_meet;case rel=>exact⟨_,_,_,_,X6.set3 _,R6.kept (grown_setCell w6 _ 3 _) (by simp;omega),D6.set (by omega) hcl hB 3 _⟩
   case rest=>
    clear X4 R4 D4;obtain⟨k,p,v,g,X4,R4,D4⟩:=hcut;obtain⟨t0,t1,t2,t3⟩:=X4.cells;have hX4:=X4.lt;obtain⟨r0,r1,r2,r3⟩:=R4.cells;obtain⟨q0,q1,q2,q3⟩:=R4.free;go_wp2;have hZ:=(((R4.set0 k).set1 p).set2 v).set3 g;refine bodyPost_ret (results_row (by rfl) _ _ w.heap.size _ _ (0,0) _ rfl hZ Try.underlying98 rfl (by kernel_rfl)) rfl ?_;exact⟨_,_,_,_,rfl,(((D4.set (Nat.le_refl _) hcl hB 0 _).set (Nat.le_refl _) hcl hB 1 _).set (Nat.le_refl _) hcl hB 2 _).set (Nat.le_refl _) hcl hB 3 _⟩
theorem new_cell (w:World)(cs:Array Value)(t:TypeId)(n i:Nat)(hn:n=w.heap.size):(w.alloc (.cells cs t)).cell? ⟨n,0+i,none⟩=cs[i]?:=by
 subst hn;rw[Nat.zero_add,cell_of_row _ w.heap.size i _ _ (0,0) (heap_alloc_new w _)]
theorem Dr.grow {w wr w':World}{B c:Nat}{row:Option Nat}(h:Dr w wr B c)(hg:wr.grownBy w' row)(hr:∀k,row=some k→w.heap.size≤k)(hc:c<w.heap.size)(hB:B≤c):Dr w w' B c:=by
 refine⟨h.1.kept hg (fun e=>by have:=hr c e;omega) (fun k hk=>by have:=hr k hk;omega),?_⟩;exact⟨hg.os.trans h.2.os,hg.tape.trans h.2.tape,hg.output.trans h.2.output,Nat.le_trans h.2.size hg.size,fun i hi hne=>(hg.block i (Nat.lt_of_lt_of_le hi h.2.size) (fun e=>by have:=hr i e.symm;omega)).trans (h.2.block i hi hne)⟩
theorem Dr.trans {a b d:World}{B c:Nat}(h:Dr a b B c)(k:Dr b d B c):Dr a d B c:=⟨k.1,grown_trans h.2 k.2⟩
theorem AppD.at {w:World}{base:Nat}{v:Value}{ds:List Dd}(h:AppD w base v ds)(hn:0<ds.length):
  ∃g c,v = .slice (some ⟨g,0,none⟩) ds.length c∧base≤g∧g<w.heap.size∧(∀i,i<ds.length→AtD w g (i*4) (ds.getD i zD))∧∀i,w.frozen? ⟨g,i,none⟩=false:=by
 obtain⟨a,c,rfl,r⟩:=h.ownD;rcases r with r|⟨g,rfl,hb,hB,hA⟩
 · rw[r] at hn;simp at hn
 · exact⟨g,_,rfl,hb,hB.lt,hA,hB.free⟩
theorem AppD.cells {w:World}{base g n c:Nat}{ds:List Dd}(h:AppD w base (.slice (some ⟨g,0,none⟩) n c) ds){i:Nat}(hi:i<ds.length):AtD w g (i*4) (ds.getD i zD)∧w.frozen? ⟨g,i*4+3,none⟩=false∧g<w.heap.size:=by
 obtain⟨g',c',e,_,hg,hA,hF⟩:=h.at (by omega);simp only[Value.slice.injEq,Option.some.injEq,Addr.mk.injEq,and_true] at e;obtain⟨rfl,_,_⟩:=e;exact⟨hA i hi,hF _,hg⟩
theorem AppX.cellAt {w:World}{base N g n c:Nat}{V:Nat→Value}{dss:List (List Dd)}(h:AppX w base N (.slice (some ⟨g,0,none⟩) n c) V dss){i:Nat}(hi:i<dss.length):w.cell? ⟨g,i,none⟩=some (V i)∧g<w.heap.size:=by
 obtain⟨g',c',e,_,_,hg,_,hC,_⟩:=h.at (by omega);simp only[Value.slice.injEq,Option.some.injEq,Addr.mk.injEq,and_true] at e;obtain⟨rfl,_,_⟩:=e;exact⟨hC i hi,hg⟩
theorem len_push {dss:List (List Dd)}{L:List Dd}(h:∀i,i<dss.length→(dss.getD i []).length≤4)(hL:L.length≤4):∀i,i<(dss++[L]).length→((dss++[L]).getD i []).length≤4:=by
 intro i hi;by_cases e:i<dss.length
 · rw[getD_left dss [L] i [] e];exact h i e
 ·
  have:i=dss.length:=by simp at hi;omega
  subst this;rw[getD_last];exact hL
theorem len_set {n k:Nat}{fss:List (List Dd)}{ds:List Dd}(hk:k<fss.length)(h:∀i,i<n→(fss.getD i []).length≤4)(hd:ds.length≤4):∀i,i<n→((fss.set k ds).getD i []).length≤4:=by
 intro i hi;rw[getD_setW fss k i ds [] hk];split
 · exact hd
 · exact h i hi
theorem appX_empty (w:World):AppX (w.alloc (.cells #[] 72)) w.heap.size (w.alloc (.cells #[] 72)).heap.size (.slice (some ⟨w.heap.size,0,none⟩) 0 0) (fun _=>vZ) []:=
 ⟨World.ownsRow_lit w #[] 0 (Nat.le_refl _) (by decide) rfl,fun k hk=>by simp[Value.ownBlock] at hk;rw[heap_size];omega,by simp,by simp,by simp,by simp⟩
theorem appD_emptyX (w:World):AppD (w.alloc (.cells #[] 98)) w.heap.size (.slice (some ⟨w.heap.size,0,none⟩) 0 0) []:=
 World.ownsRow_lit w #[] 0 (Nat.le_refl _) (by decide) rfl
theorem l5Draw_any (w:World)(B c:Nat)(hc:Cur w B c):
  Calls Try.prog 127 #[.pointer (some ⟨c,0,none⟩)] w fun e w'=>∃v V dss,e = .returned v∧AppX w' w.heap.size w'.heap.size v V dss∧1≤dss.length∧dss.length≤3∧(∀i,i<dss.length→(dss.getD i []).length≤4)∧Dr w w' B c:=by
 have hcl:=hc.lt;have hB:=hc.1;obtain⟨i0,hi,hz0,hz1,hz2⟩:=info_parts Try.infoD;obtain⟨j0,hj,hy0,hy1,hy2⟩:=info_parts Try.infoDS;have a0:=appX_empty w;have D0:=(Dr.refl hc).alloc (.cells #[] 72);go_enter Try.func127,Try.ntmps127
 go_wp2_with fail
 refine (below_any _ B c _ D0.1 (by omega)).mono ?_;rintro e w1 ⟨x,rfl,x0,x1,c1,g1⟩;have a1:=(a0.kept g1 hcl).up g1.size;have D1:=D0.step c1 g1;obtain⟨n0,rfl⟩:=Int.eq_ofNat_of_zero_le x0;clear a0 D0 c1 g1 x0;go_wp2;go_loopw [3,4,5,6] (fun x e4 e5 i wr=>∃(r de:Nat) (ev:Int) (V:Nat→Value) (dss:List (List Dd)),i = .int .i64 r∧e4 = .int .i64 ev∧e5 = .int .i64 de∧0≤ev∧ev≤6∧de≤12∧1≤dss.length+r∧dss.length+r≤3∧AppX wr w.heap.size wr.heap.size x V dss∧Hid (∀i,i<dss.length→(dss.getD i []).length≤4)∧Dr w wr B c) (fun _ _ _ i _=>(intOf i).toNat)
 case atStart=>exact⟨1+n0,0,0,_,[],by go_num,rfl,rfl,by omega,by omega,by omega,by simp,by simp;omega,a1,Lib.hid (by simp),D1⟩
 case round=>
  obtain⟨r,de,ev,V,dss,rfl,rfl,rfl,e0,e6,d12,r1,r3,hX,hL4,hD⟩:=hrel;clear a1 D1;by_cases hr0:r=0
  ·
   have hr:(r:Int)≤0:=by omega
   have hrd:decide (0<r)=false:=by simp[hr0]
   have n1:1≤dss.length:=by omega
   have n3:dss.length≤3:=by omega
   clear hr0 r1 r3;obtain⟨g,cx,rfl,hgb,hgN,hgw,hcx,hcell,-⟩:=hX.at (by omega);go_wp2;obtain⟨wo,hwo⟩:∃wo:World,wo=wr:=⟨_,rfl⟩;subst hwo;clear hcell;go_loopw [11] (fun i wr=>∃(k:Nat),k≤dss.length∧i = .int .i64 k∧Hid (∃ess:List (List Dd),ess.length≤dss.length∧dss.length≤ess.length∧Hid (∀i,i<dss.length→(ess.getD i []).length≤4)∧AppX wr w.heap.size wo.heap.size (.slice (some ⟨g,0,none⟩) dss.length cx) V ess∧wo.heap.size≤wr.heap.size∧Dr w wr B c)) (fun i _=>dss.length-(intOf i).toNat)
   case atStart=>exact⟨0,Nat.zero_le _,rfl,Lib.hid ⟨dss,Nat.le_refl _,Nat.le_refl _,hL4,hX,Nat.le_refl _,hD⟩⟩
   case round=>
    obtain⟨k,hk,rfl,hH⟩:=hrel;clear hD;obtain⟨ess,el1,el2,hE4,hY,hsz,hD⟩:=hH.out;clear hH;by_cases hlt:k<dss.length
    ·
     have hEk:=hE4.out k hlt;have hAk:=hY.each k (by omega);obtain⟨d1,hgw2⟩:=hY.cellAt (i:=k) (by omega);obtain⟨a5,c5,hVk⟩:=hAk.shape;have HLk:Hid (∀q,q=(ess.getD k []).length→(ess.getD k []).length=q):=Lib.hid (fun q h=>h.symm);obtain⟨lk,hlk⟩:∃lk,lk=(ess.getD k []).length:=⟨_,rfl⟩;have HL2:=Lib.hid hlk;rw[←hlk] at hVk hEk;rw[hVk] at d1;clear hlk HLk;have i1:(0:Int)≤(k:Int):=Int.natCast_nonneg _;have i2:(k:Int)<(dss.length:Int):=by omega
     by_cases h1:1<lk
     ·
      obtain⟨gk,ck,e1,hgk,-⟩:=hAk.at (by rw[←HL2.out];omega);rw[hVk] at e1;simp only[Value.slice.injEq] at e1;obtain⟨rfl,-,-⟩:=e1;have HV:=Lib.hid hVk;clear hVk hAk;have h1i:(1:Int)<(lk:Int):=by omega
      go_wp2_with fail
      refine (once_any _ B c _ hD.1 (by omega)).mono ?_;rintro e w2 ⟨b,rfl,c2,g2⟩;have hY2:=hY.kept g2 hcl;have hD2:=hD.step c2 g2;have hsz2:=Nat.le_trans hsz g2.size;clear hY hD hsz c2 g2 d1 hgw2;cases b
      ·
       go_wp2;go_roundw;case rel=>exact⟨k+1,by omega,by go_num,Lib.hid ⟨ess,el1,el2,hE4,hY2,hsz2,hD2⟩⟩
       case measure=>simp[intOf];omega
      ·
       have hw1:IntKind.i64.wrap ((lk:Int)-1)=(lk:Int)-1:=by rw[IntKind.wrap_i64];omega
       go_wp2_with fail
       refine (below_any _ B c _ hD2.1 (by omega)).mono ?_;rintro e w3 ⟨x,rfl,x0,x2,c3,g3⟩;have hY3:=hY2.kept g3 hcl;have hD3:=hD2.step c3 g3;have hsz3:=Nat.le_trans hsz2 g3.size;obtain⟨f,rfl⟩:=Int.eq_ofNat_of_zero_le x0;clear hY2 hD2 hsz2 c3 g3 x0;go_wp2;go_loopw [14] (fun i wq=>∃(q:Nat),q≤lk∧i = .int .i64 q∧Hid (∃fss:List (List Dd),fss.length≤dss.length∧dss.length≤fss.length∧Hid (∀i,i<dss.length→(fss.getD i []).length≤4)∧Hid ((fss.getD k []).length=lk)∧AppX wq w.heap.size wo.heap.size (.slice (some ⟨g,0,none⟩) dss.length cx) V fss∧wo.heap.size≤wq.heap.size∧Dr w wq B c)) (fun i _=>lk-(intOf i).toNat)
       case atStart=>exact⟨f,by omega,rfl,Lib.hid ⟨ess,el1,el2,hE4,Lib.hid HL2.out.symm,hY3,hsz3,hD3⟩⟩
       case round=>
        obtain⟨q,hq,rfl,hH⟩:=hrel;obtain⟨fss,l1,l2,h4,hlk,hY,hsz,hD⟩:=hH.out;clear hY3 hD3 hsz3 hH;by_cases hql:q<lk
        ·
         go_wp2_with fail
         refine (below_any _ B c _ hD.1 (by omega)).mono ?_;rintro e w4 ⟨z,rfl,z0,z2,c4,g4⟩;have hY:=hY.kept g4 hcl;have hD:=hD.step c4 g4;have hsz:=Nat.le_trans hsz g4.size;clear c4 g4;by_cases hz:(q:Int)<(f:Int)+2+z
         ·
          obtain⟨d1,hgw2⟩:=hY.cellAt (i:=k) (by omega);have hAk:=hY.each k (by omega);rw[HV.out] at d1 hAk;obtain⟨AT,fr,hgk2⟩:=hAk.cells (i:=q) (by rw[hlk.out];exact hql);obtain⟨A0,-,-,A3⟩:=AT;generalize ((fss.getD k []).getD q zD).1=x0 at A0;generalize ((fss.getD k []).getD q zD).2.2.2=x3 at A3;have j1:(0:Int)≤(q:Int):=Int.natCast_nonneg _;have j2:(q:Int)<(lk:Int):=by omega
          by_cases hx:2<x0
          ·
           go_wp2;go_roundw;case rel=>exact⟨k+1,by omega,by go_num,Lib.hid ⟨fss,l1,l2,h4,hY,hsz,hD⟩⟩
           case measure=>simp[intOf];omega
          ·
           have hx':x0≤2:=by omega
           obtain⟨es,he,hY5⟩:=hY.put (i:=k) (k:=q) (by omega) HV.out (by rw[hlk.out];exact hql) ((k:Int)+1);have hD5:=hD.set hgk hcl hB (q*4+3) (.int .i64 ((k:Int)+1));have H4:Hid (∀i,i<dss.length→((fss.set k es).getD i []).length≤4):=Lib.hid (len_set (by omega) h4.out (by rw[he];exact h4.out k hlt));have HK:Hid (((fss.set k es).getD k []).length=lk):=Lib.hid (by rw[getD_setW fss k k es [] (by omega),if_pos rfl,he,hlk.out]);clear hx hAk;go_wp2;go_roundw;case rel=>exact⟨q+1,by omega,by go_num,Lib.hid ⟨fss.set k es,by rw[List.length_set];exact l1,by rw[List.length_set];exact l2,H4,HK,hY5,by simpa using hsz,hD5⟩⟩
           case measure=>simp[intOf];omega
         ·
          have hz':(f:Int)+2+z≤(q:Int):=by omega
          go_wp2;go_roundw;case rel=>exact⟨k+1,by omega,by go_num,Lib.hid ⟨fss,l1,l2,h4,hY,hsz,hD⟩⟩
          case measure=>simp[intOf];omega
        ·
         have hql':(lk:Int)≤(q:Int):=by omega
         go_wp2;go_roundw;case rel=>exact⟨k+1,by omega,by go_num,Lib.hid ⟨fss,l1,l2,h4,hY,hsz,hD⟩⟩
         case measure=>simp[intOf];omega
     ·
      have h1i:(lk:Int)≤1:=by omega
      go_wp2;go_roundw;case rel=>exact⟨k+1,by omega,by go_num,Lib.hid ⟨ess,el1,el2,hE4,hY,hsz,hD⟩⟩
      case measure=>simp[intOf];omega
    ·
     obtain rfl:k=dss.length:=by omega
     go_wp2;go_ret;exact⟨_,_,ess,rfl,hY.up hsz,by omega,by omega,fun i hi=>hE4.out i (by omega),hD⟩
  ·
   obtain⟨r',rfl⟩:∃r':Nat,r=r'+1:=⟨r-1,by omega⟩;clear hr0;have ad0:=appD_emptyX wr;have hcw:c<wr.heap.size:=Nat.lt_of_lt_of_le hcl hD.2.size;have D2:=(Dr.refl hD.1).alloc (.cells #[] 98);go_wp2_with fail
   refine (below_any _ B c _ D2.1 (by omega)).mono ?_;rintro e w2 ⟨y,rfl,y0,y1,c2,g2⟩;have ad2:=ad0.kept g2 (ne_of_ge ad0.ge hcw);have D3:=D2.step c2 g2;obtain⟨m0,rfl⟩:=Int.eq_ofNat_of_zero_le y0;clear ad0 D2 c2 g2 y0;go_wp2;obtain⟨wo,hwo⟩:∃wo:World,wo=wr:=⟨_,rfl⟩;subst hwo;go_loopw [4,5,7,8] (fun e4 e5 y i wq=>∃(m de:Nat) (ev:Int) (L:List Dd),i = .int .i64 m∧e4 = .int .i64 ev∧e5 = .int .i64 de∧0≤ev∧ev≤6∧de≤12∧L.length+m≤4∧AppD wq wo.heap.size y L∧Dr wo wq B c) (fun _ _ _ i _=>(intOf i).toNat)
   case atStart=>exact⟨m0,de,ev,[],rfl,rfl,rfl,e0,e6,d12,by simp;omega,ad2,D3⟩
   case round=>
    clear e0 e6 d12;obtain⟨m,de,ev,L,rfl,rfl,rfl,e0,e6,d12,lm,hA,hQ⟩:=hrel;clear ad2 D3;by_cases hm0:m=0
    ·
     have hm:(m:Int)≤0:=by omega
     have hmd:decide (0<m)=false:=by simp[hm0]
     clear hm0;have hX2:=hX.kept hQ.2 hcl;have hLL:=hL4.out;have hsz1:=hD.2.size;have hsz2:=hQ.2.size;have hL4':L.length≤4:=by omega
     obtain⟨a5,c5,rfl⟩:=hA.shape;have hX3:=hX2.keep ((Keep.refl wr).alloc (.cells #[.slice a5 L.length c5] 72));have hA3:=hA.keep ((Keep.refl wr).alloc (.cells #[.slice a5 L.length c5] 72));have hge:=fun k hk=>(World.ownsRow.lt hX.row k hk).1
     have HP:=Lib.hid (len_push hLL hL4');clear hX2 hLL hA;go_wp2_with (at_builtin;refine wpList_append_own_at _ rfl _ _ 24 rfl w.heap.size 72 j0 (.slice none 0 0) 1 24 Try.underlying24 hj hy0 hy1 hy2 rfl (by decide) _ _ _ rfl hX3.row ⟨_,0,none⟩ 1 1 [.slice a5 L.length c5] rfl rfl ?b1 ?b2 ?b3 ?b4 ?b5 ?_)
     case b1=>
      intro j u hj
      match j,hj with
      | 0,hj=>simp at hj;subst hj;simp[Addr.add]
     case b2=>intro u hu;simp at hu;subst hu;rfl
     case b3=>unfold maxLen;first|omega|(simp;omega)
     case b4=>first|omega|(simp;omega)
     case b5=>first|omega|(simp;omega)
     intro v' w5 hown' hgrow _ hblk;have hP:=AppX.push hX3 hA3 hsz1 hown' hgrow (by rw[heap_size];exact hblk) (by rw[heap_size];omega);have D5:=((hD.trans hQ).alloc _).grow hgrow hge hcl hB;clear hgrow hown' hblk;go_wp2;go_roundw;case rel=>exact⟨r',de,ev,_,dss++[L],by go_num,rfl,rfl,e0,e6,d12,by simp;omega,by simp;omega,hP,HP,D5⟩
     case measure=>simp[intOf]
    ·
     obtain⟨m,rfl⟩:∃m':Nat,m=m'+1:=⟨m-1,by omega⟩;clear hm0;go_wp2_with fail
     refine (l4Draw_any _ B c hQ.1).mono ?_;rintro e w4 ⟨kk,p,v,g,rfl,D4',k1,k4⟩;have D4:=hQ.trans D4';have hA4:=hA.kept D4'.2 (ne_of_ge hA.ge hcw);have hge:=hA.ge;have hsz4:=D4.2.size;obtain⟨a5,c5,rfl⟩:=hA.shape;clear hA hQ D4';have hk:kk=1∨kk=2∨kk=3∨kk=4:=by omega
     clear k1 k4;rcases hk with rfl|rfl|rfl|rfl
     ·
      by_cases hx:6<ev+1
      ·
       go_wp2;go_roundw;case rel=>exact⟨m,de,ev,L,by go_num,rfl,rfl,by omega,by omega,by omega,by omega,hA4.keep (((Keep.refl w4).alloc _).alloc _),(D4.alloc _).alloc _⟩
       case measure=>simp[intOf]
      ·
       have hx':ev+1≤6:=by omega
       by_cases hd:de=12
       ·
        have ed:((de:Int)==12)=true:=by simp;omega
        clear hd;go_wp2;go_roundw;case rel=>exact⟨m,de,ev,L,by go_num,rfl,rfl,by omega,by omega,by omega,by omega,hA4.keep (((Keep.refl w4).alloc _).alloc _),(D4.alloc _).alloc _⟩
        case measure=>simp[intOf]
       ·
        have ed:((de:Int)==12)=false:=by simp;omega
        have de12:de<12:=by omega
        clear hd;go_wp2_with (at_builtin;refine wpList_append_own_at _ rfl _ _ 72 rfl wo.heap.size 98 i0 (.agg #[.int .i64 0,.int .i64 0,.int .i64 0,.int .i64 0]) 4 32 Try.underlying72 hi hz0 hz1 hz2 rfl (by decide) _ _ _ rfl (hA4.keep ((((Keep.refl w4).alloc _).alloc _).alloc _)) ⟨_,0,none⟩ 1 1 (cD (1,p,v,g)) rfl rfl ?c1 ?c2 ?c3 ?c4 ?c5 ?_)
        case c1=>
         intro j u hj
         match j,hj with
         | 0,hj=>simp[cD] at hj;subst hj;rw[plain_add];exact new_cell _ _ _ _ 0 (by rw[heap_size,heap_size])
         | 1,hj=>simp[cD] at hj;subst hj;rw[plain_add];exact new_cell _ _ _ _ 1 (by rw[heap_size,heap_size])
         | 2,hj=>simp[cD] at hj;subst hj;rw[plain_add];exact new_cell _ _ _ _ 2 (by rw[heap_size,heap_size])
         | 3,hj=>simp[cD] at hj;subst hj;rw[plain_add];exact new_cell _ _ _ _ 3 (by rw[heap_size,heap_size])
         |n+4,hj=>simp[cD] at hj
        case c2=>intro u hu;simp[cD] at hu;rcases hu with rfl|rfl|rfl|rfl<;>rfl
        case c3=>unfold maxLen;first|(simp;done)|omega|(simp;omega)
        case c4=>first|(simp;done)|omega|(simp;omega)
        case c5=>first|(simp;done)|omega|(simp;omega)
        intro v' w5 hown' hgrow _ _;have hA5:AppD w5 wo.heap.size v' (L++[(1,p,v,g)]):=appD_hit hown';have D5:=(((D4.alloc _).alloc _).alloc _).grow hgrow hge hcw hB;clear hgrow hown' hA4;go_wp2;go_roundw;case rel=>exact⟨m,de+1,ev+1,_,by go_num,by go_num,by go_num,by omega,by omega,by omega,by simp;omega,hA5,D5⟩
        case measure=>simp[intOf]
     ·
      by_cases hx:6<ev+1
      ·
       go_wp2;go_roundw;case rel=>exact⟨m,de,ev,L,by go_num,rfl,rfl,by omega,by omega,by omega,by omega,hA4.keep (((Keep.refl w4).alloc _).alloc _),(D4.alloc _).alloc _⟩
       case measure=>simp[intOf]
      ·
       have hx':ev+1≤6:=by omega
       by_cases hd:de=12
       ·
        have ed:((de:Int)==12)=true:=by simp;omega
        clear hd;go_wp2;go_roundw;case rel=>exact⟨m,de,ev,L,by go_num,rfl,rfl,by omega,by omega,by omega,by omega,hA4.keep (((Keep.refl w4).alloc _).alloc _),(D4.alloc _).alloc _⟩
        case measure=>simp[intOf]
       ·
        have ed:((de:Int)==12)=false:=by simp;omega
        have de12:de<12:=by omega
        clear hd;go_wp2_with (at_builtin;refine wpList_append_own_at _ rfl _ _ 72 rfl wo.heap.size 98 i0 (.agg #[.int .i64 0,.int .i64 0,.int .i64 0,.int .i64 0]) 4 32 Try.underlying72 hi hz0 hz1 hz2 rfl (by decide) _ _ _ rfl (hA4.keep ((((Keep.refl w4).alloc _).alloc _).alloc _)) ⟨_,0,none⟩ 1 1 (cD (2,p,v,g)) rfl rfl ?c1 ?c2 ?c3 ?c4 ?c5 ?_)
        case c1=>
         intro j u hj
         match j,hj with
         | 0,hj=>simp[cD] at hj;subst hj;rw[plain_add];exact new_cell _ _ _ _ 0 (by rw[heap_size,heap_size])
         | 1,hj=>simp[cD] at hj;subst hj;rw[plain_add];exact new_cell _ _ _ _ 1 (by rw[heap_size,heap_size])
         | 2,hj=>simp[cD] at hj;subst hj;rw[plain_add];exact new_cell _ _ _ _ 2 (by rw[heap_size,heap_size])
         | 3,hj=>simp[cD] at hj;subst hj;rw[plain_add];exact new_cell _ _ _ _ 3 (by rw[heap_size,heap_size])
         |n+4,hj=>simp[cD] at hj
        case c2=>intro u hu;simp[cD] at hu;rcases hu with rfl|rfl|rfl|rfl<;>rfl
        case c3=>unfold maxLen;first|(simp;done)|omega|(simp;omega)
        case c4=>first|(simp;done)|omega|(simp;omega)
        case c5=>first|(simp;done)|omega|(simp;omega)
        intro v' w5 hown' hgrow _ _;have hA5:AppD w5 wo.heap.size v' (L++[(2,p,v,g)]):=appD_hit hown';have D5:=(((D4.alloc _).alloc _).alloc _).grow hgrow hge hcw hB;clear hgrow hown' hA4;go_wp2;go_roundw;case rel=>exact⟨m,de+1,ev+1,_,by go_num,by go_num,by go_num,by omega,by omega,by omega,by simp;omega,hA5,D5⟩
        case measure=>simp[intOf]
     ·
      by_cases hx:6<ev+2
      ·
       go_wp2;go_roundw;case rel=>exact⟨m,de,ev,L,by go_num,rfl,rfl,by omega,by omega,by omega,by omega,hA4.keep (((Keep.refl w4).alloc _).alloc _),(D4.alloc _).alloc _⟩
       case measure=>simp[intOf]
      ·
       have hx':ev+2≤6:=by omega
       by_cases hd:de=12
       ·
        have ed:((de:Int)==12)=true:=by simp;omega
        clear hd;go_wp2;go_roundw;case rel=>exact⟨m,de,ev,L,by go_num,rfl,rfl,by omega,by omega,by omega,by omega,hA4.keep (((Keep.refl w4).alloc _).alloc _),(D4.alloc _).alloc _⟩
        case measure=>simp[intOf]
       ·
        have ed:((de:Int)==12)=false:=by simp;omega
        have de12:de<12:=by omega
        clear hd;go_wp2_with (at_builtin;refine wpList_append_own_at _ rfl _ _ 72 rfl wo.heap.size 98 i0 (.agg #[.int .i64 0,.int .i64 0,.int .i64 0,.int .i64 0]) 4 32 Try.underlying72 hi hz0 hz1 hz2 rfl (by decide) _ _ _ rfl (hA4.keep ((((Keep.refl w4).alloc _).alloc _).alloc _)) ⟨_,0,none⟩ 1 1 (cD (3,p,v,g)) rfl rfl ?c1 ?c2 ?c3 ?c4 ?c5 ?_)
        case c1=>
         intro j u hj
         match j,hj with
         | 0,hj=>simp[cD] at hj;subst hj;rw[plain_add];exact new_cell _ _ _ _ 0 (by rw[heap_size,heap_size])
         | 1,hj=>simp[cD] at hj;subst hj;rw[plain_add];exact new_cell _ _ _ _ 1 (by rw[heap_size,heap_size])
         | 2,hj=>simp[cD] at hj;subst hj;rw[plain_add];exact new_cell _ _ _ _ 2 (by rw[heap_size,heap_size])
         | 3,hj=>simp[cD] at hj;subst hj;rw[plain_add];exact new_cell _ _ _ _ 3 (by rw[heap_size,heap_size])
         |n+4,hj=>simp[cD] at hj
        case c2=>intro u hu;simp[cD] at hu;rcases hu with rfl|rfl|rfl|rfl<;>rfl
        case c3=>unfold maxLen;first|(simp;done)|omega|(simp;omega)
        case c4=>first|(simp;done)|omega|(simp;omega)
        case c5=>first|(simp;done)|omega|(simp;omega)
        intro v' w5 hown' hgrow _ _;have hA5:AppD w5 wo.heap.size v' (L++[(3,p,v,g)]):=appD_hit hown';have D5:=(((D4.alloc _).alloc _).alloc _).grow hgrow hge hcw hB;clear hgrow hown' hA4;go_wp2;go_roundw;case rel=>exact⟨m,de+1,ev+2,_,by go_num,by go_num,by go_num,by omega,by omega,by omega,by simp;omega,hA5,D5⟩
        case measure=>simp[intOf]
     ·
      by_cases hd:de=12
      ·
       have ed:((de:Int)==12)=true:=by simp;omega
       clear hd;go_wp2;go_roundw;case rel=>exact⟨m,de,ev,L,by go_num,rfl,rfl,by omega,by omega,by omega,by omega,hA4.keep (((Keep.refl w4).alloc _).alloc _),(D4.alloc _).alloc _⟩
       case measure=>simp[intOf]
      ·
       have ed:((de:Int)==12)=false:=by simp;omega
       have de12:de<12:=by omega
       clear hd;go_wp2_with (at_builtin;refine wpList_append_own_at _ rfl _ _ 72 rfl wo.heap.size 98 i0 (.agg #[.int .i64 0,.int .i64 0,.int .i64 0,.int .i64 0]) 4 32 Try.underlying72 hi hz0 hz1 hz2 rfl (by decide) _ _ _ rfl (hA4.keep ((((Keep.refl w4).alloc _).alloc _).alloc _)) ⟨_,0,none⟩ 1 1 (cD (4,p,v,g)) rfl rfl ?c1 ?c2 ?c3 ?c4 ?c5 ?_)
       case c1=>
        intro j u hj
        match j,hj with
        | 0,hj=>simp[cD] at hj;subst hj;rw[plain_add];exact new_cell _ _ _ _ 0 (by rw[heap_size,heap_size])
        | 1,hj=>simp[cD] at hj;subst hj;rw[plain_add];exact new_cell _ _ _ _ 1 (by rw[heap_size,heap_size])
        | 2,hj=>simp[cD] at hj;subst hj;rw[plain_add];exact new_cell _ _ _ _ 2 (by rw[heap_size,heap_size])
        | 3,hj=>simp[cD] at hj;subst hj;rw[plain_add];exact new_cell _ _ _ _ 3 (by rw[heap_size,heap_size])
        |n+4,hj=>simp[cD] at hj
       case c2=>intro u hu;simp[cD] at hu;rcases hu with rfl|rfl|rfl|rfl<;>rfl
       case c3=>unfold maxLen;first|(simp;done)|omega|(simp;omega)
       case c4=>first|(simp;done)|omega|(simp;omega)
       case c5=>first|(simp;done)|omega|(simp;omega)
       intro v' w5 hown' hgrow _ _;have hA5:AppD w5 wo.heap.size v' (L++[(4,p,v,g)]):=appD_hit hown';have D5:=(((D4.alloc _).alloc _).alloc _).grow hgrow hge hcw hB;clear hgrow hown' hA4;go_wp2;go_roundw;case rel=>exact⟨m,de+1,ev,_,by go_num,by go_num,by go_num,by omega,by omega,by omega,by simp;omega,hA5,D5⟩
       case measure=>simp[intOf]
theorem some_ne {a:Option Nat}{k:Nat}(h:a≠some k):a=none∨a≠some k:= .inr h
theorem AppX.first {w w2:World}{base N g n cx:Nat}{V:Nat→Value}{dss:List (List Dd)}{v':Value}{es:List Dd}(h:AppX w base N (.slice (some ⟨g,0,none⟩) n cx) V dss)(h1:0<dss.length)(hn:n=dss.length)(hA:AppD w2 base v' es)
  (hgrow:w.grownBy w2 (V 0).ownBlock) (hblk:v'.ownBlock=(V 0).ownBlock∨v'.ownBlock=some w.heap.size):
  RdX (w2.setCell ⟨g,0,none⟩ v') base (.slice (some ⟨g,0,none⟩) n cx) (dss.set 0 es):=by
 subst hn;have hgw:=(h.cellAt h1).2;have hgb:base≤g:=(World.ownsRow.lt h.row g rfl).1;have hgv:(V 0).ownBlock≠some g:=fun e=>h.out 0 h1 g e rfl
 have hv'g:v'.ownBlock≠some g:=by
  rcases hblk with e|e
  · rw[e];exact hgv
  · rw[e];simp only[ne_eq,Option.some.injEq];omega
 have hb:w2.heap[g]? = w.heap[g]?:=hgrow.block g hgw (fun e=>hgv e.symm);have hp:=grown_put w2 g 0 v';refine⟨_,cx,by rw[List.length_set],.inr ⟨g,0,rfl,hgb,Nat.lt_of_lt_of_le (Nat.lt_of_lt_of_le hgw hgrow.size) hp.size,fun i hi=>?_⟩⟩;rw[List.length_set] at hi;rw[getD_setW dss 0 i es [] h1,Nat.zero_add];by_cases e:0=i
 ·
  subst e;rw[if_pos rfl];exact⟨v',World.cell?_setCell_same _ _ _ ((cell_same hb 0).trans (h.cellAt h1).1),hA.kept hp (some_ne hv'g)⟩
 ·
  rw[if_neg e];refine⟨V i,?_,?_⟩
  ·
   rw[World.cell?_setCell_other _ _ _ _ (by intro q;injection q with q1 q2;exact e q2)];exact (cell_same hb i).trans (h.cellAt hi).1
  ·
   have k1:AppD w2 base (V i) (dss.getD i []):=(h.each i hi).kept hgrow (by
    cases hv:(V i).ownBlock with
    |none=>exact .inl rfl
    |some q=>exact .inr (fun e2=>h.apart 0 i (by omega) hi q e2.symm hv))
   exact k1.kept hp (some_ne (fun e2=>h.out i hi g e2 rfl))
theorem AppX.twice {w w2:World}{base N:Nat}{v v':Value}{V:Nat→Value}{dss:List (List Dd)}(h:AppX w base N v V dss)(h1:0<dss.length)
  (hown:w2.ownsRow base 72 1 v' (dss.length+dss.length) ((List.range dss.length).map V++(List.range dss.length).map V)) (hgrow:w.grownBy w2 v.ownBlock):RdX w2 base v' (dss++dss):=by
 have hd:∀i,i<dss.length→AppD w2 base (V i) (dss.getD i []):=fun i hi=>(h.each i hi).kept hgrow (by
  cases hv:(V i).ownBlock with
  |none=>exact .inl rfl
  |some q=>exact .inr (fun e2=>h.out i hi q hv e2.symm))
 have hlt:=World.ownsRow.lt hown;have h2:=hown;rcases hown.2 with ⟨_,hz⟩|⟨g,cap,cur,rfl,hb,hg,_⟩
 · omega
 ·
  refine⟨_,cap,by rw[List.length_append],.inr ⟨g,0,rfl,hb,(hlt g rfl).2,fun i hi=>?_⟩⟩;rw[List.length_append] at hi;rw[Nat.zero_add];by_cases e:i<dss.length
  ·
   refine⟨V i,?_,by rw[getD_left dss dss i [] e];exact hd i e⟩;rw[World.ownsRow.cellAt h2 i (by simp;omega),List.getElem?_append_left (by simpa using e),range_getV V _ i e]
  ·
   have e2:i-dss.length<dss.length:=by omega
   refine⟨V (i-dss.length),?_,?_⟩
   · rw[World.ownsRow.cellAt h2 i (by simp;omega),List.getElem?_append_right (by simp;omega),List.length_map,List.length_range,range_getV V _ _ e2]
   ·
    have:(dss++dss).getD i []=dss.getD (i-dss.length) []:=by
     rw[List.getD_eq_getElem?_getD,List.getElem?_append_right (by omega),List.getD_eq_getElem?_getD]
    rw[this];exact hd _ e2
theorem AppX.low {w:World}{base base' N:Nat}{v:Value}{V:Nat→Value}{dss:List (List Dd)}(h:AppX w base N v V dss)(hb:base'≤base):AppX w base' N v V dss:=by
 refine⟨⟨h.row.1,?_⟩,h.lt,fun i hi=>(h.each i hi).base_le hb,h.lts,h.out,h.apart⟩;rcases h.row.2 with q|⟨g,cap,cur,e,hg,r⟩
 · exact .inl q
 · exact .inr ⟨g,cap,cur,e,Nat.le_trans hb hg,r⟩
theorem frozen_same {w w':World}{b:Nat}(h:w'.heap[b]? = w.heap[b]?)(o:Nat):w'.frozen? ⟨b,o,none⟩=w.frozen? ⟨b,o,none⟩:=by
 simp only[World.frozen?,h]
theorem flat_size (xs:List Dd):(xs.flatMap cD).toArray.size=xs.length*4:=by
 induction xs with
 |nil=>rfl
 |cons d r ih=>simp[cD] at ih ⊢;omega
theorem appX_two (w:World)(base:Nat)(xs ys:List Dd)(hb:base≤w.heap.size)(hx:xs.length≤9)(hy:ys.length≤9):
  AppX (((w.alloc (.cells (xs.flatMap cD).toArray 98)).alloc (.cells (ys.flatMap cD).toArray 98)).alloc (.cells #[.slice (some ⟨w.heap.size,0,none⟩) xs.length xs.length,.slice (some ⟨w.heap.size+1,0,none⟩) ys.length ys.length] 72)) base (w.heap.size+3)
   (.slice (some ⟨w.heap.size+2,0,none⟩) 2 2) (fun i=>if i=0 then .slice (some ⟨w.heap.size,0,none⟩) xs.length xs.length else .slice (some ⟨w.heap.size+1,0,none⟩) ys.length ys.length) [xs,ys]:=by
 have a1:AppD (w.alloc (.cells (xs.flatMap cD).toArray 98)) base (.slice (some ⟨w.heap.size,0,none⟩) xs.length xs.length) xs:=
  World.ownsRow_lit w (xs.flatMap cD).toArray xs.length hb (by unfold maxLen;omega) (flat_size xs)
 have a2:AppD ((w.alloc (.cells (xs.flatMap cD).toArray 98)).alloc (.cells (ys.flatMap cD).toArray 98)) base (.slice (some ⟨w.heap.size+1,0,none⟩) ys.length ys.length) ys:=by
  have:=World.ownsRow_lit (base:=base) (e:=98) (size:=4) (w.alloc (.cells (xs.flatMap cD).toArray 98)) (ys.flatMap cD).toArray ys.length (by rw[heap_size];omega) (by unfold maxLen;omega) (flat_size ys);rw[heap_size] at this;exact this
 have a3:(((w.alloc (.cells (xs.flatMap cD).toArray 98)).alloc (.cells (ys.flatMap cD).toArray 98)).alloc (.cells #[.slice (some ⟨w.heap.size,0,none⟩) xs.length xs.length,.slice (some ⟨w.heap.size+1,0,none⟩) ys.length ys.length] 72)).ownsRow base 72 1 (.slice (some ⟨w.heap.size+2,0,none⟩) 2 2) 2 [.slice (some ⟨w.heap.size,0,none⟩) xs.length xs.length,.slice (some ⟨w.heap.size+1,0,none⟩) ys.length ys.length]:=by
  have:=World.ownsRow_lit (base:=base) (e:=72) (size:=1) ((w.alloc (.cells (xs.flatMap cD).toArray 98)).alloc (.cells (ys.flatMap cD).toArray 98)) #[.slice (some ⟨w.heap.size,0,none⟩) xs.length xs.length,.slice (some ⟨w.heap.size+1,0,none⟩) ys.length ys.length] 2 (by rw[heap_size,heap_size];omega) (by unfold maxLen;omega) rfl;rw[heap_size,heap_size] at this;exact this
 have two:∀i,i<([xs,ys]:List (List Dd)).length→i=0∨i=1:=fun i hi=>by simp at hi;omega
 refine⟨a3,fun k hk=>by simp[Value.ownBlock] at hk;omega,fun i hi=>?_,fun i hi k hk=>?_,fun i hi k hk=>?_,fun i j hij hj k hk=>?_⟩
 ·
  rcases two i hi with rfl|rfl
  · exact (a1.keep ((Keep.refl _).alloc _)).keep ((Keep.refl _).alloc _)
  · exact a2.keep ((Keep.refl _).alloc _)
 ·
  rcases two i hi with rfl|rfl
  · simp[Value.ownBlock] at hk;omega
  · simp[Value.ownBlock] at hk;omega
 ·
  rcases two i hi with rfl|rfl
  · simp[Value.ownBlock] at hk ⊢;omega
  · simp[Value.ownBlock] at hk ⊢;omega
 ·
  rcases two j hj with rfl|rfl
  · omega
  ·
   obtain rfl:i=0:=by omega
   simp[Value.ownBlock] at hk ⊢;omega
theorem box_five (w:World)(a0 a1 a2 a3 b0 b1 b2 b3 c0 c1 c2 c3 d0 d1 d2 d3 e0 e1 e2 e3:Int){W:World}(hW:W=((((w.alloc (deedC a0 a1 a2 a3)).alloc (deedC b0 b1 b2 b3)).alloc (deedC c0 c1 c2 c3)).alloc (deedC d0 d1 d2 d3)).alloc (deedC e0 e1 e2 e3)):
  Box W w.heap.size a0 a1 a2 a3∧Box W (w.heap.size+1) b0 b1 b2 b3∧Box W (w.heap.size+1+1) c0 c1 c2 c3∧Box W (w.heap.size+1+1+1) d0 d1 d2 d3∧Box W (w.heap.size+1+1+1+1) e0 e1 e2 e3:=by
 subst hW;unfold Box;refine⟨?_,?_,?_,?_,?_⟩
 all_goals
  simp only[heap_at,heap_size];repeat (first|exact if_pos rfl|exact if_pos trivial|rw[if_neg (by omega)])
theorem two_le {xs ys:List Dd}(hx:xs.length≤4)(hy:ys.length≤4):∀i,i<([xs,ys]:List (List Dd)).length→(([xs,ys]:List (List Dd)).getD i []).length≤4:=by
 intro i hi;have:i=0∨i=1:=by simp at hi;omega
 rcases this with rfl|rfl
 · exact hx
 · exact hy
theorem l5DrawKnown_any (w:World)(B c:Nat)(hc:Cur w B c):
  Calls Try.prog 128 #[.pointer (some ⟨c,0,none⟩)] w fun e w'=>∃v V dss,e = .returned v∧AppX w' w.heap.size w'.heap.size v V dss∧1≤dss.length∧dss.length≤3∧(∀i,i<dss.length→(dss.getD i []).length≤4)∧Dr w w' B c:=by
 have hcl:=hc.lt;have hB:=hc.1;obtain⟨q0,q1,q2,q3,q4⟩:=box_five w 2 0 1 0 2 1 1 0 1 0 0 0 1 1 0 0 4 0 0 0 rfl;have D0:=(((((Dr.refl hc).alloc (deedC 2 0 1 0)).alloc (deedC 2 1 1 0)).alloc (deedC 1 0 0 0)).alloc (deedC 1 1 0 0)).alloc (deedC 4 0 0 0);go_enter Try.func128,Try.ntmps128
 go_wp2_with fail
 refine (below_any _ B c _ D0.1 (by omega)).mono ?_;rintro e w1 ⟨x,rfl,x0,x1,c1,g1⟩;have D1:=D0.step c1 g1;have hsz:=D1.2.size;have p0:=q0.kept g1 (by simp;omega);have p1:=q1.kept g1 (by simp;omega);have p2:=q2.kept g1 (by simp;omega);have p3:=q3.kept g1 (by simp;omega);have p4:=q4.kept g1 (by simp;omega);clear q0 q1 q2 q3 q4 D0 c1 g1;obtain⟨s00,s01,s02,s03⟩:=p0.cells;obtain⟨s10,s11,s12,s13⟩:=p1.cells;obtain⟨s20,s21,s22,s23⟩:=p2.cells;obtain⟨s30,s31,s32,s33⟩:=p3.cells;obtain⟨s40,s41,s42,s43⟩:=p4.cells;have l0:=p0.lt;have l1:=p1.lt;have l2:=p2.lt;have l3:=p3.lt;have l4:=p4.lt;clear p0 p1 p2 p3 p4;have hx:x=0∨x=1∨x=2∨x=3∨x=4:=by omega
 clear x0 x1;rcases hx with rfl|rfl|rfl|rfl|rfl
 ·
  go_wp2;go_ret;exact⟨_,_,_,rfl,(appX_two w1 w.heap.size [(2,0,1,0),(1,1,0,0)] [(2,1,1,0),(1,0,0,0)] hsz (by simp) (by simp)).up (by rw[heap_size,heap_size,heap_size];omega),by simp,by simp,two_le (by simp) (by simp),((D1.alloc _).alloc _).alloc _⟩
 ·
  go_wp2;go_ret;exact⟨_,_,_,rfl,(appX_two w1 w.heap.size [(2,0,1,0),(4,0,0,0),(1,1,0,0)] [(2,1,1,0),(4,0,0,0),(1,0,0,0)] hsz (by simp) (by simp)).up (by rw[heap_size,heap_size,heap_size];omega),by simp,by simp,two_le (by simp) (by simp),((D1.alloc _).alloc _).alloc _⟩
 ·
  go_wp2;go_ret;exact⟨_,_,_,rfl,(appX_two w1 w.heap.size [(2,0,1,0),(2,1,1,0)] [(1,1,0,0),(1,0,0,0)] hsz (by simp) (by simp)).up (by rw[heap_size,heap_size,heap_size];omega),by simp,by simp,two_le (by simp) (by simp),((D1.alloc _).alloc _).alloc _⟩
 ·
  go_wp2;go_ret;exact⟨_,_,_,rfl,(appX_two w1 w.heap.size [(2,0,1,0),(1,0,0,0),(1,1,0,0)] [(2,1,1,0),(1,1,0,0),(1,0,0,0)] hsz (by simp) (by simp)).up (by rw[heap_size,heap_size,heap_size];omega),by simp,by simp,two_le (by simp) (by simp),((D1.alloc _).alloc _).alloc _⟩
 ·
  go_wp2;go_ret;exact⟨_,_,_,rfl,(appX_two w1 w.heap.size [(2,0,1,0),(4,0,0,0),(1,1,0,0)] [(2,1,1,0),(1,0,0,0)] hsz (by simp) (by simp)).up (by rw[heap_size,heap_size,heap_size];omega),by simp,by simp,two_le (by simp) (by simp),((D1.alloc _).alloc _).alloc _⟩
theorem flat_one (xs:List Dd):∀u,u∈xs.flatMap cD→u.oneCell'=true:=by
 intro u hu;obtain⟨d,_,hd⟩:=List.mem_flatMap.1 hu;simp[cD] at hd;rcases hd with rfl|rfl|rfl|rfl<;>rfl
theorem Dr.drew {w wr:World}{B c:Nat}(h:Dr w wr B c):Dr w wr.drew B c:=
 ⟨h.1.keep (Keep.refl wr).drew,grown_trans h.2 ⟨rfl,rfl,rfl,Nat.le_refl _,fun _ _ _=>rfl⟩⟩
theorem new_cells (w:World)(d:Dd):∀j u,(cD d)[j]? = some u→(w.alloc (.cells #[.int .i64 d.1,.int .i64 d.2.1,.int .i64 d.2.2.1,.int .i64 d.2.2.2] 98)).cell? ((⟨w.heap.size,0,none⟩:Addr).add j)=some u:=by
 intro j u hj;rw[plain_add,new_cell _ _ _ _ j rfl];rw[←List.getElem?_toArray] at hj;exact hj
theorem set0_small {dss:List (List Dd)}{es:List Dd}(h1:0<dss.length)(h3:dss.length≤3)(h4:∀i,i<dss.length→(dss.getD i []).length≤4)(he:es.length≤7):(dss.set 0 es).length≤6∧∀i,i<(dss.set 0 es).length→((dss.set 0 es).getD i []).length≤7:=by
 refine⟨by rw[List.length_set];omega,fun i hi=>?_⟩;rw[List.length_set] at hi;rw[getD_setW dss 0 i es [] h1];split
 · exact he
 · have:=h4 i hi;omega
theorem twice_small {dss:List (List Dd)}(h3:dss.length≤3)(h4:∀i,i<dss.length→(dss.getD i []).length≤4):(dss++dss).length≤6∧∀i,i<(dss++dss).length→((dss++dss).getD i []).length≤7:=by
 refine⟨by rw[List.length_append];omega,fun i hi=>?_⟩;rw[List.length_append] at hi;by_cases e:i<dss.length
 · rw[getD_left dss dss i [] e];have:=h4 i e;omega
 ·
  have:(dss++dss).getD i []=dss.getD (i-dss.length) []:=by
   rw[List.getD_eq_getElem?_getD,List.getElem?_append_right (by omega),List.getD_eq_getElem?_getD]
  rw[this];have:=h4 (i-dss.length) (by omega);omega
theorem l5DrawAny_any (w:World)(B c:Nat)(hc:Cur w B c):
  Calls Try.prog 102 #[.pointer (some ⟨c,0,none⟩)] w fun e w'=>∃v dss,e = .returned v∧RdX w' w.heap.size v dss∧(dss.length≤6∧∀i,i<dss.length→(dss.getD i []).length≤7)∧Dr w w' B c:=by
 have hcl:=hc.lt;have hB:=hc.1;obtain⟨i0,hi,hz0,hz1,hz2⟩:=info_parts Try.infoD;obtain⟨j0,hj,hy0,hy1,hy2⟩:=info_parts Try.infoDS;go_enter Try.func102,Try.ntmps102
 go_wp2_with fail
 refine (l5Draw_any _ B c hc).mono ?_;rintro e w1 ⟨v1,V1,dss1,rfl,hX1,n1,n3,l4,D1⟩;go_wp2_with fail
 refine (once_any _ B c _ D1.1 (by omega)).mono ?_;rintro e w2 ⟨b,rfl,c2,g2⟩;have hX2:=(hX1.kept g2 hcl).up g2.size;have D2:=D1.step c2 g2;clear hX1 D1 c2 g2;go_upto_if 7 with fail
 go_cut [3] from 4 (fun s3 wx=>∃V dss,AppX wx w.heap.size wx.heap.size s3 V dss∧1≤dss.length∧dss.length≤3∧Hid (∀i,i<dss.length→(dss.getD i []).length≤4)∧Dr w wx B c)
 case first=>
  cases b
  ·
   go_wp2;go_meet;case rel=>exact⟨_,_,hX2,n1,n3,Lib.hid l4,D2⟩
  ·
   go_wp2_with fail
   refine (l5DrawKnown_any _ B c D2.1).mono ?_;rintro e w3 ⟨v3,V3,dss3,rfl,hX3,m1,m3,k4,D3⟩;go_wp2;go_meet;case rel=>exact⟨_,_,hX3.low D2.2.size,m1,m3,Lib.hid k4,D2.trans D3⟩
 case rest=>
  clear hX2 D2 n1 n3 l4;obtain⟨V,dss,hX,n1,n3,l4,D2⟩:=hcut;go_wp2_with fail
  refine (once_any _ B c _ D2.1 (by omega)).mono ?_;rintro e w4 ⟨b2,rfl,c4,g4⟩;have hX4:=(hX.kept g4 hcl).up g4.size;have D4:=D2.step c4 g4;clear hX D2 c4 g4;have HN:Hid (dss.length≤6∧∀i,i<dss.length→(dss.getD i []).length≤7):=Lib.hid ⟨by omega,fun i hi=>by have:=l4.out i hi;omega⟩;cases b2
  ·
   have HR:=Lib.hid hX4.rdX;go_wp2;go_ret;exact⟨_,dss,rfl,HR.out,HN.out,D4⟩
  ·
   go_wp2_with fail
   refine (below_any _ B c _ D4.1 (by omega)).mono ?_;rintro e w5 ⟨x,rfl,x0,x1,c5,g5⟩;have hX5:=(hX4.kept g5 hcl).up g5.size;have D5:=D4.step c5 g5;clear hX4 D4 c5 g5 HN;have hx:x=0∨x=1∨x=2∨x=3:=by omega
   clear x0 x1;obtain⟨g,cx,rfl,hgb,hgN,hgw,hcx,hcell,hfree⟩:=hX5.at (by omega);have d0:=hcell 0 (by omega);have f0:=hfree 0;have hA0:=hX5.each 0 (by omega);have hl0:=l4.out 0 (by omega);have hout0:∀k,(V 0).ownBlock=some k→w.heap.size≤k∧k<w5.heap.size:=hA0.lt;have i1:(0:Int)<(dss.length:Int):=by omega
   have h01:0<dss.length:=by omega
   rcases hx with rfl|rfl|rfl|rfl
   ·
    obtain⟨a5,c5,hV0⟩:=hA0.shape;have HV:=Lib.hid hV0;rw[hV0] at d0 hA0 hout0;clear hV0;obtain⟨L,hL⟩:∃L,L=dss.getD 0 []:=⟨_,rfl⟩;rw[←hL] at d0 hA0 hl0 hout0 HV;clear hL hcell hfree;have hsz5:=D5.2.size;have D5':=D5.drew;have hX5':=hX5.keep (Keep.refl w5).drew;have hA5':=hA0.keep (Keep.refl w5).drew;have gne:(Value.slice a5 L.length c5).ownBlock≠some g:=fun e=>hX5.out 0 (by omega) g (by rw[HV.out];exact e) rfl
    have cg:g≠c:=by omega
    go_wp2
    go_region_law ((first
     | (refine step_append_at rfl (.tmp 19) (.tmp 22) 72 rfl w.heap.size 98 i0 (.agg #[.int .i64 0,.int .i64 0,.int .i64 0,.int .i64 0]) 4 32 Try.underlying72 hi hz0 hz1 hz2 rfl (by decide) (.slice a5 L.length c5) L.length (L.flatMap cD) (by simp[Act.eval]) (hA6.keep ((Keep.refl w6).alloc (.cells #[.int .i64 kq,.int .i64 pq,.int .i64 vq,.int .i64 gq] 98))) ⟨w6.heap.size,0,none⟩ 1 1 (cD (kq,pq,vq,gq)) (by simp[Act.eval]) rfl (new_cells w6 (kq,pq,vq,gq)) (flat_one [(kq,pq,vq,gq)]) (by unfold maxLen;omega) (by omega) (by rw[heap_size];omega) ?_;intro v' w7 hown' hgrow hblk;have hA7:AppD w7 w.heap.size v' (L++[(kq,pq,vq,gq)]):=appD_hit hown';have hgV:(V 0).ownBlock=(Value.slice a5 L.length c5).ownBlock:=(by rw[HV.out]);have HR:=Lib.hid ((hX6.keep ((Keep.refl w6).alloc (.cells #[.int .i64 kq,.int .i64 pq,.int .i64 vq,.int .i64 gq] 98))).first (by omega) rfl hA7 (by rw[hgV];exact hgrow) (by rw[hgV];exact hblk));have HS:=Lib.hid (set0_small (es:=L++[(kq,pq,vq,gq)]) (by omega) n3 l4.out (by simp;omega));have D7:=((D6.alloc (.cells #[.int .i64 kq,.int .i64 pq,.int .i64 vq,.int .i64 gq] 98)).grow hgrow (fun k hk=>(hout0 k hk).1) hcl hB).set hgb hcl hB 0 v';have hb7:w7.heap[g]? = w6.heap[g]?:=(hgrow.block g (by rw[heap_size];omega) (fun e=>gne e.symm)).trans (by rw[heap_at,if_neg (by omega)]);have d7:=(cell_same hb7 0).trans d6;have f7:w7.frozen? ⟨g,0,none⟩=false:=(by rw[frozen_same hb7 0];exact f6);have hg7:g<w7.heap.size:=Nat.lt_of_lt_of_le (by rw[heap_size];omega) hgrow.size;obtain⟨a7,c7,hv7⟩:=hA7.shape;generalize (L++[(kq,pq,vq,gq)]).length=n7 at hv7;subst hv7;clear hgrow hown' hblk hA7 hb7 d6 f6 hg6)
     | (go_simp;refine (l4DrawAny_any _ B c D5'.1).mono ?_;rintro e w6 ⟨kq,pq,vq,gq,rfl,D6'⟩;have D6:=D5'.trans D6';have hX6:=hX5'.kept D6'.2 hcl;have hA6:=hA5'.kept D6'.2 (ne_of_ge hA5'.ge hcl);have hb6:w6.heap[g]? = w5.heap[g]?:=D6'.2.block g hgw (by simp;omega);have d6:=(cell_same hb6 0).trans d0;have f6:w6.frozen? ⟨g,0,none⟩=false:=(by rw[frozen_same hb6 0];exact f0);have hg6:g<w6.heap.size:=Nat.lt_of_lt_of_le hgw D6'.2.size;have hs6:=D6.2.size;clear D6' hb6)))
    all_goals
     go_wp2;go_ret;exact⟨_,_,rfl,HR.out,HS.out,D7⟩
   ·
    have hN:Hid ((dss++dss).length≤6∧∀i,i<(dss++dss).length→((dss++dss).getD i []).length≤7):=Lib.hid (twice_small n3 l4.out);have hsz5:=D5.2.size;go_wp2_with (at_builtin;refine wpList_append_own_at _ rfl _ _ 24 rfl w.heap.size 72 j0 (.slice none 0 0) 1 24 Try.underlying24 hj hy0 hy1 hy2 rfl (by decide) _ _ _ rfl hX5.row ⟨g,0,none⟩ dss.length cx ((List.range dss.length).map V) rfl ?b1 ?b2 ?b3 ?b4 ?b5 ?b6 ?_)
    case b1=>simp
    case b2=>
     intro j u hj;have hj':j<dss.length:=by have:=(List.getElem?_eq_some_iff.1 hj).1;simpa using this
     rw[range_getV V _ j hj'] at hj;rw[plain_add,Nat.zero_add,hcell j hj'];exact hj
    case b3=>
     intro u hu;obtain⟨i,hi,rfl⟩:=List.mem_map.1 hu;rw[List.mem_range] at hi;obtain⟨a,cc,e⟩:=(hX5.each i hi).shape;rw[e];rfl
    case b4=>unfold maxLen;omega
    case b5=>omega
    case b6=>exact hsz5
    intro v' w6 hown' hgrow _ _;have HR:=Lib.hid (hX5.twice (by omega) hown' hgrow);have D6:=D5.grow hgrow (fun k hk=>(World.ownsRow.lt hX5.row k hk).1) hcl hB;clear hgrow hown' hX5;go_wp2;go_ret;exact⟨_,_,rfl,HR.out,hN.out,D6⟩
   ·
    go_wp2;go_ret;exact⟨_,[],rfl,⟨_,_,rfl,.inl rfl⟩,⟨by simp,by simp⟩,D5.alloc _⟩
   ·
    obtain⟨a5,c5,hV0⟩:=hA0.shape;have HV:=Lib.hid hV0;rw[hV0] at d0 hA0 hout0;clear hV0;obtain⟨L,hL⟩:∃L,L=dss.getD 0 []:=⟨_,rfl⟩;rw[←hL] at d0 hA0 hl0 hout0 HV;clear hL hcell hfree;have hsz5:=D5.2.size;have hA1:=hA0.keep ((Keep.refl w5).alloc (.cells #[.int .i64 1,.int .i64 0,.int .i64 0,.int .i64 1,.int .i64 4,.int .i64 0,.int .i64 0,.int .i64 0,.int .i64 1,.int .i64 0,.int .i64 0,.int .i64 1] 98));have hX6:=hX5.keep ((Keep.refl w5).alloc (.cells #[.int .i64 1,.int .i64 0,.int .i64 0,.int .i64 1,.int .i64 4,.int .i64 0,.int .i64 0,.int .i64 0,.int .i64 1,.int .i64 0,.int .i64 0,.int .i64 1] 98));go_wp2_with (at_builtin;refine wpList_append_own_at _ rfl _ _ 72 rfl w.heap.size 98 i0 (.agg #[.int .i64 0,.int .i64 0,.int .i64 0,.int .i64 0]) 4 32 Try.underlying72 hi hz0 hz1 hz2 rfl (by decide) _ _ _ rfl hA1 ⟨_,0,none⟩ 3 3 (([(1,0,0,1),(4,0,0,0),(1,0,0,1)]:List Dd).flatMap cD) rfl rfl ?d1 ?d2 ?d3 ?d4 ?d5 ?_)
    case d1=>
     intro j u hj;rw[plain_add,new_cell _ _ _ _ j rfl];rw[←List.getElem?_toArray] at hj;exact hj
    case d2=>exact flat_one _
    case d3=>unfold maxLen;first|omega|(simp;omega)
    case d4=>first|omega|(simp;omega)
    case d5=>first|omega|(simp;omega)
    intro v' w6 hown' hgrow _ hblk
    have hA6:AppD w6 w.heap.size v' (L++[(1,0,0,1),(4,0,0,0),(1,0,0,1)]):=by
     unfold AppD;rw[List.flatMap_append];simpa using hown'
    have hgV:(V 0).ownBlock=(Value.slice a5 L.length c5).ownBlock:=by rw[HV.out]
    have HR:=Lib.hid (hX6.first (by omega) rfl hA6 (by rw[hgV];exact hgrow) (by rw[hgV,heap_size];exact hblk));have HS:=Lib.hid (set0_small (es:=L++[(1,0,0,1),(4,0,0,0),(1,0,0,1)]) (by omega) n3 l4.out (by simp;omega));have D6:=(D5.alloc (.cells #[.int .i64 1,.int .i64 0,.int .i64 0,.int .i64 1,.int .i64 4,.int .i64 0,.int .i64 0,.int .i64 0,.int .i64 1,.int .i64 0,.int .i64 0,.int .i64 1] 98)).grow hgrow (fun k hk=>(hout0 k hk).1) hcl hB;have D7:=D6.set hgb hcl hB 0 v';have gne:(Value.slice a5 L.length c5).ownBlock≠some g:=fun e=>hX6.out 0 (by omega) g (by rw[hgV];exact e) rfl
    have hb6:w6.heap[g]? = w5.heap[g]?:=(hgrow.block g (by rw[heap_size];omega) (fun e=>gne e.symm)).trans (by rw[heap_at,if_neg (by omega)]);have d6:=(cell_same hb6 0).trans d0;have f6:w6.frozen? ⟨g,0,none⟩=false:=by rw[←f0];exact frozen_same hb6 0
    have hg6:g<w6.heap.size:=Nat.lt_of_lt_of_le (by rw[heap_size];omega) hgrow.size;obtain⟨a7,c7,hv7⟩:=hA6.shape;generalize (L++[(1,0,0,1),(4,0,0,0),(1,0,0,1)]).length=n7 at hv7;subst hv7;clear hgrow hown' hblk hX5 hX6 hA1 hA0 hA6 D6;go_wp2;go_ret;exact⟨_,_,rfl,HR.out,HS.out,D7⟩
theorem Cur.low {w w':World}{B g:Nat}(h:Cur w B g)(hs:w.heap.size≤w'.heap.size)(hh:∀q,q≤g→w'.heap[q]? = w.heap[q]?):Cur w' B g:=by
 obtain⟨hB,a,cap,zs,i,x,h1,hi,h2,h3⟩:=h;refine⟨hB,a,cap,zs,i,x,(hh g (Nat.le_refl _)).trans h1,hi,h2,?_⟩;rcases h3 with h3|⟨b,off,ha,hb,hbs,hc⟩
 · exact .inl h3
 · exact .inr ⟨b,off,ha,hb,Nat.lt_of_lt_of_le hbs hs,fun j hj=>⟨(World.cell?_of_block (a:=⟨b,off+j,none⟩) (hh b (by omega))).trans (hc j hj).1,(hc j hj).2⟩⟩
theorem Dr.turn {w wr w':World}{B c:Nat}{F G:Nat→Prop}(h:Dr w wr B c)(t:TurnB wr w' F G)(hF:∀q,F q→w.heap.size≤q)(hc:c<w.heap.size):Dr w w' B c:=by
 have hs:=h.2.size
 exact⟨h.1.low t.size (fun q hq=>t.block q (by omega) (fun hq2=>by have:=hF q hq2;omega)),
  t.os.trans h.2.os,t.tape.trans h.2.tape,t.output.trans h.2.output,Nat.le_trans h.2.size t.size,fun k hk hne=>(t.block k (by omega) (fun hq2=>by have:=hF k hq2;omega)).trans (h.2.block k hk hne)⟩
theorem Dr.far {w wr w':World}{B c g:Nat}(h:Dr w wr B c)(hg:wr.grownBy w' (some g))(hl:w.heap.size≤g)(hc:c<w.heap.size)(hB:B≤c):Dr w w' B c:=
  ⟨h.1.kept hg (fun e=>by have:=Option.some.inj e;omega) (fun k hk=>by have:=Option.some.inj hk;omega),
   hg.os.trans h.2.os,hg.tape.trans h.2.tape,hg.output.trans h.2.output,Nat.le_trans h.2.size hg.size,fun k hk hne=>(hg.block k (Nat.lt_of_lt_of_le hk h.2.size) (fun e=>by have:=Option.some.inj e;omega)).trans (h.2.block k hk hne)⟩
theorem Dr.keep {w wr w':World}{B c:Nat}(h:Dr w wr B c)(k:Keep wr w'):Dr w w' B c:=
 ⟨h.1.keep k,grown_trans h.2 (⟨Below.os k,Below.tape k,Below.output k,Below.size k,fun q hq _=>Below.block k q hq⟩)⟩
def Drawn (w w':World)(bv:BV)(dss:List (List Dd))(b:Bd):Prop:=
 (workB dss=false∧b=zBd∧(∃v,bv=⟨v,nilS,nilS,nilS,nilS,nilS,nilS,nilS⟩∧RdX w' (w.heap.size+1) v dss)∧dss.length≤6∧∀i,i<dss.length→(dss.getD i []).length≤7) ∨
 (workB dss=true∧Run dss b∧∃nv rv bs N m,OwnVal w' m bv nv rv bs N dss b∧w.heap.size≤m∧w.heap.size≤bs)
theorem l14Draw_any (w:World)(B c:Nat)(hc:Cur w B c):
  Calls Try.prog 71 #[.pointer (some ⟨c,0,none⟩)] w fun e w'=>∃bv dss b,e = .returned (BV.agg bv)∧Dr w w' B c∧Drawn w w' bv dss b:=by
 have hcl:=hc.lt;have hB:=hc.1;have D0:Dr w (w.alloc (.cells #[nilS,nilS,nilS,nilS,nilS,nilS,nilS,nilS] 29)) B c:=(Dr.refl hc).alloc _;have H0:(w.alloc (.cells #[nilS,nilS,nilS,nilS,nilS,nilS,nilS,nilS] 29)).heap[w.heap.size]? = some (.cells #[nilS,nilS,nilS,nilS,nilS,nilS,nilS,nilS] 29 (0,0)):=heap_alloc_new w _;have y0:w.heap.size<(w.alloc (.cells #[nilS,nilS,nilS,nilS,nilS,nilS,nilS,nilS] 29)).heap.size:=by rw[heap_size];omega
 go_enter Try.func71,Try.ntmps71
 go_wp2_with fail
 refine (l5DrawAny_any _ B c D0.1).mono ?_;rintro e w1 ⟨v,dss,rfl,rx,⟨q1,q2⟩,d1⟩;have D1:Dr w w1 B c:=D0.step d1.1 d1.2;have hR1:=(d1.2.block w.heap.size y0 (fun e=>by have:=Option.some.inj e;omega)).trans H0;have y1:=d1.2.size;have hx:dss.length≤1048576:=by omega
 have hm:∀i,i<dss.length→(dss.getD i []).length≤1048576:=fun i hi=>by have:=q2 i hi;omega
 have rd1:=rx.rd;have rV1:w.heap.size<w1.heap.size:=by omega
 have RX1:=rx;clear D0 H0 d1 rx;obtain⟨av,cv,rfl,-⟩:=id rd1;have C:=specWorkOk_any w1 _ dss rd1 hx hm;go_wp2_with fail
 refine C.mono ?_;rintro e w2 ⟨rfl,k2⟩;have D2:=D1.keep k2;have hR2:=(Below.block k2 w.heap.size rV1).trans hR1;have rd2:=rd1.keep k2;have s2:=k2.size;have RW:Hid (RdW w2 (.slice av dss.length cv) dss):=Lib.hid rd2;rw[heap_size] at RX1;have RX:=Lib.hid (RX1.keep k2);clear RX1;clear D1 hR1 rd1 k2 C rd2;cases hb:workB dss
 ·
  have HG:=Lib.hid (grown_row3 w2 w.heap.size #[.slice av dss.length cv,nilS,nilS,nilS,nilS,nilS,nilS,nilS]);have HZ:=Lib.hid (setRow_heap w2 w.heap.size _ #[.slice av dss.length cv,nilS,nilS,nilS,nilS,nilS,nilS,nilS] _ _ hR2);have HD:Hid (Dr w (w2.setRow w.heap.size #[.slice av dss.length cv,nilS,nilS,nilS,nilS,nilS,nilS,nilS]) B c):=Lib.hid (D2.far HG.out (by omega) hcl hB);have HW:=Lib.hid (RX.out.kept HG.out (by omega));clear D2 RW;go_wp2_with (first|refine wpList_store_row rfl 29 _ _ rfl w.heap.size _ rfl rfl 29 _ hR2 board_info rfl (by simp[Value.oneCell']) ?_|fail)
  refine bodyPost_ret (results_row (by rfl) _ _ w.heap.size _ _ (0,0) _ rfl HZ.out Try.underlying29 rfl board_info) rfl ?_;exact⟨⟨.slice av dss.length cv,nilS,nilS,nilS,nilS,nilS,nilS,nilS⟩,dss,zBd,rfl,HD.out,.inl ⟨hb,rfl,⟨_,rfl,HW.out⟩,q1,q2⟩⟩
 ·
  have R0:Run dss (newM dss):=Run.new hb;go_wp2_with fail
  refine (l14New_any _ _ _ RW.out hb).mono ?_;rintro e w3 ⟨bv,nv,rv,bs,N,rfl,hV,hbs,k3⟩;obtain⟨aW,aP,aL,aN,aX,aT,aF,aR,cW,cP,cL,cN',cX,cT,cF,cR,rfl⟩:=hV.rd0.shapes;have H4:=hV.box k3.size;have D3:=D2.keep k3;have hR3:=(Below.block k3 w.heap.size (by omega)).trans hR2;have s3:=k3.size;generalize newM dss=nb at *;go_upto_region 5 with fail
  obtain⟨w4,hw4⟩:∃W:World,W=w3.alloc (.cells #[.slice aW dss.length cW,.slice aP nb.plc.length cP,.slice aL nb.lst.length cL,.slice aN nb.nts.length cN',.slice aX nb.nxt.length cX,.slice aT nb.sn.length cT,.slice aF nb.fr.length cF,.slice aR nb.rws.length cR] 29):=⟨_,rfl⟩;have k4:Keep w3 w4:=by rw[hw4];exact (Keep.refl w3).alloc _
  have H4:OwnBd w4 w2.heap.size w3.heap.size ⟨.slice aW dss.length cW,.slice aP nb.plc.length cP,.slice aL nb.lst.length cL,.slice aN nb.nts.length cN',.slice aX nb.nxt.length cX,.slice aT nb.sn.length cT,.slice aF nb.fr.length cF,.slice aR nb.rws.length cR⟩ nv rv bs N dss nb:=by rw[hw4];exact H4
  rw[←hw4];clear hw4 hV;have D4:=D3.keep k4;have hR4:=(Below.block k4 w.heap.size (by omega)).trans hR3;have s4:=k4.size;have hm0:w.heap.size≤w2.heap.size:=by omega
  have hmb:w.heap.size≤bs:=by omega
  have hRm:w.heap.size<w2.heap.size:=by omega
  have hRb:w.heap.size<bs:=by omega
  have hcR:c<w.heap.size:=by omega
  generalize w2.heap.size=m at *;generalize w3.heap.size=D at *;clear D2 D3 hR2 hR3 k3 k4 RW;go_wp2_with fail
  refine (below_any _ B c 16 D4.1 (by omega)).mono ?_;rintro e w5 ⟨x,rfl,x0,x1,cu5,g5⟩;have D5:Dr w w5 B c:=D4.step cu5 g5;have H5:=H4.far g5 (fun k hk=>by have:=Option.some.inj hk;omega);have hR5:=(g5.block w.heap.size (by have:=H4.base;omega) (fun e=>by have:=Option.some.inj e;omega)).trans hR4;clear D4 H4 hR4 cu5 g5;obtain⟨x',hx'⟩:=Int.eq_ofNat_of_zero_le x0;subst hx';go_wp2;go_loopw [5] (fun i wr=>∃(k:Nat) (nv' rv':List Value) (b':Bd),k≤16∧i = .int .i64 k∧OwnBd wr m D ⟨.slice aW dss.length cW,.slice aP nb.plc.length cP,.slice aL nb.lst.length cL,.slice aN nb.nts.length cN',.slice aX nb.nxt.length cX,.slice aT nb.sn.length cT,.slice aF nb.fr.length cF,.slice aR nb.rws.length cR⟩ nv' rv' bs N dss b'∧Run dss b'∧Dr w wr B c∧wr.heap[w.heap.size]? = some (.cells #[nilS,nilS,nilS,nilS,nilS,nilS,nilS,nilS] 29 (0,0))) (fun i _=>(intOf i).toNat)
  case atStart=>exact⟨x',nv,rv,nb,by omega,rfl,H5,R0,D5,hR5⟩
  case round=>
   obtain⟨k,nv',rv',b',hk,rfl,H,RN,HDr,hR⟩:=hrel;clear H5 R0 D5 hR5;by_cases hk0:k=0
   ·
    subst hk0;have hDw:=H.heapD;simp only[BV.arr] at hDw;have HG:=Lib.hid (grown_row3 wr w.heap.size #[.slice aW dss.length cW,.slice aP nb.plc.length cP,.slice aL nb.lst.length cL,.slice aN nb.nts.length cN',.slice aX nb.nxt.length cX,.slice aT nb.sn.length cT,.slice aF nb.fr.length cF,.slice aR nb.rws.length cR]);have HZ:=Lib.hid (setRow_heap wr w.heap.size _ #[.slice aW dss.length cW,.slice aP nb.plc.length cP,.slice aL nb.lst.length cL,.slice aN nb.nts.length cN',.slice aX nb.nxt.length cX,.slice aT nb.sn.length cT,.slice aF nb.fr.length cF,.slice aR nb.rws.length cR] _ _ hR);have HO:Hid (OwnVal (wr.setRow w.heap.size #[.slice aW dss.length cW,.slice aP nb.plc.length cP,.slice aL nb.lst.length cL,.slice aN nb.nts.length cN',.slice aX nb.nxt.length cX,.slice aT nb.sn.length cT,.slice aF nb.fr.length cF,.slice aR nb.rws.length cR]) m ⟨.slice aW dss.length cW,.slice aP nb.plc.length cP,.slice aL nb.lst.length cL,.slice aN nb.nts.length cN',.slice aX nb.nxt.length cX,.slice aT nb.sn.length cT,.slice aF nb.fr.length cF,.slice aR nb.rws.length cR⟩ nv' rv' bs N dss b'):=Lib.hid ((H.far HG.out (fun g hg=>by have:=Option.some.inj hg;omega)).val);have HD:Hid (Dr w (wr.setRow w.heap.size #[.slice aW dss.length cW,.slice aP nb.plc.length cP,.slice aL nb.lst.length cL,.slice aN nb.nts.length cN',.slice aX nb.nxt.length cX,.slice aT nb.sn.length cT,.slice aF nb.fr.length cF,.slice aR nb.rws.length cR]) B c):=Lib.hid (HDr.far HG.out (by omega) hcl hB);go_wp2_with (first|refine wpList_load_row rfl 29 _ rfl D rfl 29 _ (0,0) _ hDw Try.underlying29 rfl board_info ?_|refine wpList_store_row rfl 29 _ _ rfl w.heap.size _ rfl rfl 29 _ hR board_info rfl (by simp[Value.oneCell']) ?_)
    refine bodyPost_ret (results_row (by rfl) _ _ w.heap.size _ _ (0,0) _ rfl HZ.out Try.underlying29 rfl board_info) rfl ?_;exact⟨⟨.slice aW dss.length cW,.slice aP nb.plc.length cP,.slice aL nb.lst.length cL,.slice aN nb.nts.length cN',.slice aX nb.nxt.length cX,.slice aT nb.sn.length cT,.slice aF nb.fr.length cF,.slice aR nb.rws.length cR⟩,dss,b',rfl,HD.out,.inr ⟨hb,RN,nv',rv',bs,N,m,HO.out,hm0,hmb⟩⟩
   ·
    have kp:(0:Int)<(k:Int):=by omega
    have hBD:=RN.board hb;have PS:=ps_of hBD;have CP:=l15Possible_any wr _ dss b' H.rd PS
    have hpl:(possM dss b').length≤1048576:=by
     rw[←poss_same,List.length_append];have:=canK_len dss b' dss.length;have:=ntK_len b' dss.length;have:=PS.m;have:=(workB_useR hb).1;omega
    have hDw:=H.heapD;simp only[BV.arr] at hDw;go_wp2_with (first|refine wpList_load_row rfl 29 _ rfl D rfl 29 _ (0,0) _ hDw Try.underlying29 rfl board_info ?_|fail)
    refine CP.mono ?_;rintro e w6 ⟨vp,rfl,op,k6⟩;have szr:=HDr.2.size;have H6:=H.keep k6;have D6:=HDr.keep k6;have hR6:=(Below.block k6 w.heap.size (by have:=H.base;omega)).trans hR;clear CP hDw H HDr hR k6;have rp:=op.rd;obtain⟨ap,cp,rfl,-⟩:=id rp;by_cases hp0:(possM dss b').length=0
    ·
     have hp1:((possM dss b').length:Int)=0:=by omega
     have H:=H6;have HDr:=D6;have hR:=hR6;clear H6 D6 hR6 rp op;obtain⟨wr,hwr⟩:∃W:World,W=w6:=⟨_,rfl⟩;subst hwr;have hDw:=H.heapD;simp only[BV.arr] at hDw;have HG:=Lib.hid (grown_row3 wr w.heap.size #[.slice aW dss.length cW,.slice aP nb.plc.length cP,.slice aL nb.lst.length cL,.slice aN nb.nts.length cN',.slice aX nb.nxt.length cX,.slice aT nb.sn.length cT,.slice aF nb.fr.length cF,.slice aR nb.rws.length cR]);have HZ:=Lib.hid (setRow_heap wr w.heap.size _ #[.slice aW dss.length cW,.slice aP nb.plc.length cP,.slice aL nb.lst.length cL,.slice aN nb.nts.length cN',.slice aX nb.nxt.length cX,.slice aT nb.sn.length cT,.slice aF nb.fr.length cF,.slice aR nb.rws.length cR] _ _ hR);have HO:Hid (OwnVal (wr.setRow w.heap.size #[.slice aW dss.length cW,.slice aP nb.plc.length cP,.slice aL nb.lst.length cL,.slice aN nb.nts.length cN',.slice aX nb.nxt.length cX,.slice aT nb.sn.length cT,.slice aF nb.fr.length cF,.slice aR nb.rws.length cR]) m ⟨.slice aW dss.length cW,.slice aP nb.plc.length cP,.slice aL nb.lst.length cL,.slice aN nb.nts.length cN',.slice aX nb.nxt.length cX,.slice aT nb.sn.length cT,.slice aF nb.fr.length cF,.slice aR nb.rws.length cR⟩ nv' rv' bs N dss b'):=Lib.hid ((H.far HG.out (fun g hg=>by have:=Option.some.inj hg;omega)).val);have HD:Hid (Dr w (wr.setRow w.heap.size #[.slice aW dss.length cW,.slice aP nb.plc.length cP,.slice aL nb.lst.length cL,.slice aN nb.nts.length cN',.slice aX nb.nxt.length cX,.slice aT nb.sn.length cT,.slice aF nb.fr.length cF,.slice aR nb.rws.length cR]) B c):=Lib.hid (HDr.far HG.out (by omega) hcl hB);go_wp2_with (first|refine wpList_load_row rfl 29 _ rfl D rfl 29 _ (0,0) _ hDw Try.underlying29 rfl board_info ?_|refine wpList_store_row rfl 29 _ _ rfl w.heap.size _ rfl rfl 29 _ hR board_info rfl (by simp[Value.oneCell']) ?_)
     refine bodyPost_ret (results_row (by rfl) _ _ w.heap.size _ _ (0,0) _ rfl HZ.out Try.underlying29 rfl board_info) rfl ?_;exact⟨⟨.slice aW dss.length cW,.slice aP nb.plc.length cP,.slice aL nb.lst.length cL,.slice aN nb.nts.length cN',.slice aX nb.nxt.length cX,.slice aT nb.sn.length cT,.slice aF nb.fr.length cF,.slice aR nb.rws.length cR⟩,dss,b',rfl,HD.out,.inr ⟨hb,RN,nv',rv',bs,N,m,HO.out,hm0,hmb⟩⟩
    ·
     have hp1:¬((possM dss b').length:Int)=0:=by omega
     have hpp:(1:Int)≤((possM dss b').length:Int):=by omega
     have cur6:=D6.1;go_wp2_with fail
     refine (below_any _ B c _ cur6 hpp).mono ?_;rintro e w7 ⟨y,rfl,y0',y1',cu7,g7⟩;have D7:Dr w w7 B c:=D6.step cu7 g7;have H7:=H6.far g7 (fun k hk=>by have:=Option.some.inj hk;omega);have hR7:=(g7.block w.heap.size (by have:=H6.base;omega) (fun e=>by have:=Option.some.inj e;omega)).trans hR6;have hpc:c<w6.heap.size:=cur6.lt;obtain⟨y',hy'⟩:=Int.eq_ofNat_of_zero_le y0';subst hy';have hyl:y'<(possM dss b').length:=by omega
     obtain⟨a',c',e',hq⟩:=id rp;simp only[Value.slice.injEq,true_and] at e';obtain⟨rfl,rfl⟩:=e';rcases hq with h0|⟨bp,o_p,rfl,hbp,hcp⟩
     · exfalso;rw[h0] at hyl;simp at hyl
     have hpne:bp≠c:=fun e=>by have:=op.ge bp rfl;omega
     have dp:w7.cell? ⟨bp,o_p+y',none⟩=some (.int .i64 ((possM dss b').getD y' 0)):=(World.cell?_of_block (a:=⟨bp,o_p+y',none⟩) (g7.block bp hbp (fun e=>hpne (Option.some.inj e)))).trans (hcp y' hyl)
     have hst:isB (possM dss b') ((possM dss b').getD y' 0)=true:=mem_isB (by
      rw[List.getD_eq_getElem?_getD,List.getElem?_eq_getElem hyl]
      exact List.getElem_mem hyl)
     have CS:=l15Step_any w7 m D _ nv' rv' bs N dss b' ((possM dss b').getD y' 0) H7 hBD hst;have RN8:=RN.step hb hst;have F7:∀q,blkB D ⟨.slice aW dss.length cW,.slice aP nb.plc.length cP,.slice aL nb.lst.length cL,.slice aN nb.nts.length cN',.slice aX nb.nxt.length cX,.slice aT nb.sn.length cT,.slice aF nb.fr.length cF,.slice aR nb.rws.length cR⟩ nv' rv' q→w.heap.size≤q:=fun q hq=>by have:=(H7.blk q hq).1;omega
     have NR:¬blkB D ⟨.slice aW dss.length cW,.slice aP nb.plc.length cP,.slice aL nb.lst.length cL,.slice aN nb.nts.length cN',.slice aX nb.nxt.length cX,.slice aT nb.sn.length cT,.slice aF nb.fr.length cF,.slice aR nb.rws.length cR⟩ nv' rv' w.heap.size:=fun hq=>by have:=(H7.blk w.heap.size hq).1;omega
     have zR:w.heap.size<w7.heap.size:=by have:=H7.base;omega
     generalize (possM dss b').getD y' 0=st at *;clear H6 D6 hR6 rp op hcp cu7 g7 hbp;go_wp2_with fail
     refine CS.mono ?_;rintro e w8 ⟨rfl,nv8,rv8,H8,T8⟩;have D8:=D7.turn T8 F7 hcl;have hR8:=(T8.block w.heap.size zR NR).trans hR7;clear CS D7 H7 hR7 T8 dp;go_wp2;go_roundw;case rel=>exact⟨k-1,nv8,rv8,_,by omega,by go_num,H8,RN8,D8,hR8⟩
     case measure=>simp[intOf];omega
end Go.Proofs.Ytgakfkjjkobpiaa
