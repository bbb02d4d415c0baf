/- Gathered texts. -/
import Derived.Test.YtgakfkjjkobpiabGreatMT
set_option maxRecDepth 100000
set_option maxHeartbeats 8000000
namespace Go.Proofs.YtgakfkjjkobpiabGreat
open Go.ChangeShapes Go.WideShapes Go.ChangeAt Go.RowKit
theorem heldBoard_any (w:World)(v:BV)(Vw Vn Vr:Nat→Value)(dss:List (List Dd))(b:Bd)(k:Int)(H:HdBd w v Vw Vn Vr dss b)(hw:∀x,rowsS (bdR7 v Vw Vn Vr dss b) x→x.block<w.heap.size)(M:mkR w k (bdR7 v Vw Vn Vr dss b))(hsz:SzBd dss b)(h0:1≤k)(h1:k+totR (bdR7 v Vw Vn Vr dss b)≤16777216):
  Calls Tryz.prog 12 #[v.agg,.int .i64 k] w fun e w'=>e = .returned (.int .i64 (k+totR (bdR7 v Vw Vn Vr dss b)))∧Keep w w':=by
 have U0:(bdR0 Vw dss).Sublist (bdR7 v Vw Vn Vr dss b):=bd_sub0;have U1:(bdR1 v Vw dss b).Sublist (bdR7 v Vw Vn Vr dss b):=bd_sub1;have U2:(bdR2 v Vw dss b).Sublist (bdR7 v Vw Vn Vr dss b):=bd_sub2;have U3:(bdR3 v Vw Vn dss b).Sublist (bdR7 v Vw Vn Vr dss b):=bd_sub3;have U4:(bdR4 v Vw Vn dss b).Sublist (bdR7 v Vw Vn Vr dss b):=bd_sub4;have U5:(bdR5 v Vw Vn dss b).Sublist (bdR7 v Vw Vn Vr dss b):=bd_sub5;have U6:(bdR6 v Vw Vn dss b).Sublist (bdR7 v Vw Vn Vr dss b):=bd_sub6;have U7:(bdR7 v Vw Vn Vr dss b).Sublist (bdR7 v Vw Vn Vr dss b):=bd_sub7;have HT0:k+(totR (bdR0 Vw dss):Int)≤16777216:=by have:=totR_sub U0;omega
 have HT1:k+(totR (bdR1 v Vw dss b):Int)≤16777216:=by have:=totR_sub U1;omega
 have HT2:k+(totR (bdR2 v Vw dss b):Int)≤16777216:=by have:=totR_sub U2;omega
 have HT3:k+(totR (bdR3 v Vw Vn dss b):Int)≤16777216:=by have:=totR_sub U3;omega
 have HT4:k+(totR (bdR4 v Vw Vn dss b):Int)≤16777216:=by have:=totR_sub U4;omega
 have HT5:k+(totR (bdR5 v Vw Vn dss b):Int)≤16777216:=by have:=totR_sub U5;omega
 have HT6:k+(totR (bdR6 v Vw Vn dss b):Int)≤16777216:=by have:=totR_sub U6;omega
 have HT7:k+(totR (bdR7 v Vw Vn Vr dss b):Int)≤16777216:=by have:=totR_sub U7;omega
 have M7:=M;obtain⟨M6,n7⟩:mkR w k (bdR6 v Vw Vn dss b)∧mkR w (k+(totR (bdR6 v Vw Vn dss b):Int)) (rowsV 1 Vr (fun i=>(b.rws.getD i []).length) b.rws.length):=(mkR_append w _ _ k).1 M7;obtain⟨M5,n6⟩:mkR w k (bdR5 v Vw Vn dss b)∧mkR w (k+(totR (bdR5 v Vw Vn dss b):Int)) ([(v.F,b.fr.length)]):=(mkR_append w _ _ k).1 M6;obtain⟨M4,n5⟩:mkR w k (bdR4 v Vw Vn dss b)∧mkR w (k+(totR (bdR4 v Vw Vn dss b):Int)) ([(v.S,b.sn.length)]):=(mkR_append w _ _ k).1 M5;obtain⟨M3,n4⟩:mkR w k (bdR3 v Vw Vn dss b)∧mkR w (k+(totR (bdR3 v Vw Vn dss b):Int)) ([(v.X,b.nxt.length)]):=(mkR_append w _ _ k).1 M4;obtain⟨M2,n3⟩:mkR w k (bdR2 v Vw dss b)∧mkR w (k+(totR (bdR2 v Vw dss b):Int)) (rowsV 3 Vn (fun i=>(b.nts.getD i []).length) b.nts.length):=(mkR_append w _ _ k).1 M3;obtain⟨M1,n2⟩:mkR w k (bdR1 v Vw dss b)∧mkR w (k+(totR (bdR1 v Vw dss b):Int)) ([(v.L,b.lst.length)]):=(mkR_append w _ _ k).1 M2;obtain⟨M0,n1⟩:mkR w k (bdR0 Vw dss)∧mkR w (k+(totR (bdR0 Vw dss):Int)) ([(v.P,b.plc.length)]):=(mkR_append w _ _ k).1 M1
 have C0:∀wi:World,Keep w wi→Calls Tryz.prog 42 #[v.W,.int .i64 k] wi fun e w'=>e = .returned (.int .i64 (k+(totR (bdR0 Vw dss):Int)))∧Keep wi w':=by
  intro wi g;refine (heldDD_rows wi v.W Vw _ _ k (H.hW.keep g).plain H.sW (fun x hx=>Nat.lt_of_lt_of_le (hw x (rowsS_sub U0 hx)) g.size) (mkR_kept (g.wrt (fun _=>False)) _ _ M0 (fun _ _ h=>h) (fun x hx=>hw x (rowsS_sub U0 hx))) hsz.w1 hsz.w2 (by omega) (by exact HT0)).mono ?_;rintro e w' ⟨rfl,k1⟩;exact⟨rfl,k1⟩
 have C1:∀wi:World,Keep w wi→Calls Tryz.prog 43 #[v.P,.int .i64 (k+(totR (bdR0 Vw dss):Int))] wi fun e w'=>e = .returned (.int .i64 (k+(totR (bdR1 v Vw dss b):Int)))∧Keep wi w':=by
  intro wi g;obtain⟨a,c,e,hs⟩:=H.sP;have E1:∀x,rowS (.slice a b.plc.length c) b.plc.length x→x.block<w.heap.size:=fun x hx=>hw x (rowsS_sub U1 (rowsS_append.2 (.inr ⟨_,List.mem_singleton.2 rfl,by rw[e];exact hx⟩)))
  have hk:k+(totR (bdR0 Vw dss):Int)+(b.plc.length:Int)≤16777216:=by have:=HT1;rw[bdR1,totR_append] at this;simp only[totR] at this;omega
  have q:=n1.1;simp only[e] at q;have C:=heldI_row wi a b.plc.length c (k+(totR (bdR0 Vw dss):Int)) hs (fun x hx=>Nat.lt_of_lt_of_le (E1 x hx) g.size) (q.keep g E1) hsz.plc (by omega) (by omega);rw[←e] at C;refine C.mono ?_;rintro e w' ⟨rfl,k1⟩;exact⟨by rw[bdR1,totR_append];simp only[totR];rw[Int.natCast_add,Int.add_assoc];rfl,k1⟩
 have C2:∀wi:World,Keep w wi→Calls Tryz.prog 43 #[v.L,.int .i64 (k+(totR (bdR1 v Vw dss b):Int))] wi fun e w'=>e = .returned (.int .i64 (k+(totR (bdR2 v Vw dss b):Int)))∧Keep wi w':=by
  intro wi g;obtain⟨a,c,e,hs⟩:=H.sL;have E1:∀x,rowS (.slice a b.lst.length c) b.lst.length x→x.block<w.heap.size:=fun x hx=>hw x (rowsS_sub U2 (rowsS_append.2 (.inr ⟨_,List.mem_singleton.2 rfl,by rw[e];exact hx⟩)))
  have hk:k+(totR (bdR1 v Vw dss b):Int)+(b.lst.length:Int)≤16777216:=by have:=HT2;rw[bdR2,totR_append] at this;simp only[totR] at this;omega
  have q:=n2.1;simp only[e] at q;have C:=heldI_row wi a b.lst.length c (k+(totR (bdR1 v Vw dss b):Int)) hs (fun x hx=>Nat.lt_of_lt_of_le (E1 x hx) g.size) (q.keep g E1) hsz.lst (by omega) (by omega);rw[←e] at C;refine C.mono ?_;rintro e w' ⟨rfl,k1⟩;exact⟨by rw[bdR2,totR_append];simp only[totR];rw[Int.natCast_add,Int.add_assoc];rfl,k1⟩
 have C3:∀wi:World,Keep w wi→Calls Tryz.prog 44 #[v.N,.int .i64 (k+(totR (bdR2 v Vw dss b):Int))] wi fun e w'=>e = .returned (.int .i64 (k+(totR (bdR3 v Vw Vn dss b):Int)))∧Keep wi w':=by
  intro wi g;refine (heldNN_rows wi v.N Vn _ _ (k+(totR (bdR2 v Vw dss b):Int)) (H.hN.keep g).plain H.sN (fun x hx=>Nat.lt_of_lt_of_le (hw x (rowsS_sub U3 (rowsS_append.2 (.inr hx)))) g.size) (mkR_kept (g.wrt (fun _=>False)) _ _ n3 (fun _ _ h=>h) (fun x hx=>hw x (rowsS_sub U3 (rowsS_append.2 (.inr hx))))) hsz.n1 hsz.n2 (by omega) (by have:=HT3;rw[bdR3,totR_append] at this;omega)).mono ?_;rintro e w' ⟨rfl,k1⟩;exact⟨by rw[bdR3,totR_append,Int.natCast_add,Int.add_assoc],k1⟩
 have C4:∀wi:World,Keep w wi→Calls Tryz.prog 43 #[v.X,.int .i64 (k+(totR (bdR3 v Vw Vn dss b):Int))] wi fun e w'=>e = .returned (.int .i64 (k+(totR (bdR4 v Vw Vn dss b):Int)))∧Keep wi w':=by
  intro wi g;obtain⟨a,c,e,hs⟩:=H.sX;have E1:∀x,rowS (.slice a b.nxt.length c) b.nxt.length x→x.block<w.heap.size:=fun x hx=>hw x (rowsS_sub U4 (rowsS_append.2 (.inr ⟨_,List.mem_singleton.2 rfl,by rw[e];exact hx⟩)))
  have hk:k+(totR (bdR3 v Vw Vn dss b):Int)+(b.nxt.length:Int)≤16777216:=by have:=HT4;rw[bdR4,totR_append] at this;simp only[totR] at this;omega
  have q:=n4.1;simp only[e] at q;have C:=heldI_row wi a b.nxt.length c (k+(totR (bdR3 v Vw Vn dss b):Int)) hs (fun x hx=>Nat.lt_of_lt_of_le (E1 x hx) g.size) (q.keep g E1) hsz.nxt (by omega) (by omega);rw[←e] at C;refine C.mono ?_;rintro e w' ⟨rfl,k1⟩;exact⟨by rw[bdR4,totR_append];simp only[totR];rw[Int.natCast_add,Int.add_assoc];rfl,k1⟩
 have C5:∀wi:World,Keep w wi→Calls Tryz.prog 43 #[v.S,.int .i64 (k+(totR (bdR4 v Vw Vn dss b):Int))] wi fun e w'=>e = .returned (.int .i64 (k+(totR (bdR5 v Vw Vn dss b):Int)))∧Keep wi w':=by
  intro wi g;obtain⟨a,c,e,hs⟩:=H.sS;have E1:∀x,rowS (.slice a b.sn.length c) b.sn.length x→x.block<w.heap.size:=fun x hx=>hw x (rowsS_sub U5 (rowsS_append.2 (.inr ⟨_,List.mem_singleton.2 rfl,by rw[e];exact hx⟩)))
  have hk:k+(totR (bdR4 v Vw Vn dss b):Int)+(b.sn.length:Int)≤16777216:=by have:=HT5;rw[bdR5,totR_append] at this;simp only[totR] at this;omega
  have q:=n5.1;simp only[e] at q;have C:=heldI_row wi a b.sn.length c (k+(totR (bdR4 v Vw Vn dss b):Int)) hs (fun x hx=>Nat.lt_of_lt_of_le (E1 x hx) g.size) (q.keep g E1) hsz.sn (by omega) (by omega);rw[←e] at C;refine C.mono ?_;rintro e w' ⟨rfl,k1⟩;exact⟨by rw[bdR5,totR_append];simp only[totR];rw[Int.natCast_add,Int.add_assoc];rfl,k1⟩
 have C6:∀wi:World,Keep w wi→Calls Tryz.prog 43 #[v.F,.int .i64 (k+(totR (bdR5 v Vw Vn dss b):Int))] wi fun e w'=>e = .returned (.int .i64 (k+(totR (bdR6 v Vw Vn dss b):Int)))∧Keep wi w':=by
  intro wi g;obtain⟨a,c,e,hs⟩:=H.sF;have E1:∀x,rowS (.slice a b.fr.length c) b.fr.length x→x.block<w.heap.size:=fun x hx=>hw x (rowsS_sub U6 (rowsS_append.2 (.inr ⟨_,List.mem_singleton.2 rfl,by rw[e];exact hx⟩)))
  have hk:k+(totR (bdR5 v Vw Vn dss b):Int)+(b.fr.length:Int)≤16777216:=by have:=HT6;rw[bdR6,totR_append] at this;simp only[totR] at this;omega
  have q:=n6.1;simp only[e] at q;have C:=heldI_row wi a b.fr.length c (k+(totR (bdR5 v Vw Vn dss b):Int)) hs (fun x hx=>Nat.lt_of_lt_of_le (E1 x hx) g.size) (q.keep g E1) hsz.fr (by omega) (by omega);rw[←e] at C;refine C.mono ?_;rintro e w' ⟨rfl,k1⟩;exact⟨by rw[bdR6,totR_append];simp only[totR];rw[Int.natCast_add,Int.add_assoc];rfl,k1⟩
 have C7:∀wi:World,Keep w wi→Calls Tryz.prog 45 #[v.R,.int .i64 (k+(totR (bdR6 v Vw Vn dss b):Int))] wi fun e w'=>e = .returned (.int .i64 (k+(totR (bdR7 v Vw Vn Vr dss b):Int)))∧Keep wi w':=by
  intro wi g;refine (heldII_rows wi v.R Vr _ _ (k+(totR (bdR6 v Vw Vn dss b):Int)) (H.hR.keep g).plain H.sR (fun x hx=>Nat.lt_of_lt_of_le (hw x (rowsS_sub U7 (rowsS_append.2 (.inr hx)))) g.size) (mkR_kept (g.wrt (fun _=>False)) _ _ n7 (fun _ _ h=>h) (fun x hx=>hw x (rowsS_sub U7 (rowsS_append.2 (.inr hx))))) hsz.r1 hsz.r2 (by omega) (by have:=HT7;rw[bdR7,totR_append] at this;omega)).mono ?_;rintro e w' ⟨rfl,k1⟩;exact⟨by rw[bdR7,totR_append,Int.natCast_add,Int.add_assoc],k1⟩
 have k0:Keep w (w.alloc (.cells v.arr 32)):=(Keep.refl w).alloc _;have BX:Hid (∀w1:World,Keep (w.alloc (.cells v.arr 32)) w1→∀i,w1.cell? ⟨w.heap.size,i,none⟩=v.arr[i]?):=Lib.hid (fun w1 g i=>box_cell g i);obtain⟨aW,cW,eW,-⟩:=id H.hW;obtain⟨aP,cP,eP,-⟩:=id H.sP;obtain⟨aL,cL,eL,-⟩:=id H.sL;obtain⟨aN,cN,eN,-⟩:=id H.hN;obtain⟨aX,cX,eX,-⟩:=id H.sX;obtain⟨aS,cS,eS,-⟩:=id H.sS;obtain⟨aF,cF,eF,-⟩:=id H.sF;obtain⟨aR,cR,eR,-⟩:=id H.hR;have D0:=Lib.hid C0;have D1:=Lib.hid C1;have D2:=Lib.hid C2;have D3:=Lib.hid C3;have D4:=Lib.hid C4;have D5:=Lib.hid C5;have D6:=Lib.hid C6;have D7:=Lib.hid C7;clear C0 C1 C2 C3 C4 C5 C6 C7 H M hw hsz h1 n1 n2 n3 n4 n5 n6 n7 M0 U0 M1 U1 M2 U2 M3 U3 M4 U4 M5 U5 M6 U6 M7 U7;have nn0:¬(k+(totR (bdR0 Vw dss):Int)<0):=by omega
 have nn1:¬(k+(totR (bdR1 v Vw dss b):Int)<0):=by omega
 have nn2:¬(k+(totR (bdR2 v Vw dss b):Int)<0):=by omega
 have nn3:¬(k+(totR (bdR3 v Vw Vn dss b):Int)<0):=by omega
 have nn4:¬(k+(totR (bdR4 v Vw Vn dss b):Int)<0):=by omega
 have nn5:¬(k+(totR (bdR5 v Vw Vn dss b):Int)<0):=by omega
 have nn6:¬(k+(totR (bdR6 v Vw Vn dss b):Int)<0):=by omega
 have nn7:¬(k+(totR (bdR7 v Vw Vn Vr dss b):Int)<0):=by omega
 generalize hP0:bdR0 Vw dss=P0 at *;generalize hP1:bdR1 v Vw dss b=P1 at *;generalize hP2:bdR2 v Vw dss b=P2 at *;generalize hP3:bdR3 v Vw Vn dss b=P3 at *;generalize hP4:bdR4 v Vw Vn dss b=P4 at *;generalize hP5:bdR5 v Vw Vn dss b=P5 at *;generalize hP6:bdR6 v Vw Vn dss b=P6 at *;generalize hP7:bdR7 v Vw Vn Vr dss b=P7 at *;clear hP0 hP1 hP2 hP3 hP4 hP5 hP6 hP7;obtain⟨W,P,L,N,X,S,F,R⟩:=v;simp only at eW eP eL eN eX eS eF eR;subst eW eP eL eN eX eS eF eR;go_enter Tryz.func12,Tryz.ntmps12
 have x0:=BX.out _ (Keep.refl _) 0;have K0:=k0;have B0:=Keep.refl (w.alloc (.cells (BV.arr ⟨.slice aW dss.length cW,.slice aP b.plc.length cP,.slice aL b.lst.length cL,.slice aN b.nts.length cN,.slice aX b.nxt.length cX,.slice aS b.sn.length cS,.slice aF b.fr.length cF,.slice aR b.rws.length cR⟩) 32));simp at x0;go_wp2_with fail
 refine (D0.out _ K0).mono ?_;rintro e w1 ⟨rfl,k1⟩;have K1:=K0.trans k1;have B1:=B0.trans k1;clear x0 D0 K0 B0 k1;have x1:=BX.out _ B1 1;simp at x1;go_wp2_with fail
 refine (D1.out _ K1).mono ?_;rintro e w2 ⟨rfl,k2⟩;have K2:=K1.trans k2;have B2:=B1.trans k2;clear x1 D1 K1 B1 k2;have x2:=BX.out _ B2 2;simp at x2;go_wp2_with fail
 refine (D2.out _ K2).mono ?_;rintro e w3 ⟨rfl,k3⟩;have K3:=K2.trans k3;have B3:=B2.trans k3;clear x2 D2 K2 B2 k3;have x3:=BX.out _ B3 3;simp at x3;go_wp2_with fail
 refine (D3.out _ K3).mono ?_;rintro e w4 ⟨rfl,k4⟩;have K4:=K3.trans k4;have B4:=B3.trans k4;clear x3 D3 K3 B3 k4;have x4:=BX.out _ B4 4;simp at x4;go_wp2_with fail
 refine (D4.out _ K4).mono ?_;rintro e w5 ⟨rfl,k5⟩;have K5:=K4.trans k5;have B5:=B4.trans k5;clear x4 D4 K4 B4 k5;have x5:=BX.out _ B5 5;simp at x5;go_wp2_with fail
 refine (D5.out _ K5).mono ?_;rintro e w6 ⟨rfl,k6⟩;have K6:=K5.trans k6;have B6:=B5.trans k6;clear x5 D5 K5 B5 k6;have x6:=BX.out _ B6 6;simp at x6;go_wp2_with fail
 refine (D6.out _ K6).mono ?_;rintro e w7 ⟨rfl,k7⟩;have K7:=K6.trans k7;have B7:=B6.trans k7;clear x6 D6 K6 B6 k7;have x7:=BX.out _ B7 7;simp at x7;go_wp2_with fail
 refine (D7.out _ K7).mono ?_;rintro e w8 ⟨rfl,k8⟩;have K8:=K7.trans k8;have B8:=B7.trans k8;clear x7 D7 K7 B7 k8;go_wp2;go_ret;exact⟨rfl,K8⟩
theorem heldB_any (w:World)(v:BV)(dss:List (List Dd))(b:Bd)(n:Nat)(h:Marked w v dss b n)(hz:SzBd dss b)(hs:SumBd dss b):
  Calls Tryz.prog 12 #[v.agg,.int .i64 1] w fun e w'=>e = .returned (.int .i64 (1+(n:Int)))∧Keep w w':=by
 obtain⟨Vw,Vn,Vr,h1,rfl,h3,h4⟩:=h;have ht:=tot_board hz hs v Vw Vn Vr;exact heldBoard_any w v Vw Vn Vr dss b 1 h1 h3 h4 hz (by omega) (by omega)
end Go.Proofs.YtgakfkjjkobpiabGreat
