/- Gathered texts. -/
import Derived.Test.YtgakfkjjkobpiaaMR
import Derived.Lib.Hide
import Derived.Laws.Rows
import Derived.Deep.Cut
import Derived.RegionTactic
import Derived.Defers
import Derived.Recover
import Derived.Test.YtgakfkjjkobpiaaMI
set_option maxRecDepth 100000
set_option maxHeartbeats 8000000
namespace Go.Proofs.Ytgakfkjjkobpiaa
open Go.ChangeShapes Go.WideShapes Go.ChangeAt Go.RowKit
theorem mustStand_any (w:World)(v:BV)(dss:List (List Dd))(b:Bd)(last:Int)(h:RdBd w v dss b)(hz:SzBd dss b):
  Calls Try.prog 121 #[v.agg,.int .i64 last] w fun e w'=>e=mustE (standP last b)∧Keep w w':=by
 obtain⟨aW,aP,aL,aN,aX,aS,aF,aR,cW,cP,cL,cN,cX,cS,cF,cR,rfl⟩:=h.shapes;have CP:=fun (W:World) (kW:Keep w W)=>mustNums_any W _ b.plc 3 0 9 (h.P.keep kW) hz.plc
 have CL:=fun (W:World) (kW:Keep w W)=>mustNums_any W _ b.lst 3 0 last (h.L.keep kW) hz.lst
 have HD:Hid (standP last b=(numP b.plc 3 0 9&&(numP b.lst 3 0 last&&(decide (b.rws.length=3)&&b.rws.all (rowP last))))):=Lib.hid rfl;have HR:=Lib.hid h.R;have HZ:=Lib.hid hz.r2;have hz1:=hz.r1;have c1:(w.alloc (.cells #[.slice aW dss.length cW,.slice aP b.plc.length cP,.slice aL b.lst.length cL,.slice aN b.nts.length cN,.slice aX b.nxt.length cX,.slice aS b.sn.length cS,.slice aF b.fr.length cF,.slice aR b.rws.length cR] 29)).cell? ⟨w.heap.size,1,none⟩=some (.slice aP b.plc.length cP):=box_cell (Keep.refl _) 1;have c2:(w.alloc (.cells #[.slice aW dss.length cW,.slice aP b.plc.length cP,.slice aL b.lst.length cL,.slice aN b.nts.length cN,.slice aX b.nxt.length cX,.slice aS b.sn.length cS,.slice aF b.fr.length cF,.slice aR b.rws.length cR] 29)).cell? ⟨w.heap.size,2,none⟩=some (.slice aL b.lst.length cL):=box_cell (Keep.refl _) 2;have c7:(w.alloc (.cells #[.slice aW dss.length cW,.slice aP b.plc.length cP,.slice aL b.lst.length cL,.slice aN b.nts.length cN,.slice aX b.nxt.length cX,.slice aS b.sn.length cS,.slice aF b.fr.length cF,.slice aR b.rws.length cR] 29)).cell? ⟨w.heap.size,7,none⟩=some (.slice aR b.rws.length cR):=box_cell (Keep.refl _) 7;have KW:Keep w (w.alloc (.cells #[.slice aW dss.length cW,.slice aP b.plc.length cP,.slice aL b.lst.length cL,.slice aN b.nts.length cN,.slice aX b.nxt.length cX,.slice aS b.sn.length cS,.slice aF b.fr.length cF,.slice aR b.rws.length cR] 29)):=(Keep.refl w).alloc _;clear h hz;go_enter Try.func121,Try.ntmps121
 go_upto_region 1 with fail
 generalize (w.alloc (.cells #[.slice aW dss.length cW,.slice aP b.plc.length cP,.slice aL b.lst.length cL,.slice aN b.nts.length cN,.slice aX b.nxt.length cX,.slice aS b.sn.length cS,.slice aF b.fr.length cF,.slice aR b.rws.length cR] 29))=w1 at *;go_wp2_with fail
 refine (CP _ KW).mono ?_;rintro e w2 ⟨rfl,rfl⟩;cases hp:numP b.plc 3 0 9
 ·
  have HE:Hid (standP last b=false):=Lib.hid (by rw[HD.out,hp];rfl);rw[mustE_no rfl];go_wp2;exact⟨rfl,by rw[mustE_no HE.out],KW⟩
 rw[mustE_yes rfl];go_wp2_with fail
 refine (CL _ KW).mono ?_;rintro e w2 ⟨rfl,rfl⟩;cases hl:numP b.lst 3 0 last
 ·
  have HE:Hid (standP last b=false):=Lib.hid (by rw[HD.out,hl];simp);rw[mustE_no rfl];go_wp2;exact⟨rfl,by rw[mustE_no HE.out],KW⟩
 rw[mustE_yes rfl];go_wp2_with fail
 refine (must_any _ _).mono ?_;rintro e w2 ⟨rfl,rfl⟩;by_cases hr:b.rws.length=3;rotate_left
 ·
  have HE:Hid (standP last b=false):=Lib.hid (by rw[HD.out,decide_eq_false hr];simp);rw[mustE_no (by simp;omega)];go_wp2;exact⟨rfl,by rw[mustE_no HE.out],KW⟩
 have HT:Hid (standP last b=b.rws.all (rowP last)):=Lib.hid (by rw[HD.out,hp,hl,decide_eq_true hr];rfl);rw[mustE_yes (by simp;omega)];clear HD hp hl hr CP CL;go_wp2;go_loopw [5,21] (fun _ i wr=>∃k:Nat,k≤b.rws.length∧i = .int .i64 k∧Hid (∀j,j<k→rowP last (b.rws.getD j [])=true)∧wr=w2) (fun _ i _=>b.rws.length-(intOf i).toNat)
 case atStart=>exact⟨0,Nat.zero_le _,rfl,Lib.hid (fun j hj=>absurd hj (Nat.not_lt_zero _)),rfl⟩
 case round=>
  obtain⟨k,hk,rfl,hno,rfl⟩:=hrel;by_cases hlt:k<b.rws.length
  ·
   obtain⟨a',c',he',hR⟩:=HR.out.keep KW;simp only[Value.slice.injEq,true_and] at he';obtain⟨rfl,rfl⟩:=he';rcases hR with h0|⟨br,or,rfl,hbr,hcr⟩
   · exfalso;rw[h0] at hlt;simp at hlt
   obtain⟨vr,d,r⟩:=hcr k hlt;have C:=mustRow_any wr vr _ last r (HZ.out k hlt);have HF:rowP last (b.rws.getD k [])=false→Hid (standP last b=false):=fun e=>Lib.hid (by rw[HT.out];exact all_getD_false [] hlt e)
   have HN:rowP last (b.rws.getD k [])=true→Hid (∀j,j<k+1→rowP last (b.rws.getD j [])=true):=fun hq=>Lib.hid (fun j hj=>by
    by_cases e:j=k
    · rw[e];exact hq
    · exact hno.out j (by omega))
   clear hcr hno HT r;have i1:(0:Int)≤(k:Int):=Int.natCast_nonneg _;have i2:(k:Int)<(b.rws.length:Int):=by omega
   generalize b.rws.getD k []=row at *;go_wp2_with fail
   refine C.mono ?_;rintro e w3 ⟨rfl,rfl⟩;cases hq:rowP last row
   ·
    have HE:=HF hq;rw[mustE_no rfl];go_wp2;exact⟨rfl,by rw[mustE_no HE.out],KW⟩
   ·
    have HE:=HN hq;rw[mustE_yes rfl];go_wp2;go_roundw;case rel=>exact⟨k+1,by omega,rfl,HE,trivial⟩
    case measure=>simp[intOf];omega
  have HE:Hid (standP last b=true):=Lib.hid (by rw[HT.out];exact all_getD_true [] (fun j hj=>hno.out j (by omega)));obtain rfl:k=b.rws.length:=by omega
  clear hno HT;go_wp2;go_end0;exact⟨by rw[mustE_yes HE.out],KW⟩
theorem mustClerks_any (w:World)(v:BV)(dss:List (List Dd))(b:Bd)(last:Int)(h:RdBd w v dss b)(hz:SzBd dss b):
  Calls Try.prog 122 #[v.agg,.int .i64 last] w fun e w'=>e=mustE (clksP last dss b)∧Keep w w':=by
 obtain⟨aW,aP,aL,aN,aX,aS,aF,aR,cW,cP,cL,cN,cX,cS,cF,cR,rfl⟩:=h.shapes;have HD:Hid (clksP last dss b=(decide (b.nts.length=dss.length)&&(decide (b.nxt.length=dss.length)&&(List.range dss.length).all (ckP last dss b)))):=Lib.hid rfl;have HH:=Lib.hid h;have HZ:=Lib.hid hz;have hz1:=hz.w1;have c0:(w.alloc (.cells #[.slice aW dss.length cW,.slice aP b.plc.length cP,.slice aL b.lst.length cL,.slice aN b.nts.length cN,.slice aX b.nxt.length cX,.slice aS b.sn.length cS,.slice aF b.fr.length cF,.slice aR b.rws.length cR] 29)).cell? ⟨w.heap.size,0,none⟩=some (.slice aW dss.length cW):=box_cell (Keep.refl _) 0;have c3:(w.alloc (.cells #[.slice aW dss.length cW,.slice aP b.plc.length cP,.slice aL b.lst.length cL,.slice aN b.nts.length cN,.slice aX b.nxt.length cX,.slice aS b.sn.length cS,.slice aF b.fr.length cF,.slice aR b.rws.length cR] 29)).cell? ⟨w.heap.size,3,none⟩=some (.slice aN b.nts.length cN):=box_cell (Keep.refl _) 3;have c4:(w.alloc (.cells #[.slice aW dss.length cW,.slice aP b.plc.length cP,.slice aL b.lst.length cL,.slice aN b.nts.length cN,.slice aX b.nxt.length cX,.slice aS b.sn.length cS,.slice aF b.fr.length cF,.slice aR b.rws.length cR] 29)).cell? ⟨w.heap.size,4,none⟩=some (.slice aX b.nxt.length cX):=box_cell (Keep.refl _) 4;have KW:Keep w (w.alloc (.cells #[.slice aW dss.length cW,.slice aP b.plc.length cP,.slice aL b.lst.length cL,.slice aN b.nts.length cN,.slice aX b.nxt.length cX,.slice aS b.sn.length cS,.slice aF b.fr.length cF,.slice aR b.rws.length cR] 29)):=(Keep.refl w).alloc _;have z1:w.heap.size<(w.alloc (.cells #[.slice aW dss.length cW,.slice aP b.plc.length cP,.slice aL b.lst.length cL,.slice aN b.nts.length cN,.slice aX b.nxt.length cX,.slice aS b.sn.length cS,.slice aF b.fr.length cF,.slice aR b.rws.length cR] 29)).heap.size:=by rw[heap_size];omega
 clear h hz;go_enter Try.func122,Try.ntmps122
 go_upto_region 1 with fail
 generalize (w.alloc (.cells #[.slice aW dss.length cW,.slice aP b.plc.length cP,.slice aL b.lst.length cL,.slice aN b.nts.length cN,.slice aX b.nxt.length cX,.slice aS b.sn.length cS,.slice aF b.fr.length cF,.slice aR b.rws.length cR] 29))=w1 at *;go_wp2_with fail
 refine (must_any _ _).mono ?_;rintro e w2 ⟨rfl,rfl⟩;by_cases hr:b.nts.length=dss.length;rotate_left
 ·
  have HE:Hid (clksP last dss b=false):=Lib.hid (by rw[HD.out,decide_eq_false hr];rfl);rw[mustE_no (by simp;omega)];go_wp2;exact⟨rfl,by rw[mustE_no HE.out],KW⟩
 have HN:=Lib.hid hr;rw[mustE_yes (by simp;omega)];clear hr;go_wp2_with fail
 refine (must_any _ _).mono ?_;rintro e w2 ⟨rfl,rfl⟩;by_cases hr:b.nxt.length=dss.length;rotate_left
 ·
  have HE:Hid (clksP last dss b=false):=Lib.hid (by rw[HD.out,decide_eq_false hr];simp);rw[mustE_no (by simp;omega)];go_wp2;exact⟨rfl,by rw[mustE_no HE.out],KW⟩
 have HX:=Lib.hid hr;have HT:Hid (clksP last dss b=(List.range dss.length).all (ckP last dss b)):=Lib.hid (by rw[HD.out,decide_eq_true HX.out,decide_eq_true HN.out];rfl);rw[mustE_yes (by simp;omega)];clear hr HD;go_wp2;go_loopw [4,5,25] (fun _ _ i wr=>∃k:Nat,k≤dss.length∧i = .int .i64 k∧Hid (∀j,j<k→ckP last dss b j=true)∧Keep w2 wr) (fun _ _ i _=>dss.length-(intOf i).toNat)
 case atStart=>exact⟨0,Nat.zero_le _,rfl,Lib.hid (fun j hj=>absurd hj (Nat.not_lt_zero _)),Keep.refl _⟩
 case round=>
  obtain⟨k,hk,rfl,hno,hK⟩:=hrel;by_cases hlt:k<dss.length
  ·
   have lN:k<b.nts.length:=by rw[HN.out];exact hlt
   have lX:k<b.nxt.length:=by rw[HX.out];exact hlt
   have K2:=KW.trans hK;have e3:=(hK.cell z1).trans c3;have e4:=(hK.cell z1).trans c4;obtain⟨a',c',he',hX⟩:=HH.out.X.keep K2;simp only[Value.slice.injEq,true_and] at he';obtain⟨rfl,rfl⟩:=he';rcases hX with h0|⟨bx,ox,rfl,hbx,hcx⟩
   · exfalso;rw[h0] at lX;simp at lX
   obtain⟨a',c',he',hW⟩:=HH.out.W.keep K2;simp only[Value.slice.injEq,true_and] at he';obtain⟨rfl,rfl⟩:=he';rcases hW with h0|⟨bw,ow,rfl,hbw,hcw⟩
   · exfalso;rw[h0] at hlt;simp at hlt
   obtain⟨a',c',he',hN⟩:=HH.out.N.keep K2;simp only[Value.slice.injEq,true_and] at he';obtain⟨rfl,rfl⟩:=he';rcases hN with h0|⟨bn,on,rfl,hbn,hcn⟩
   · exfalso;rw[h0] at lN;simp at lN
   have d1:=hcx k lX;obtain⟨vw,d2,r2⟩:=hcw k hlt;obtain⟨vn,d3,r3⟩:=hcn k lN;have hz2:=HZ.out.w2 k hlt;have C:=mustNotes_any wr vn _ last r3 (HZ.out.n2 k lN);have HF:ckP last dss b k=false→Hid (clksP last dss b=false):=fun e=>Lib.hid (by rw[HT.out];exact all_range_false hlt e)
   have HM:ckP last dss b k=true→Hid (∀j,j<k+1→ckP last dss b j=true):=fun hq=>Lib.hid (fun j hj=>by
    by_cases e:j=k
    · rw[e];exact hq
    · exact hno.out j (by omega))
   have HC:Hid (ckP last dss b k=(inB (b.nxt.getD k 0) 0 ((dss.getD k []).length:Int)&&ntsP last (b.nts.getD k []))):=Lib.hid rfl;have i1:(0:Int)≤(k:Int):=Int.natCast_nonneg _;have i2:(k:Int)<(dss.length:Int):=by omega
   have i3:(k:Int)<(b.nxt.length:Int):=by omega
   have i4:(k:Int)<(b.nts.length:Int):=by omega
   clear hcx hcw hcn hno HT r3 HH HZ;obtain⟨aw,cw,rfl,-⟩:=r2;generalize dss.getD k []=ds at *;generalize b.nxt.getD k 0=x at *;generalize b.nts.getD k []=ns at *;go_wp2_with fail
   refine (isFrom_any _ _ _ _).mono ?_;rintro e w3 ⟨rfl,rfl⟩;cases hi:inB x 0 (ds.length:Int)
   ·
    have HE:=HF (by rw[HC.out,hi];rfl);go_wp2_with fail
    refine (must_no _).mono ?_;rintro e w3 ⟨rfl,rfl⟩;go_wp2;exact⟨rfl,by rw[mustE_no HE.out],K2⟩
   have HC2:Hid (ckP last dss b k=ntsP last ns):=Lib.hid (by rw[HC.out,hi];rfl);go_wp2_with fail
   refine (must_yes _).mono ?_;rintro e w3 ⟨rfl,rfl⟩;clear hi HC;go_wp2_with fail
   refine C.mono ?_;rintro e w4 ⟨rfl,k4⟩;rw[←HC2.out];cases hq:ckP last dss b k
   ·
    have HE:=HF hq;rw[mustE_no rfl];go_wp2;exact⟨rfl,by rw[mustE_no HE.out],K2.trans k4⟩
   ·
    have HE:=HM hq;rw[mustE_yes rfl];clear HF HM HC2;go_wp2;go_roundw;case rel=>exact⟨k+1,by omega,rfl,HE,hK.trans k4⟩
    case measure=>simp[intOf];omega
  have HE:Hid (clksP last dss b=true):=Lib.hid (by rw[HT.out];exact all_range_true (fun j hj=>hno.out j (by omega)));obtain rfl:k=dss.length:=by omega
  clear hno HT;go_wp2;go_end0;exact⟨by rw[mustE_yes HE.out],KW.trans hK⟩
theorem mustRight_any (w:World)(v:BV)(dss:List (List Dd))(b:Bd)(h:RdBd w v dss b)(hz:SzBd dss b):
  Calls Try.prog 98 #[v.agg] w fun e w'=>e=mustE (boardB dss b)∧Keep w w':=by
 obtain⟨aW,aP,aL,aN,aX,aS,aF,aR,cW,cP,cL,cN,cX,cS,cF,cR,rfl⟩:=h.shapes;have HS:Hid (boardB dss b=boardP dss b):=Lib.hid (boardP_same dss b (idxB_len rdE (eventsB dss))).symm;have HD:Hid (boardP dss b=(workB dss&&(standP (((eventsB dss).length:Int)-1) b&&(clksP (((eventsB dss).length:Int)-1) dss b&&(numP b.sn (idxB rdE (eventsB dss)).length (-1) 9&&numP b.fr (idxB rdE (eventsB dss)).length (-1) (((eventsB dss).length:Int)-1)))))):=Lib.hid rfl;have CW:=fun (W:World) (kW:Keep w W)=>implWorkOk_any W _ dss (h.W.keep kW) hz.w1 hz.w2
 have CE:=fun (W:World) (kW:Keep w W)=>implEventsOf_any W _ dss (h.W.keep kW) hz.w1 hz.w2
 have CT:=fun (W:World) (kW:Keep w W)=>mustStand_any W _ dss b (((eventsB dss).length:Int)-1) (h.keep kW) hz
 have CC:=fun (W:World) (kW:Keep w W)=>mustClerks_any W _ dss b (((eventsB dss).length:Int)-1) (h.keep kW) hz
 have CS:=fun (W:World) (kW:Keep w W)=>mustNums_any W _ b.sn (idxB rdE (eventsB dss)).length (-1) 9 (h.S.keep kW) hz.sn
 have CF:=fun (W:World) (kW:Keep w W)=>mustNums_any W _ b.fr (idxB rdE (eventsB dss)).length (-1) (((eventsB dss).length:Int)-1) (h.F.keep kW) hz.fr
 have le:=eventsB_len9 dss;have lr:=idxB_len rdE (eventsB dss);have c0:(w.alloc (.cells #[.slice aW dss.length cW,.slice aP b.plc.length cP,.slice aL b.lst.length cL,.slice aN b.nts.length cN,.slice aX b.nxt.length cX,.slice aS b.sn.length cS,.slice aF b.fr.length cF,.slice aR b.rws.length cR] 29)).cell? ⟨w.heap.size,0,none⟩=some (.slice aW dss.length cW):=box_cell (Keep.refl _) 0;have hB1:(w.alloc (.cells #[.slice aW dss.length cW,.slice aP b.plc.length cP,.slice aL b.lst.length cL,.slice aN b.nts.length cN,.slice aX b.nxt.length cX,.slice aS b.sn.length cS,.slice aF b.fr.length cF,.slice aR b.rws.length cR] 29)).heap[w.heap.size]? = some (.cells #[.slice aW dss.length cW,.slice aP b.plc.length cP,.slice aL b.lst.length cL,.slice aN b.nts.length cN,.slice aX b.nxt.length cX,.slice aS b.sn.length cS,.slice aF b.fr.length cF,.slice aR b.rws.length cR] 29 (0,0)):=heap_alloc_new _ _;have KW:Keep w (w.alloc (.cells #[.slice aW dss.length cW,.slice aP b.plc.length cP,.slice aL b.lst.length cL,.slice aN b.nts.length cN,.slice aX b.nxt.length cX,.slice aS b.sn.length cS,.slice aF b.fr.length cF,.slice aR b.rws.length cR] 29)):=(Keep.refl w).alloc _;have z1:w.heap.size<(w.alloc (.cells #[.slice aW dss.length cW,.slice aP b.plc.length cP,.slice aL b.lst.length cL,.slice aN b.nts.length cN,.slice aX b.nxt.length cX,.slice aS b.sn.length cS,.slice aF b.fr.length cF,.slice aR b.rws.length cR] 29)).heap.size:=by rw[heap_size];omega
 clear h hz;go_enter Try.func98,Try.ntmps98
 go_upto_region 1 with fail
 generalize (w.alloc (.cells #[.slice aW dss.length cW,.slice aP b.plc.length cP,.slice aL b.lst.length cL,.slice aN b.nts.length cN,.slice aX b.nxt.length cX,.slice aS b.sn.length cS,.slice aF b.fr.length cF,.slice aR b.rws.length cR] 29))=w1 at *;go_wp2_with fail
 refine (CW _ KW).mono ?_;rintro e w2 ⟨rfl,k2⟩;have K2:=KW.trans k2;have e0:=(k2.cell z1).trans c0;go_wp2_with fail
 refine (must_any _ _).mono ?_;rintro e w3 ⟨rfl,rfl⟩;cases hw:workB dss
 ·
  have HE:Hid (boardP dss b=false):=Lib.hid (by rw[HD.out,hw];simp);rw[mustE_no rfl];go_wp2;exact⟨rfl,by rw[HS.out,mustE_no HE.out],K2⟩
 rw[mustE_yes rfl];go_wp2_with fail
 refine (CE _ K2).mono ?_;rintro e w4 ⟨v4,rfl,A4,k4⟩;have K4:=K2.trans k4;have R4:=A4.rd;obtain⟨a4,x4,rfl,-⟩:=id R4;have CR:=implReadsOf_any w4 _ _ R4 (by omega);have el:IntKind.i64.wrap (((eventsB dss).length:Int)-1)=((eventsB dss).length:Int)-1:=by rw[IntKind.wrap_i64];omega
 clear CW CE A4 R4 c0 e0;go_wp2_with fail
 refine CR.mono ?_;rintro e w5 ⟨v5,rfl,O5,k5⟩;have K5:=K4.trans k5;obtain⟨a5,x5,rfl,-⟩:=id O5.rd;have hB5:=(Below.block (k2.trans (k4.trans k5)) w.heap.size z1).trans hB1;have z5:w.heap.size<w5.heap.size:=Nat.lt_of_lt_of_le z1 (k2.trans (k4.trans k5)).size;clear O5 CR hB1;go_wp2_with (first|refine wpList_load_row rfl 29 _ rfl w.heap.size rfl 29 _ (0,0) _ hB5 Try.underlying29 rfl board_info ?_|fail)
 refine (CT _ K5).mono ?_;rintro e w6 ⟨rfl,k6⟩;have K6:=K5.trans k6;cases hs:standP (((eventsB dss).length:Int)-1) b
 ·
  have HE:Hid (boardP dss b=false):=Lib.hid (by rw[HD.out,hs];simp);rw[mustE_no rfl];go_wp2;exact⟨rfl,by rw[HS.out,mustE_no HE.out],K6⟩
 rw[mustE_yes rfl];have hB6:=(Below.block k6 w.heap.size z5).trans hB5;have z6:w.heap.size<w6.heap.size:=Nat.lt_of_lt_of_le z5 k6.size;go_wp2_with (first|refine wpList_load_row rfl 29 _ rfl w.heap.size rfl 29 _ (0,0) _ hB6 Try.underlying29 rfl board_info ?_|fail)
 refine (CC _ K6).mono ?_;rintro e w7 ⟨rfl,k7⟩;have K7:=K6.trans k7;cases hc:clksP (((eventsB dss).length:Int)-1) dss b
 ·
  have HE:Hid (boardP dss b=false):=Lib.hid (by rw[HD.out,hc];simp);rw[mustE_no rfl];go_wp2;exact⟨rfl,by rw[HS.out,mustE_no HE.out],K7⟩
 rw[mustE_yes rfl];have hB7:=(Below.block k7 w.heap.size z6).trans hB6;have f5:w7.cell? ⟨w.heap.size,5,none⟩=some (.slice aS b.sn.length cS):=by rw[cell_of_row w7 _ 5 _ _ _ hB7];rfl
 have f6:w7.cell? ⟨w.heap.size,6,none⟩=some (.slice aF b.fr.length cF):=by rw[cell_of_row w7 _ 6 _ _ _ hB7];rfl
 clear hB5 hB6 hB7 CT CC;go_wp2_with fail
 refine (CS _ K7).mono ?_;rintro e w8 ⟨rfl,rfl⟩;cases hn:numP b.sn (idxB rdE (eventsB dss)).length (-1) 9
 ·
  have HE:Hid (boardP dss b=false):=Lib.hid (by rw[HD.out,hn];simp);rw[mustE_no rfl];go_wp2;exact⟨rfl,by rw[HS.out,mustE_no HE.out],K7⟩
 rw[mustE_yes rfl];go_wp2_with fail
 refine (CF _ K7).mono ?_;rintro e w9 ⟨rfl,rfl⟩;cases hf:numP b.fr (idxB rdE (eventsB dss)).length (-1) (((eventsB dss).length:Int)-1)
 ·
  have HE:Hid (boardP dss b=false):=Lib.hid (by rw[HD.out,hf];simp);rw[mustE_no rfl];go_wp2;exact⟨rfl,by rw[HS.out,mustE_no HE.out],K7⟩
 rw[mustE_yes rfl];have HE:Hid (boardP dss b=true):=Lib.hid (by rw[HD.out,hw,hs,hc,hn,hf];rfl);clear HD hw hs hc hn hf;go_wp2;go_end0;exact⟨by rw[HS.out,mustE_yes HE.out],K7⟩
theorem isPlain_any (w:World)(k p x g:Int):
  Calls Try.prog 124 #[.agg #[.int .i64 k,.int .i64 p,.int .i64 x,.int .i64 g]] w fun e w'=>e = .returned (.bool (plnD (k,p,x,g)))∧Keep w w':=by
 have HP:Hid (plnD (k,p,x,g)=(decide (g=0)&&(decide (k=1)||decide (k=2)))):=Lib.hid rfl;by_cases h0:g=0
 ·
  by_cases h1:k=1
  ·
   have HT:Hid (plnD (k,p,x,g)=true):=Lib.hid (by rw[HP.out];simp[h0,h1]);have q0:(g==0)=true:=by simp[h0]
   have q1:(k==1)=true:=by simp[h1]
   clear HP h0 h1;go_enter Try.func124,Try.ntmps124
   go_wp2;go_ret;exact⟨by rw[HT.out];rfl,(Keep.refl w).alloc _⟩
  ·
   have HT:Hid (plnD (k,p,x,g)=(k==2)):=Lib.hid (by rw[HP.out];simp[h0,h1];rfl);have q0:(g==0)=true:=by simp[h0]
   have q1:(k==1)=false:=by simp[h1]
   clear HP h0 h1;go_enter Try.func124,Try.ntmps124
   go_wp2;go_ret;exact⟨by rw[HT.out];rfl,(Keep.refl w).alloc _⟩
 ·
  have HT:Hid (plnD (k,p,x,g)=false):=Lib.hid (by rw[HP.out];simp[h0]);have q0:(g==0)=false:=by simp[h0]
  clear HP h0;go_enter Try.func124,Try.ntmps124
  go_wp2;go_ret;exact⟨by rw[HT.out];rfl,(Keep.refl w).alloc _⟩
theorem hasNotes_any (w:World)(v:BV)(dss:List (List Dd))(b:Bd)(c:Nat)(h:RdBd w v dss b)(hc:c<b.nts.length):
  Calls Try.prog 34 #[v.agg,.int .i64 c] w fun e w'=>e = .returned (.bool (decide (0<(b.nts.getD c []).length)))∧Keep w w':=by
 obtain⟨aW,aP,aL,aN,aX,aS,aF,aR,cW,cP,cL,cN,cX,cS,cF,cR,rfl⟩:=h.shapes;have KW:Keep w (w.alloc (.cells #[.slice aW dss.length cW,.slice aP b.plc.length cP,.slice aL b.lst.length cL,.slice aN b.nts.length cN,.slice aX b.nxt.length cX,.slice aS b.sn.length cS,.slice aF b.fr.length cF,.slice aR b.rws.length cR] 29)):=(Keep.refl w).alloc _;have c3:(w.alloc (.cells #[.slice aW dss.length cW,.slice aP b.plc.length cP,.slice aL b.lst.length cL,.slice aN b.nts.length cN,.slice aX b.nxt.length cX,.slice aS b.sn.length cS,.slice aF b.fr.length cF,.slice aR b.rws.length cR] 29)).cell? ⟨w.heap.size,3,none⟩=some (.slice aN b.nts.length cN):=box_cell (Keep.refl _) 3;have h':=h.keep KW;obtain⟨a',c',he',hN⟩:=h'.N;simp only[Value.slice.injEq,true_and] at he';obtain⟨rfl,rfl⟩:=he';rcases hN with h0|⟨bn,on,rfl,hbn,hcn⟩
 · exfalso;rw[h0] at hc;simp at hc
 obtain⟨vn,d3,r3⟩:=hcn c hc;obtain⟨an,cn,rfl,-⟩:=r3;generalize (b.nts.getD c []).length=L at *;have j1:(0:Int)≤(c:Int):=Int.natCast_nonneg _;have j4:(c:Int)<(b.nts.length:Int):=by omega
 have HQ:Hid (decide ((0:Int)<(L:Int))=decide (0<L)):=Lib.hid (by simp);clear hcn h h';go_enter Try.func34,Try.ntmps34
 go_wp2;go_ret;exact⟨by rw[←HQ.out];rfl,KW⟩
theorem canWork_any (w:World)(v:BV)(dss:List (List Dd))(b:Bd)(c:Nat)(h:RdBd w v dss b)(hb:boardB dss b=true)(hc:c<dss.length):
  Calls Try.prog 99 #[v.agg,.int .i64 c] w fun e w'=>e = .returned (.bool (canM dss b c))∧Keep w w':=by
 have S:=Shp.of hb;have hok:=okC_of S.work hc;have hnx:=board_clerk hb hc;have hw5:=work_five S.work hc;have lX:c<b.nxt.length:=by rw[S.nxt];exact hc
 have lN:c<b.nts.length:=by rw[S.nts];exact hc
 have HC:Hid (canM dss b c=(decide (nxN b c<(dss.getD c []).length)&&((decide ((dAt dss c (nxN b c)).1≤2)&&decide (gAt dss c (nxN b c)=0))||(b.nts.getD c []).isEmpty))):=Lib.hid rfl;obtain⟨aW,aP,aL,aN,aX,aS,aF,aR,cW,cP,cL,cN,cX,cS,cF,cR,rfl⟩:=h.shapes;obtain⟨w1,hw1⟩:∃W:World,W=w.alloc (.cells #[.slice aW dss.length cW,.slice aP b.plc.length cP,.slice aL b.lst.length cL,.slice aN b.nts.length cN,.slice aX b.nxt.length cX,.slice aS b.sn.length cS,.slice aF b.fr.length cF,.slice aR b.rws.length cR] 29):=⟨_,rfl⟩;have K1:Keep w w1:=by rw[hw1];exact (Keep.refl w).alloc _
 have hB:w1.heap[w.heap.size]? = some (.cells #[.slice aW dss.length cW,.slice aP b.plc.length cP,.slice aL b.lst.length cL,.slice aN b.nts.length cN,.slice aX b.nxt.length cX,.slice aS b.sn.length cS,.slice aF b.fr.length cF,.slice aR b.rws.length cR] 29 (0,0)):=by rw[hw1];exact heap_alloc_new _ _
 have c0:w1.cell? ⟨w.heap.size,0,none⟩=some (.slice aW dss.length cW):=by rw[cell_of_row w1 _ 0 _ _ _ hB];rfl
 have c4:w1.cell? ⟨w.heap.size,4,none⟩=some (.slice aX b.nxt.length cX):=by rw[cell_of_row w1 _ 4 _ _ _ hB];rfl
 have y1:w.heap.size<w1.heap.size:=by rw[hw1,heap_size];omega
 have h':=h.keep K1;have CH:=fun (W:World) (kW:Keep w W)=>hasNotes_any W _ dss b c (h.keep kW) lN
 obtain⟨a',c',he',hX⟩:=h'.X;simp only[Value.slice.injEq,true_and] at he';obtain⟨rfl,rfl⟩:=he';rcases hX with h0|⟨bx,ox,rfl,hbx,hcx⟩
 · exfalso;rw[h0] at lX;simp at lX
 obtain⟨a',c',he',hW⟩:=h'.W;simp only[Value.slice.injEq,true_and] at he';obtain⟨rfl,rfl⟩:=he';rcases hW with h0|⟨bw,ow,rfl,hbw,hcw⟩
 · exfalso;rw[h0] at hc;simp at hc
 have d1:=hcx c lX;obtain⟨vw,d2,r2⟩:=hcw c hc;obtain⟨k,hk⟩:=Int.eq_ofNat_of_zero_le hnx.1;have hkn:nxN b c=k:=by unfold nxN;rw[hk];rfl
 rw[hkn] at HC;rw[hk] at d1 hnx;obtain⟨aD,cD,rfl,hD⟩:=r2;have hkl:k≤(dss.getD c []).length:=by omega
 have j1:(0:Int)≤(c:Int):=Int.natCast_nonneg _;have j2:(c:Int)<(dss.length:Int):=by omega
 have j3:(c:Int)<(b.nxt.length:Int):=by omega
 have j4:(0:Int)≤(k:Int):=Int.natCast_nonneg _;have HN:Hid ((b.nts.getD c []).isEmpty=!(decide (0<(b.nts.getD c []).length))):=Lib.hid (by cases b.nts.getD c []<;>rfl);generalize decide (0<(b.nts.getD c []).length)=T at *;clear hcx hcw hnx hk h' h;by_cases hlt:k<(dss.getD c []).length
 ·
  rcases hD with h0|⟨bd,od,rfl,hbd,hcd⟩
  · exfalso;rw[h0] at hlt;simp at hlt
  obtain⟨e0,e1,e2,e3⟩:=hcd k hlt;have hkd:=okD_kindE (hok k hlt)
  have HP:Hid (canM dss b c=(plnD (dAt dss c k) || !T)):=Lib.hid (by
   rw[HC.out,HN.out,decide_eq_true hlt,Bool.true_and]
   congr 1
   unfold plnD
   have:decide ((dAt dss c k).1≤2)=(decide ((dAt dss c k).1=1)||decide ((dAt dss c k).1=2)):=by
    rcases hkd with q|q|q|q<;>rw[q]<;>rfl
   rw[this,Bool.and_comm])
  replace e0:w1.cell? ⟨bd,od+k*4,none⟩=some (.int .i64 (dAt dss c k).1):=e0;replace e1:w1.cell? ⟨bd,od+k*4+1,none⟩=some (.int .i64 (dAt dss c k).2.1):=e1;replace e2:w1.cell? ⟨bd,od+k*4+2,none⟩=some (.int .i64 (dAt dss c k).2.2.1):=e2;replace e3:w1.cell? ⟨bd,od+k*4+3,none⟩=some (.int .i64 (dAt dss c k).2.2.2):=e3;generalize (dss.getD c []).length=n at *;generalize dAt dss c k=d at *;obtain⟨x0,x1,x2,x3⟩:=d;simp only at e0 e1 e2 e3;have CP:=fun W=>isPlain_any W x0 x1 x2 x3
  generalize plnD (x0,x1,x2,x3)=P at *;have j5:(k:Int)≤(n:Int):=by omega
  have j6:(k:Int)≤((n+cD:Nat):Int):=by omega
  obtain⟨l,hl⟩:∃l:Nat,n=k+1+l:=⟨n-k-1,by omega⟩;subst hl;clear hcd hkd HC HN hok hlt hkl hw5;go_enter Try.func99,Try.ntmps99
  go_upto_region 1 with fail
  rw[←hw1];clear hw1;go_quiet (fail)
  go_wp2_with fail
  refine (CP _).mono ?_;rintro e w2 ⟨rfl,k2⟩;have K2:=(K1.drewN _).trans k2;have hB2:=(Below.block k2 w.heap.size y1).trans hB
  cases P with
  |true=>
   go_wp2;go_ret;exact⟨by rw[HP.out];rfl,K2⟩
  |false=>
   have z0:w2.cell? ⟨w.heap.size,0,none⟩=some (.slice (some ⟨bw,ow,none⟩) dss.length cW):=by rw[cell_of_row w2 _ 0 _ _ _ hB2];rfl
   have z1:w2.cell? ⟨w.heap.size,1,none⟩=some (.slice aP b.plc.length cP):=by rw[cell_of_row w2 _ 1 _ _ _ hB2];rfl
   have z2:w2.cell? ⟨w.heap.size,2,none⟩=some (.slice aL b.lst.length cL):=by rw[cell_of_row w2 _ 2 _ _ _ hB2];rfl
   have z3:w2.cell? ⟨w.heap.size,3,none⟩=some (.slice aN b.nts.length cN):=by rw[cell_of_row w2 _ 3 _ _ _ hB2];rfl
   have z4:w2.cell? ⟨w.heap.size,4,none⟩=some (.slice (some ⟨bx,ox,none⟩) b.nxt.length cX):=by rw[cell_of_row w2 _ 4 _ _ _ hB2];rfl
   have z5:w2.cell? ⟨w.heap.size,5,none⟩=some (.slice aS b.sn.length cS):=by rw[cell_of_row w2 _ 5 _ _ _ hB2];rfl
   have z6:w2.cell? ⟨w.heap.size,6,none⟩=some (.slice aF b.fr.length cF):=by rw[cell_of_row w2 _ 6 _ _ _ hB2];rfl
   have z7:w2.cell? ⟨w.heap.size,7,none⟩=some (.slice aR b.rws.length cR):=by rw[cell_of_row w2 _ 7 _ _ _ hB2];rfl
   go_wp2_with fail
   refine (CH _ K2).mono ?_;rintro e w3 ⟨rfl,k3⟩;go_wp2;go_ret;exact⟨by rw[HP.out];rfl,K2.trans k3⟩
 ·
  obtain rfl:k=(dss.getD c []).length:=by omega
  have HP:Hid (canM dss b c=false):=Lib.hid (by rw[HC.out,decide_eq_false (by omega),Bool.false_and]);generalize (dss.getD c []).length=n at *;have j5:(n:Int)≤((n+cD:Nat):Int):=by omega
  clear hD HC HN hok hlt hkl hw5 CH
  cases aD with
  |none=>
   go_enter Try.func99,Try.ntmps99
   go_upto_region 1 with fail
   rw[←hw1];clear hw1;go_quiet (fail)
   go_wp2;all_goals go_ret
   all_goals exact⟨by rw[HP.out];rfl,K1.drewN _⟩
  |some x=>
   go_enter Try.func99,Try.ntmps99
   go_upto_region 1 with fail
   rw[←hw1];clear hw1;go_quiet (fail)
   go_wp2;all_goals go_ret
   all_goals exact⟨by rw[HP.out];rfl,K1.drewN _⟩
abbrev stepT:Array Value:=#[.int .i64 0,.func (.func 99) #[] #[],.func (.func 100) #[] #[],.int .i64 10,.func (.func 34) #[] #[],.func (.func 101) #[] #[]]
theorem allSteps_any (w:World):Calls Try.prog 70 #[] w fun e w'=>e = .returned (.slice (some ⟨w.heap.size,0,none⟩) 2 2)∧w'=w.alloc (.cells stepT 91):=by
 go_enter Try.func70,Try.ntmps70
 go_wp2;go_ret;exact⟨rfl,rfl⟩
theorem tbl_cells {w:World}{T:Nat}(h:w.heap[T]? = some (.cells stepT 91 (0,0))):
  (w.cell? ⟨T,0,none⟩=some (.int .i64 0)∧w.cell? ⟨T,1,none⟩=some (.func (.func 99) #[] #[])∧w.cell? ⟨T,2,none⟩=some (.func (.func 100) #[] #[])) ∧
  w.cell? ⟨T,3,none⟩=some (.int .i64 10)∧w.cell? ⟨T,4,none⟩=some (.func (.func 34) #[] #[])∧w.cell? ⟨T,5,none⟩=some (.func (.func 101) #[] #[]):=
 ⟨⟨by rw[cell_of_row w _ _ _ _ _ h];rfl,by rw[cell_of_row w _ _ _ _ _ h];rfl,by rw[cell_of_row w _ _ _ _ _ h];rfl⟩,by rw[cell_of_row w _ _ _ _ _ h];rfl,by rw[cell_of_row w _ _ _ _ _ h];rfl,by rw[cell_of_row w _ _ _ _ _ h];rfl⟩
theorem step_info:(Try.prog.info? 91).map (·.size)=some 3:=by kernel_rfl
theorem bok_idle (p0:Addr)(w:World):CallsD Try.prog 97 #[.pointer (some p0)] .returning w fun e u' w'=>e = .returned (.tuple #[])∧u' = .returning∧w'=w:=by
 refine callsD_of_wpS Try.func97 rfl fun c₀ cs hu=>?_
 apply wpS_seq;apply wpS_region;have hn:∀w:World,(binOp BinOp.neq 20 .nilIface .nilIface).run Try.prog w = .ok (.bool false) w:=fun _=>by kernel_rfl
 simp[wpOpsS,go_sem,recoverD,hu,Try.ntmps97,Exit.thenS,hn];refine wpS_cond (t:=false) (by simp[Act.eval,Array.replicate]) ?_;simp only[Bool.false_eq_true,if_false];refine wpS_of_wp (wp_skip ?_);cases c₀;simp_all [bodyPostS,results,Try.results97]
theorem bok_hit (g:Nat)(w:World)(x:Value)(hg:w.heap[g]? = some (.cells #[x] 4 (0,0))):CallsD Try.prog 97 #[.pointer (some ⟨g,0,none⟩)] (.panicking [{ v:=pnV,recovered:=false }]) w fun e u' w'=>e = .returned (.tuple #[])∧u' = .panicking [{ v:=pnV,recovered:=true }]∧w'=w.setCell ⟨g,0,none⟩ (.bool false):=by
 have hc:w.cell? ⟨g,0,none⟩=some x:=by rw[cell_of_row w g 0 _ _ _ hg];rfl
 have hf:w.frozen? ⟨g,0,none⟩=false:=frozen_of_row w g 0 _ _ hg;have hv:∀w:World,(binOp BinOp.neq 20 pnV .nilIface).run Try.prog w = .ok (.bool true) w:=fun _=>by kernel_rfl
 refine callsD_of_wpS Try.func97 rfl fun c₀ cs hu=>?_
 apply wpS_seq;apply wpS_region;simp[wpOpsS,go_sem,recoverD,hu,Try.ntmps97,Exit.thenS,hv];refine wpS_cond (t:=true) (by simp[Act.eval,Array.replicate]) ?_;simp only[if_true];refine wpS_of_wp ?_;go_wp2;cases c₀;simp_all [bodyPostS,results,Try.results97]
theorem implBoardOk_any (w:World)(v:BV)(dss:List (List Dd))(b:Bd)(h:RdBd w v dss b)(hz:SzBd dss b):
  Calls Try.prog 69 #[v.agg] w fun e w'=>e = .returned (.bool (boardB dss b))∧Keep w w':=by
 obtain⟨aW,aP,aL,aN,aX,aS,aF,aR,cW,cP,cL,cN,cX,cS,cF,cR,rfl⟩:=h.shapes;have C:=fun (W:World) (kW:Keep w W)=>mustRight_any W _ dss b (h.keep kW) hz
 have HH:=Lib.hid h;have HZ:=Lib.hid hz;clear h hz;have hmf:∀(fn:Fn) (first cap:Array Value) (w:World),(Instr.makeFunc fn first cap).run Try.prog w = .ok (.func fn first cap) w:=fun _ _ _ _=>rfl
 obtain⟨w1,hw1⟩:∃W:World,W=((w.alloc (.cells #[.slice aW dss.length cW,.slice aP b.plc.length cP,.slice aL b.lst.length cL,.slice aN b.nts.length cN,.slice aX b.nxt.length cX,.slice aS b.sn.length cS,.slice aF b.fr.length cF,.slice aR b.rws.length cR] 29)).alloc (.cells #[.bool false] 4)):=⟨_,rfl⟩;have K1:Keep w w1:=by rw[hw1];exact ((Keep.refl w).alloc _).alloc _
 have s1:w1.heap.size=w.heap.size+2:=by rw[hw1,heap_size,heap_size]
 have hR1:w1.heap[w.heap.size+1]? = some (.cells #[.bool false] 4 (0,0)):=by
  rw[hw1,←heap_size w (.cells #[.slice aW dss.length cW,.slice aP b.plc.length cP,.slice aL b.lst.length cL,.slice aN b.nts.length cN,.slice aX b.nxt.length cX,.slice aS b.sn.length cS,.slice aF b.fr.length cF,.slice aR b.rws.length cR] 29)];exact heap_alloc_new _ _
 have hB1:w1.heap[w.heap.size]? = some (.cells #[.slice aW dss.length cW,.slice aP b.plc.length cP,.slice aL b.lst.length cL,.slice aN b.nts.length cN,.slice aX b.nxt.length cX,.slice aS b.sn.length cS,.slice aF b.fr.length cF,.slice aR b.rws.length cR] 29 (0,0)):=by rw[hw1];exact (Below.block ((Keep.refl _).alloc _) _ (by rw[heap_size];omega)).trans (heap_alloc_new _ _)
 go_enter_defers Try.func69,Try.ntmps69
 go_upto_region 2 with fail
 rw[←hw1];clear hw1;go_wp2_with (first|refine wpList_load_row rfl 29 _ rfl w.heap.size rfl 29 _ (0,0) _ hB1 Try.underlying29 rfl board_info ?_|fail)
 refine (C _ K1).mono ?_;rintro e w2 ⟨rfl,k2⟩;have K2:=K1.trans k2;have hR2:=(Below.block k2 (w.heap.size+1) (by omega)).trans hR1;cases hb:boardB dss b
 ·
  rw[mustE_no rfl];have hS:=heap_setCell_same w2 (w.heap.size+1) 0 _ _ (.bool false) hR2;have hc:(w2.setCell ⟨w.heap.size+1,0,none⟩ (.bool false)).cell? ⟨w.heap.size+1,0,none⟩=some (.bool false):=by rw[cell_of_row _ _ 0 _ _ _ hS];rfl
  have KZ:=K2.grown (grown_set w2 (w.heap.size+1) 0 (.bool false)) (fun k hk=>by have:=Option.some.inj hk;omega);go_wp2;refine leaves_cons (f:=97) (args:=#[.pointer (some ⟨w.heap.size+1,0,none⟩)]) (by simp) (by simp[go_sem]) ?_;refine (bok_hit _ _ _ hR2).mono ?_;rintro e u' w9 ⟨rfl,rfl,rfl⟩;simp[Leaves,settle,results,Try.results69,go_sem,hc];exact⟨hb,KZ⟩
 ·
  rw[mustE_yes rfl];have hc0:w2.cell? ⟨w.heap.size+1,0,none⟩=some (.bool false):=by rw[cell_of_row w2 _ 0 _ _ _ hR2];rfl
  have hf:w2.frozen? ⟨w.heap.size+1,0,none⟩=false:=frozen_of_row w2 _ 0 _ _ hR2;have hS:=heap_setCell_same w2 (w.heap.size+1) 0 _ _ (.bool true) hR2;have hc:(w2.setCell ⟨w.heap.size+1,0,none⟩ (.bool true)).cell? ⟨w.heap.size+1,0,none⟩=some (.bool true):=by rw[cell_of_row _ _ 0 _ _ _ hS];rfl
  have KZ:=K2.grown (grown_set w2 (w.heap.size+1) 0 (.bool true)) (fun k hk=>by have:=Option.some.inj hk;omega);go_wp2;refine leaves_cons (f:=97) (args:=#[.pointer (some ⟨w.heap.size+1,0,none⟩)]) (by simp) (by simp[go_sem]) ?_;refine (bok_idle _ _).mono ?_;rintro e u' w9 ⟨rfl,rfl,rfl⟩;simp[Leaves,settle,results,Try.results69,go_sem,hc];exact⟨hb,KZ⟩
theorem wpList_append_notes {w:World}{ops:Array Oper}{rest:List Oper}{o:Oper}{a:Act}{Q:Exit→Act→World→Prop}(hgd:o.guard=none)(s x:Operand)
  (ho:o.op = .call { callee:= .builtin .append,args:=#[s,x],argTypes:=#[36,36] })
  (base g:Nat) (hs:a.eval s = .slice (some ⟨g,0,none⟩) 0 0) (hown:AppT cN 66 3 w base (.slice (some ⟨g,0,none⟩) 0 0) [])
  (vx:Value) (hx:a.eval x=vx) (ns:List Nt) (hr:RdN w vx ns) (hn:ns.length≤1048576) (hb:base≤w.heap.size)
  (h:∀v' w',AppT cN 66 3 w' base v' ns→w.grownBy w' (some g)→wpList Try.prog ops Q rest (a.put o.dst v') w'):wpList Try.prog ops Q (o::rest) a w:=
 wpList_plain hgd fun _ hK=>wp_append_notes s x ho base g hs hown vx hx ns hr hn hb (fun v' w' h1 h2=>hK _ _ (h v' w' h1 h2))
theorem OwnLL.push {α:Type}{t:TypeId}{rowOf:List α→Value→Rw}{w w1 w2:World}{m:Nat}{v v' u:Value}{hs:List Value}{xss:List (List α)}{xs:List α}(h:OwnLL t rowOf w m v hs xss)(hv:∀xs u,(rowOf xs u).v=u)(k:Keep w w1)
  (ou:(rowOf xs u).own w1 m) (hn:∀b,u.ownBlock=some b→w.heap.size≤b) (hg:w1.grownBy w2 v.ownBlock) (hb:v'.ownBlock=v.ownBlock∨v'.ownBlock=some w1.heap.size) (ho:(hdR t (hs++[u]) v').own w2 m):OwnLL t rowOf w2 m v' (hs++[u]) (xss++[xs]):=by
 have F1:=h.fam.add (i:=some hs.length) (fun q=>Nat.lt_irrefl _ (show hs.length<hs.length from q)) (r:=rowOf xs u) rfl k ou (fun b hb=>hn b (by rw[hv] at hb;exact hb));have F2:=F1.set (i:=none) (.inl trivial) (r:=hdR t (hs++[u]) v') (by rw[upd_other _ _ (by simp)];exact hg) (by rw[upd_other _ _ (by simp)];rcases hb with e|e;exact .inl e;exact .inr (.inl e)) ho;refine⟨F2.congr (fun o ho'=>?_) (fun o ho'=>?_),by rw[List.length_append,List.length_append,h.len];rfl⟩
 ·
  cases o with
  |none=>exact .inl trivial
  |some i=>
   have hi:i<(hs++[u]).length:=ho';rw[List.length_append] at hi;by_cases e:i=hs.length
   · exact .inr (by rw[e])
   · exact .inl (show i<hs.length by simp at hi;omega)
 ·
  cases o with
  |none=>rw[upd_same];rfl
  |some i=>
   have hi:i<(hs++[u]).length:=ho';rw[List.length_append] at hi;rw[upd_other _ _ (by simp)];show rowOf ((xss++[xs]).getD i []) ((hs++[u]).getD i nilS)=_;by_cases e:i=hs.length
   ·
    subst e;rw[upd_same];have e1:(xss++[xs]).getD hs.length []=xs:=by rw[h.len,List.getD_eq_getElem?_getD,List.getElem?_append_right (Nat.le_refl _)];simp
    have e2:(hs++[u]).getD hs.length nilS=u:=by rw[List.getD_eq_getElem?_getD,List.getElem?_append_right (Nat.le_refl _)];simp
    rw[e1,e2]
   ·
    rw[upd_other _ _ (by simpa using e)];have hi2:i<hs.length:=by simp at hi;omega
    have e1:(xss++[xs]).getD i []=xss.getD i []:=by rw[List.getD_eq_getElem?_getD,List.getElem?_append_left (by rw[←h.len];exact hi2),←List.getD_eq_getElem?_getD]
    have e2:(hs++[u]).getD i nilS=hs.getD i nilS:=by rw[List.getD_eq_getElem?_getD,List.getElem?_append_left hi2,←List.getD_eq_getElem?_getD]
    rw[e1,e2];rfl
theorem copiedN_any (w:World)(v:Value)(xss:List (List Nt))(h:RdNN w v xss)(hx:xss.length≤1048576)(hm:∀i,i<xss.length→(xss.getD i []).length≤1048576):
  Calls Try.prog 104 #[v] w fun e w'=>∃v' hs,e = .returned v'∧OwnLL 36 nvR w' w.heap.size v' hs xss∧Keep w w':=by
 obtain⟨a,c,rfl,h⟩:=h;obtain⟨j0,hj,hy0,hy1,hy2⟩:=info_parts Try.infoNl
 have hown0:OwnLL 36 nvR (w.alloc (.cells #[] 36)) w.heap.size (.slice (some ⟨w.heap.size,0,none⟩) 0 0) [] (xss.take 0):=by
  rw[List.take_zero];refine⟨⟨fun o ho=>?_,fun o o' ho ho' hne=>?_⟩,rfl⟩
  ·
   cases o with
   |none=>exact World.ownsRow_lit w #[] 0 (Nat.le_refl _) (by decide) rfl
   |some i=>exact absurd (show i<0 from ho) (by omega)
  ·
   cases o with
   |none=>
    cases o' with
    |none=>exact absurd rfl hne
    |some i=>exact absurd (show i<0 from ho') (by omega)
   |some i=>exact absurd (show i<0 from ho) (by omega)
 go_enter Try.func104,Try.ntmps104
 go_wp2;go_loopw [3,5,9] (fun v0 _ i wr=>∃(k:Nat) (v:Value) (hs:List Value),v=v0∧k≤xss.length∧i = .int .i64 k∧OwnLL 36 nvR wr w.heap.size v hs (xss.take k)∧Keep w wr) (fun _ _ i _=>xss.length-(intOf i).toNat)
 case atStart=>exact⟨0,_,_,rfl,Nat.zero_le _,rfl,hown0,(Keep.refl _).alloc _⟩
 case round=>
  obtain⟨k,v,hs,rfl,hk,rfl,ho,hK⟩:=hrel;clear hown0;by_cases hlt:k<xss.length
  ·
   rcases h with h0|⟨b,off,rfl,hb,hc⟩
   · exfalso;rw[h0] at hlt;simp at hlt
   obtain⟨vi,d1,r1⟩:=hc k hlt;have d2:=(hK.cell hb).trans d1;have r2:=r1.keep hK;have hml:=hm k hlt
   have HT:Hid (xss.take (k+1)=xss.take k++[xss.getD k []]):=Lib.hid (by
    rw[List.take_add_one,List.getD_eq_getElem?_getD,List.getElem?_eq_getElem hlt];rfl)
   have hlen:hs.length=k:=by rw[ho.len,List.length_take];omega
   generalize xss.getD k []=ns at *;have hsz:=hK.size;have r3:=r2.keep ((Keep.refl wr).alloc (.cells #[] 66));obtain⟨ai,ci,rfl,-⟩:=id r2;have i1:(0:Int)≤(k:Int):=Int.natCast_nonneg _;have i2:(k:Int)<(xss.length:Int):=by omega
   clear hc d1 r1 r2;have OE:AppT cN 66 3 (wr.alloc (.cells #[] 66)) wr.heap.size (.slice (some ⟨wr.heap.size,0,none⟩) 0 0) []:=World.ownsRow_lit wr #[] 0 (Nat.le_refl _) (by decide) rfl;go_wp2_with (at_builtin;refine wpList_append_notes rfl _ _ rfl wr.heap.size wr.heap.size rfl OE _ rfl ns r3 hml (by rw[heap_size];omega) ?_)
   intro u w5 o5 g5;have OU:(nvR ns u).own w5 wr.heap.size:=o5;have k5:Keep wr w5:=((Keep.refl wr).alloc (.cells #[] 66)).grown g5 (fun q hq=>Nat.le_of_eq (Option.some.inj hq));have s5:=k5.size
   obtain⟨au,cu,hu⟩:∃a c,u = .slice a ns.length c:=by
    rcases OU.2 with ⟨e,hn'⟩|⟨g,cap,cur,e,_⟩
    · exact⟨none,0,by rw[show ns.length=0 from hn'];exact e⟩
    · exact⟨_,_,e⟩
   subst hu;have k6:Keep w5 (w5.alloc (.cells #[.slice au ns.length cu] 36)):=(Keep.refl w5).alloc _
   have HR:World.ownsRow (w5.alloc (.cells #[.slice au ns.length cu] 36)) w.heap.size 36 1 v k hs:=by
    have:=((ho.fam.keep k5).keep k6).own none trivial;rw[←hlen];exact this
   clear o5 g5;go_wp2_with (at_builtin;refine wpList_append_own_at _ rfl _ _ 26 rfl w.heap.size 36 j0 (.slice none 0 0) 1 24 Try.underlying26 hj hy0 hy1 hy2 rfl (by decide) _ _ _ rfl HR ⟨_,0,none⟩ 1 1 [.slice au ns.length cu] rfl rfl ?e1 ?e2 ?e3 ?e4 ?e5 ?_)
   case e1=>
    intro j u hj
    match j,hj with
    | 0,hj=>simp at hj;subst hj;simp[Addr.add]
   case e2=>intro u hu;simp at hu;subst hu;rfl
   case e3=>unfold maxLen;omega
   case e4=>omega
   case e5=>simp;omega
   intro v7 w7 hown7 hgrow7 _ hblk7;have HP:=ho.push (xs:=ns) (fun _ _=>rfl) (k5.trans k6) (own_base (show (nvR ns (.slice au ns.length cu)).own _ wr.heap.size from World.ownsRow.kept OU k6.grownBy (by cases (Value.slice au ns.length cu).ownBlock<;>simp)) hsz) (fun q hq=>(World.ownsRow.lt OU q hq).1) hgrow7 (by rw[heap_size];exact hblk7) (by show World.ownsRow _ _ _ _ _ (hs++[Value.slice au ns.length cu]).length _;rw[List.length_append,hlen];exact hown7);have K7:Keep w w7:=((hK.trans k5).alloc _).grown hgrow7 (fun k hk=>(World.ownsRow.lt HR k hk).1);clear hown7 hgrow7 hblk7 HR OU ho;go_wp2;go_roundw;case rel=>exact⟨k+1,_,_,rfl,by omega,by go_num,by rw[HT.out];exact HP,K7⟩
   case measure=>simp[intOf];omega
  ·
   obtain rfl:k=xss.length:=by omega
   rw[List.take_length] at ho;go_wp2;go_ret;exact⟨_,_,rfl,ho,hK⟩
theorem copiedI_any (w:World)(v:Value)(xss:List (List Int))(h:RdL w v xss)(hx:xss.length≤1048576)(hm:∀i,i<xss.length→(xss.getD i []).length≤1048576):
  Calls Try.prog 105 #[v] w fun e w'=>∃v' hs,e = .returned v'∧OwnLL 25 ivR w' w.heap.size v' hs xss∧Keep w w':=by
 obtain⟨a,c,rfl,h⟩:=h;obtain⟨j0,hj,hy0,hy1,hy2⟩:=info_parts Try.infoIl
 have hown0:OwnLL 25 ivR (w.alloc (.cells #[] 25)) w.heap.size (.slice (some ⟨w.heap.size,0,none⟩) 0 0) [] (xss.take 0):=by
  rw[List.take_zero];refine⟨⟨fun o ho=>?_,fun o o' ho ho' hne=>?_⟩,rfl⟩
  ·
   cases o with
   |none=>exact World.ownsRow_lit w #[] 0 (Nat.le_refl _) (by decide) rfl
   |some i=>exact absurd (show i<0 from ho) (by omega)
  ·
   cases o with
   |none=>
    cases o' with
    |none=>exact absurd rfl hne
    |some i=>exact absurd (show i<0 from ho') (by omega)
   |some i=>exact absurd (show i<0 from ho) (by omega)
 go_enter Try.func105,Try.ntmps105
 go_wp2;go_loopw [3,5,9] (fun v0 _ i wr=>∃(k:Nat) (v:Value) (hs:List Value),v=v0∧k≤xss.length∧i = .int .i64 k∧OwnLL 25 ivR wr w.heap.size v hs (xss.take k)∧Keep w wr) (fun _ _ i _=>xss.length-(intOf i).toNat)
 case atStart=>exact⟨0,_,_,rfl,Nat.zero_le _,rfl,hown0,(Keep.refl _).alloc _⟩
 case round=>
  obtain⟨k,v,hs,rfl,hk,rfl,ho,hK⟩:=hrel;clear hown0;by_cases hlt:k<xss.length
  ·
   rcases h with h0|⟨b,off,rfl,hb,hc⟩
   · exfalso;rw[h0] at hlt;simp at hlt
   obtain⟨vi,d1,r1⟩:=hc k hlt;have d2:=(hK.cell hb).trans d1;have r2:=r1.keep hK;have hml:=hm k hlt
   have HT:Hid (xss.take (k+1)=xss.take k++[xss.getD k []]):=Lib.hid (by
    rw[List.take_add_one,List.getD_eq_getElem?_getD,List.getElem?_eq_getElem hlt];rfl)
   have hlen:hs.length=k:=by rw[ho.len,List.length_take];omega
   generalize xss.getD k []=ns at *;have hsz:=hK.size;have r3:=r2.keep ((Keep.refl wr).alloc (.cells #[] 2));obtain⟨ai,ci,rfl,-⟩:=id r2;have i1:(0:Int)≤(k:Int):=Int.natCast_nonneg _;have i2:(k:Int)<(xss.length:Int):=by omega
   clear hc d1 r1 r2;have OE:Own (wr.alloc (.cells #[] 2)) wr.heap.size (.slice (some ⟨wr.heap.size,0,none⟩) 0 0) []:=World.ownsRow_lit wr #[] 0 (Nat.le_refl _) (by decide) rfl;go_wp2_with (at_builtin;refine wpList_append_rd rfl _ _ rfl wr.heap.size _ [] rfl OE _ rfl ns r3 (by simp) hml (by rw[heap_size];omega) ?_)
   intro u w5 o5 g5 _;have OU:(ivR ns u).own w5 wr.heap.size:=o5;have k5:Keep wr w5:=((Keep.refl wr).alloc (.cells #[] 2)).grown g5 (fun q hq=>Nat.le_of_eq (Option.some.inj hq));have s5:=k5.size
   obtain⟨au,cu,hu⟩:∃a c,u = .slice a ns.length c:=by
    rcases OU.2 with ⟨e,hn'⟩|⟨g,cap,cur,e,_⟩
    · exact⟨none,0,by rw[show ns.length=0 from hn'];exact e⟩
    · exact⟨_,_,e⟩
   subst hu;have k6:Keep w5 (w5.alloc (.cells #[.slice au ns.length cu] 25)):=(Keep.refl w5).alloc _
   have HR:World.ownsRow (w5.alloc (.cells #[.slice au ns.length cu] 25)) w.heap.size 25 1 v k hs:=by
    have:=((ho.fam.keep k5).keep k6).own none trivial;rw[←hlen];exact this
   clear o5 g5;go_wp2_with (at_builtin;refine wpList_append_own_at _ rfl _ _ 27 rfl w.heap.size 25 j0 (.slice none 0 0) 1 24 Try.underlying27 hj hy0 hy1 hy2 rfl (by decide) _ _ _ rfl HR ⟨_,0,none⟩ 1 1 [.slice au ns.length cu] rfl rfl ?e1 ?e2 ?e3 ?e4 ?e5 ?_)
   case e1=>
    intro j u hj
    match j,hj with
    | 0,hj=>simp at hj;subst hj;simp[Addr.add]
   case e2=>intro u hu;simp at hu;subst hu;rfl
   case e3=>unfold maxLen;omega
   case e4=>omega
   case e5=>simp;omega
   intro v7 w7 hown7 hgrow7 _ hblk7;have HP:=ho.push (xs:=ns) (fun _ _=>rfl) (k5.trans k6) (own_base (show (ivR ns (.slice au ns.length cu)).own _ wr.heap.size from World.ownsRow.kept OU k6.grownBy (by cases (Value.slice au ns.length cu).ownBlock<;>simp)) hsz) (fun q hq=>(World.ownsRow.lt OU q hq).1) hgrow7 (by rw[heap_size];exact hblk7) (by show World.ownsRow _ _ _ _ _ (hs++[Value.slice au ns.length cu]).length _;rw[List.length_append,hlen];exact hown7);have K7:Keep w w7:=((hK.trans k5).alloc _).grown hgrow7 (fun k hk=>(World.ownsRow.lt HR k hk).1);clear hown7 hgrow7 hblk7 HR OU ho;go_wp2;go_roundw;case rel=>exact⟨k+1,_,_,rfl,by omega,by go_num,by rw[HT.out];exact HP,K7⟩
   case measure=>simp[intOf];omega
  ·
   obtain rfl:k=xss.length:=by omega
   rw[List.take_length] at ho;go_wp2;go_ret;exact⟨_,_,rfl,ho,hK⟩
theorem copiedWork_any (w:World)(v:Value)(dss:List (List Dd))(h:RdW w v dss)(hx:dss.length≤1048576)(hm:∀i,i<dss.length→(dss.getD i []).length≤1048576):
  Calls Try.prog 86 #[v] w fun e w'=>∃v' V,e = .returned v'∧AppX w' w.heap.size w'.heap.size v' V dss∧Keep w w':=by
 obtain⟨aD,cDd,rfl,h⟩:=h;obtain⟨i0,hi,hz0,hz1,hz2⟩:=info_parts Try.infoDd;obtain⟨j0,hj,hy0,hy1,hy2⟩:=info_parts Try.infoDl
 have hown0:AppX (w.alloc (.cells #[] 72)) w.heap.size (w.alloc (.cells #[] 72)).heap.size (.slice (some ⟨w.heap.size,0,none⟩) 0 0) (fun _=>vZ) (dss.take 0):=by
  rw[List.take_zero];exact⟨World.ownsRow_lit w #[] 0 (Nat.le_refl _) (by decide) rfl,fun k hk=>by simp[Value.ownBlock] at hk;subst hk;simp,fun i hi=>by simp at hi,fun i hi=>by simp at hi,fun i hi=>by simp at hi,fun i j _ hj=>by simp at hj⟩
 go_enter Try.func86,Try.ntmps86
 go_wp2;go_loopw [3,5,9] (fun v0 _ i wr=>∃(k:Nat) (v:Value) (V:Nat→Value),v=v0∧k≤dss.length∧i = .int .i64 k∧AppX wr w.heap.size wr.heap.size v V (dss.take k)∧Keep w wr) (fun _ _ i _=>dss.length-(intOf i).toNat)
 case atStart=>exact⟨0,_,_,rfl,Nat.zero_le _,rfl,hown0,(Keep.refl _).alloc _⟩
 case round=>
  obtain⟨k,v,V,rfl,hk,rfl,ho,hK⟩:=hrel;clear hown0;by_cases hlt:k<dss.length
  ·
   rcases h with h0|⟨b,off,rfl,hb,hc⟩
   · exfalso;rw[h0] at hlt;simp at hlt
   obtain⟨vi,d1,r1⟩:=hc k hlt;have d2:=(hK.cell hb).trans d1;have r2:=r1.keep hK;have hml:=hm k hlt
   have HT:Hid (dss.take (k+1)=dss.take k++[dss.getD k []]):=Lib.hid (by
    rw[List.take_add_one,List.getD_eq_getElem?_getD,List.getElem?_eq_getElem hlt];rfl)
   have hlen:(dss.take k).length=k:=by rw[List.length_take];omega
   generalize dss.getD k []=ds at *;obtain⟨ai,ci,rfl,r2⟩:=r2;have i1:(0:Int)≤(k:Int):=Int.natCast_nonneg _;have i2:(k:Int)<(dss.length:Int):=by omega
   have hsz:=hK.size;clear hc d1 r1;have OE:(wr.alloc (.cells #[] 98)).ownsRow wr.heap.size 98 4 (.slice (some ⟨wr.heap.size,0,none⟩) 0 0) 0 []:=World.ownsRow_lit wr #[] 0 (Nat.le_refl _) (by decide) rfl;have d3:(wr.alloc (.cells #[] 98)).cell? ⟨b,off+k,none⟩=some (.slice ai ds.length (ds.length+ci)):=(((Keep.refl wr).alloc _).cell (Nat.lt_of_lt_of_le hb hsz)).trans d2;rcases r2 with h0|⟨bd,od,rfl,hbd,hcd⟩
   ·
    subst h0
    cases ai with
    |none=>
     have OD:AppD (wr.alloc (.cells #[] 98)) wr.heap.size (.slice (some ⟨wr.heap.size,0,none⟩) 0 0) []:=OE;have k5:Keep wr (wr.alloc (.cells #[] 98)):=(Keep.refl wr).alloc _;have HX5:=(ho.keep k5).keep ((Keep.refl (wr.alloc (.cells #[] 98))).alloc (.cells #[.slice (some ⟨wr.heap.size,0,none⟩) 0 0] 72));have HR:=HX5.row;rw[hlen] at HR;have OD6:=OD.keep ((Keep.refl (wr.alloc (.cells #[] 98))).alloc (.cells #[.slice (some ⟨wr.heap.size,0,none⟩) 0 0] 72));have s5:=k5.size;go_wp2_with (at_builtin;refine wpList_append_own_at _ rfl _ _ 24 rfl w.heap.size 72 j0 (.slice none 0 0) 1 24 Try.underlying24 hj hy0 hy1 hy2 rfl (by decide) _ _ _ rfl HR ⟨_,0,none⟩ 1 1 [.slice (some ⟨wr.heap.size,0,none⟩) 0 0] rfl rfl ?e1 ?e2 ?e3 ?e4 ?e5 ?_)
     case e1=>
      intro j u hj
      match j,hj with
      | 0,hj=>simp at hj;subst hj;simp[Addr.add]
     case e2=>intro u hu;simp at hu;subst hu;rfl
     case e3=>unfold maxLen;omega
     case e4=>omega
     case e5=>simp;omega
     intro v' w7 hown7 hgrow7 _ hblk7;have HP:=HX5.push OD6 hsz (by rw[hlen];exact hown7) hgrow7 (by rw[heap_size,heap_size];exact hblk7) (by simp;omega);have K7:Keep w w7:=((hK.trans k5).alloc _).grown hgrow7 (fun k hk=>(World.ownsRow.lt HR k hk).1);clear hown7 hgrow7 hblk7 HR HX5 OD6;go_wp2;go_roundw;case rel=>exact⟨k+1,_,_,rfl,by omega,by go_num,by rw[HT.out];exact HP,K7⟩
     case measure=>simp[intOf];omega
    |some x=>
     go_wp2_with (at_builtin;refine wpList_append_own _ rfl _ _ 72 rfl wr.heap.size 98 i0 (.agg #[.int .i64 0,.int .i64 0,.int .i64 0,.int .i64 0]) 4 32 Try.underlying72 hi hz0 hz1 hz2 rfl (by decide) _ _ _ rfl OE x 0 ci [] rfl rfl ?c1 ?c2 ?c3 ?c4 ?c5 ?_)
     case c1=>intro j u hj;simp at hj
     case c2=>intro u hu;simp at hu
     case c3=>simp
     case c4=>simp
     case c5=>simp
     intro u w5 hown5 hgrow5 _;have OD:AppD w5 wr.heap.size u []:=by unfold AppD;simpa using hown5
     have k5:Keep wr w5:=((Keep.refl wr).alloc (.cells #[] 98)).grown hgrow5 (fun k hk=>(World.ownsRow.lt OE k hk).1);clear hown5 hgrow5;obtain⟨au,cu,hu⟩:∃a c,u = .slice a 0 c:=OD.shape;subst hu;have HX5:=(ho.keep k5).keep ((Keep.refl w5).alloc (.cells #[.slice au 0 cu] 72));have HR:=HX5.row;rw[hlen] at HR;have OD6:=OD.keep ((Keep.refl w5).alloc (.cells #[.slice au 0 cu] 72));have s5:=k5.size;go_wp2_with (at_builtin;refine wpList_append_own_at _ rfl _ _ 24 rfl w.heap.size 72 j0 (.slice none 0 0) 1 24 Try.underlying24 hj hy0 hy1 hy2 rfl (by decide) _ _ _ rfl HR ⟨_,0,none⟩ 1 1 [.slice au 0 cu] rfl rfl ?e1 ?e2 ?e3 ?e4 ?e5 ?_)
     case e1=>
      intro j u hj
      match j,hj with
      | 0,hj=>simp at hj;subst hj;simp[Addr.add]
     case e2=>intro u hu;simp at hu;subst hu;rfl
     case e3=>unfold maxLen;omega
     case e4=>omega
     case e5=>simp;omega
     intro v' w7 hown7 hgrow7 _ hblk7;have HP:=HX5.push OD6 hsz (by rw[hlen];exact hown7) hgrow7 (by rw[heap_size];exact hblk7) (by simp;omega);have K7:Keep w w7:=((hK.trans k5).alloc _).grown hgrow7 (fun k hk=>(World.ownsRow.lt HR k hk).1);clear hown7 hgrow7 hblk7 HR HX5 OD6;go_wp2;go_roundw;case rel=>exact⟨k+1,_,_,rfl,by omega,by go_num,by rw[HT.out];exact HP,K7⟩
     case measure=>simp[intOf];omega
   ·
    have NC:=dds_cells (w:=wr.alloc (.cells #[] 98)) (b:=bd) (off:=od) (ds:=ds) (fun i hi=>(hcd i hi).keep hbd ((Keep.refl wr).alloc _));go_wp2_with (at_builtin;refine wpList_append_own _ rfl _ _ 72 rfl wr.heap.size 98 i0 (.agg #[.int .i64 0,.int .i64 0,.int .i64 0,.int .i64 0]) 4 32 Try.underlying72 hi hz0 hz1 hz2 rfl (by decide) _ _ _ rfl OE ⟨bd,od,none⟩ ds.length (ds.length+ci) (ds.flatMap cD) rfl (dds_len ds) ?c1 ?c2 ?c3 ?c4 ?c5 ?_)
    case c1=>exact NC
    case c2=>exact dds_one ds
    case c3=>unfold maxLen;omega
    case c4=>omega
    case c5=>simp
    intro u w5 hown5 hgrow5 _;have OD:AppD w5 wr.heap.size u ds:=by unfold AppD;simpa using hown5
    have k5:Keep wr w5:=((Keep.refl wr).alloc (.cells #[] 98)).grown hgrow5 (fun k hk=>(World.ownsRow.lt OE k hk).1);clear hown5 hgrow5;obtain⟨au,cu,hu⟩:=OD.shape;subst hu;have HX5:=(ho.keep k5).keep ((Keep.refl w5).alloc (.cells #[.slice au ds.length cu] 72));have HR:=HX5.row;rw[hlen] at HR;have OD6:=OD.keep ((Keep.refl w5).alloc (.cells #[.slice au ds.length cu] 72));have s5:=k5.size;go_wp2_with (at_builtin;refine wpList_append_own_at _ rfl _ _ 24 rfl w.heap.size 72 j0 (.slice none 0 0) 1 24 Try.underlying24 hj hy0 hy1 hy2 rfl (by decide) _ _ _ rfl HR ⟨_,0,none⟩ 1 1 [.slice au ds.length cu] rfl rfl ?e1 ?e2 ?e3 ?e4 ?e5 ?_)
    case e1=>
     intro j u hj
     match j,hj with
     | 0,hj=>simp at hj;subst hj;simp[Addr.add]
    case e2=>intro u hu;simp at hu;subst hu;rfl
    case e3=>unfold maxLen;omega
    case e4=>omega
    case e5=>simp;omega
    intro v' w7 hown7 hgrow7 _ hblk7;have HP:=HX5.push OD6 hsz (by rw[hlen];exact hown7) hgrow7 (by rw[heap_size];exact hblk7) (by simp;omega);have K7:Keep w w7:=((hK.trans k5).alloc _).grown hgrow7 (fun k hk=>(World.ownsRow.lt HR k hk).1);clear hown7 hgrow7 hblk7 HR HX5 OD6;go_wp2;go_roundw;case rel=>exact⟨k+1,_,_,rfl,by omega,by go_num,by rw[HT.out];exact HP,K7⟩
    case measure=>simp[intOf];omega
  ·
   obtain rfl:k=dss.length:=by omega
   rw[List.take_length] at ho;go_wp2;go_ret;exact⟨_,_,rfl,ho,hK⟩
end Go.Proofs.Ytgakfkjjkobpiaa
