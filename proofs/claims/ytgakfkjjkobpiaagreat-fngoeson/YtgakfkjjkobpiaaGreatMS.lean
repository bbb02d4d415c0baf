/- Gathered texts. -/
import Derived.Test.YtgakfkjjkobpiaaGreatMR
import Derived.Lib.Hide
import Derived.Laws.Rows
import Derived.Deep.Cut
import Derived.RegionTactic
import Derived.Defers
import Derived.Recover
import Derived.Test.YtgakfkjjkobpiaaGreatMJ
set_option maxRecDepth 100000
set_option maxHeartbeats 8000000
namespace Go.Proofs.YtgakfkjjkobpiaaGreat
open Go.ChangeShapes Go.WideShapes Go.ChangeAt Go.RowKit
theorem My (w:World)(v:BV)(AA:List (List Dd))(b:Bd)(last:Int)(h:CJ w v AA b)(hz:Cg AA b):
  Calls Tryz.prog 76 #[v.agg,.int .i64 last] w fun e w'=>e=JX (Ed last b)/\AC w w':=by
 obtain⟨aW,aP,aL,aN,aX,aS,aF,aR,cW,cP,cL,cN,cX,cS,cF,cR,rfl⟩:=h.shapes;have CP:=fun (W:World) (kW:AC w W)=>Dl W _ b.AM 3 0 9 (h.P.keep kW) hz.AM
 have CL:=fun (W:World) (kW:AC w W)=>Dl W _ b.AQ 3 0 last (h.L.keep kW) hz.AQ
 have HD:Hid (Ed last b=(FP b.AM 3 0 9&&(FP b.AQ 3 0 last&&(decide (b.rws.length=3)&&b.rws.all (IY last))))):=Lib.hid rfl;have HR:=Lib.hid h.R;have HZ:=Lib.hid hz.r2;have hz1:=hz.r1;have c1:(w.alloc (.cells #[.slice aW AA.length cW,.slice aP b.AM.length cP,.slice aL b.AQ.length cL,.slice aN b.AH.length cN,.slice aX b.AL.length cX,.slice aS b.sn.length cS,.slice aF b.fr.length cF,.slice aR b.rws.length cR] 30)).cell? ⟨w.heap.size,1,none⟩=some (.slice aP b.AM.length cP):=AS (AC.refl _) 1;have c2:(w.alloc (.cells #[.slice aW AA.length cW,.slice aP b.AM.length cP,.slice aL b.AQ.length cL,.slice aN b.AH.length cN,.slice aX b.AL.length cX,.slice aS b.sn.length cS,.slice aF b.fr.length cF,.slice aR b.rws.length cR] 30)).cell? ⟨w.heap.size,2,none⟩=some (.slice aL b.AQ.length cL):=AS (AC.refl _) 2;have c7:(w.alloc (.cells #[.slice aW AA.length cW,.slice aP b.AM.length cP,.slice aL b.AQ.length cL,.slice aN b.AH.length cN,.slice aX b.AL.length cX,.slice aS b.sn.length cS,.slice aF b.fr.length cF,.slice aR b.rws.length cR] 30)).cell? ⟨w.heap.size,7,none⟩=some (.slice aR b.rws.length cR):=AS (AC.refl _) 7;have KW:AC w (w.alloc (.cells #[.slice aW AA.length cW,.slice aP b.AM.length cP,.slice aL b.AQ.length cL,.slice aN b.AH.length cN,.slice aX b.AL.length cX,.slice aS b.sn.length cS,.slice aF b.fr.length cF,.slice aR b.rws.length cR] 30)):=(AC.refl w).alloc _;clear h hz;go_enter Tryz.func76,Tryz.ntmps76
 go_upto_region 1 with fail
 generalize (w.alloc (.cells #[.slice aW AA.length cW,.slice aP b.AM.length cP,.slice aL b.AQ.length cL,.slice aN b.AH.length cN,.slice aX b.AL.length cX,.slice aS b.sn.length cS,.slice aF b.fr.length cF,.slice aR b.rws.length cR] 30))=w1 at *;go_wp2_with fail
 refine (CP _ KW).mono ?_;rintro e w2 ⟨rfl,rfl⟩;cases hp:FP b.AM 3 0 9
 ·
  have HE:Hid (Ed last b=false):=Lib.hid (by rw[HD.out,hp];rfl);rw[Ai rfl];go_wp2;exact⟨rfl,by rw[Ai HE.out],KW⟩
 rw[Ay rfl];go_wp2_with fail
 refine (CL _ KW).mono ?_;rintro e w2 ⟨rfl,rfl⟩;cases hl:FP b.AQ 3 0 last
 ·
  have HE:Hid (Ed last b=false):=Lib.hid (by rw[HD.out,hl];simp);rw[Ai rfl];go_wp2;exact⟨rfl,by rw[Ai HE.out],KW⟩
 rw[Ay rfl];go_wp2_with fail
 refine (Dm _ _).mono ?_;rintro e w2 ⟨rfl,rfl⟩;by_cases hr:b.rws.length=3;rotate_left
 ·
  have HE:Hid (Ed last b=false):=Lib.hid (by rw[HD.out,decide_eq_false hr];simp);rw[Ai (by simp;omega)];go_wp2;exact⟨rfl,by rw[Ai HE.out],KW⟩
 have HT:Hid (Ed last b=b.rws.all (IY last)):=Lib.hid (by rw[HD.out,hp,hl,decide_eq_true hr];rfl);rw[Ay (by simp;omega)];clear HD hp hl hr CP CL;go_wp2;go_loopw [5,21] (fun _ i wr=>∃k:Nat,k<=b.rws.length/\i = .int .i64 k/\Hid (∀j,j<k->IY last (b.rws.getD j [])=true)/\wr=w2) (fun _ i _=>b.rws.length-(intOf i).toNat)
 case atStart=>exact⟨0,Nat.zero_le _,rfl,Lib.hid (fun j hj=>absurd hj (Nat.not_lt_zero _)),rfl⟩
 case round=>
  obtain⟨k,hk,rfl,hno,rfl⟩:=hrel;by_cases hlt:k<b.rws.length
  ·
   obtain⟨a',c',he',hR⟩:=HR.out.keep KW;simp only[Value.slice.injEq,true_and] at he';obtain⟨rfl,rfl⟩:=he';rcases hR with h0|⟨br,or,rfl,hbr,hcr⟩
   . exfalso;rw[h0] at hlt;simp at hlt
   obtain⟨vr,d,r⟩:=hcr k hlt;have C:=QU wr vr _ last r (HZ.out k hlt);have HF:IY last (b.rws.getD k [])=false->Hid (Ed last b=false):=fun e=>Lib.hid (by rw[HT.out];exact G7 [] hlt e)
   have HN:IY last (b.rws.getD k [])=true->Hid (∀j,j<k+1->IY last (b.rws.getD j [])=true):=fun hq=>Lib.hid (fun j hj=>by
    by_cases e:j=k
    . rw[e];exact hq
    . exact hno.out j (by omega))
   clear hcr hno HT r;have i1:(0:Int)<=(k:Int):=Int.natCast_nonneg _;have i2:(k:Int)<(b.rws.length:Int):=by omega
   generalize b.rws.getD k []=row at *;go_wp2_with fail
   refine C.mono ?_;rintro e w3 ⟨rfl,rfl⟩;cases hq:IY last row
   ·
    have HE:=HF hq;rw[Ai rfl];go_wp2;exact⟨rfl,by rw[Ai HE.out],KW⟩
   ·
    have HE:=HN hq;rw[Ay rfl];go_wp2;go_roundw;case rel=>exact⟨k+1,by omega,rfl,HE,trivial⟩
    case measure=>simp[intOf];omega
  have HE:Hid (Ed last b=true):=Lib.hid (by rw[HT.out];exact Fl [] (fun j hj=>hno.out j (by omega)));obtain rfl:k=b.rws.length:=by omega
  clear hno HT;go_wp2;go_end0;exact⟨by rw[Ay HE.out],KW⟩
theorem MF (w:World)(v:BV)(AA:List (List Dd))(b:Bd)(last:Int)(h:CJ w v AA b)(hz:Cg AA b):
  Calls Tryz.prog 77 #[v.agg,.int .i64 last] w fun e w'=>e=JX (Hc last AA b)/\AC w w':=by
 obtain⟨aW,aP,aL,aN,aX,aS,aF,aR,cW,cP,cL,cN,cX,cS,cF,cR,rfl⟩:=h.shapes;have HD:Hid (Hc last AA b=(decide (b.AH.length=AA.length)&&(decide (b.AL.length=AA.length)&&(List.range AA.length).all (Ty last AA b)))):=Lib.hid rfl;have HH:=Lib.hid h;have HZ:=Lib.hid hz;have hz1:=hz.w1;have c0:(w.alloc (.cells #[.slice aW AA.length cW,.slice aP b.AM.length cP,.slice aL b.AQ.length cL,.slice aN b.AH.length cN,.slice aX b.AL.length cX,.slice aS b.sn.length cS,.slice aF b.fr.length cF,.slice aR b.rws.length cR] 30)).cell? ⟨w.heap.size,0,none⟩=some (.slice aW AA.length cW):=AS (AC.refl _) 0;have c3:(w.alloc (.cells #[.slice aW AA.length cW,.slice aP b.AM.length cP,.slice aL b.AQ.length cL,.slice aN b.AH.length cN,.slice aX b.AL.length cX,.slice aS b.sn.length cS,.slice aF b.fr.length cF,.slice aR b.rws.length cR] 30)).cell? ⟨w.heap.size,3,none⟩=some (.slice aN b.AH.length cN):=AS (AC.refl _) 3;have c4:(w.alloc (.cells #[.slice aW AA.length cW,.slice aP b.AM.length cP,.slice aL b.AQ.length cL,.slice aN b.AH.length cN,.slice aX b.AL.length cX,.slice aS b.sn.length cS,.slice aF b.fr.length cF,.slice aR b.rws.length cR] 30)).cell? ⟨w.heap.size,4,none⟩=some (.slice aX b.AL.length cX):=AS (AC.refl _) 4;have KW:AC w (w.alloc (.cells #[.slice aW AA.length cW,.slice aP b.AM.length cP,.slice aL b.AQ.length cL,.slice aN b.AH.length cN,.slice aX b.AL.length cX,.slice aS b.sn.length cS,.slice aF b.fr.length cF,.slice aR b.rws.length cR] 30)):=(AC.refl w).alloc _;have z1:w.heap.size<(w.alloc (.cells #[.slice aW AA.length cW,.slice aP b.AM.length cP,.slice aL b.AQ.length cL,.slice aN b.AH.length cN,.slice aX b.AL.length cX,.slice aS b.sn.length cS,.slice aF b.fr.length cF,.slice aR b.rws.length cR] 30)).heap.size:=by rw[AD];omega
 clear h hz;go_enter Tryz.func77,Tryz.ntmps77
 go_upto_region 1 with fail
 generalize (w.alloc (.cells #[.slice aW AA.length cW,.slice aP b.AM.length cP,.slice aL b.AQ.length cL,.slice aN b.AH.length cN,.slice aX b.AL.length cX,.slice aS b.sn.length cS,.slice aF b.fr.length cF,.slice aR b.rws.length cR] 30))=w1 at *;go_wp2_with fail
 refine (Dm _ _).mono ?_;rintro e w2 ⟨rfl,rfl⟩;by_cases hr:b.AH.length=AA.length;rotate_left
 ·
  have HE:Hid (Hc last AA b=false):=Lib.hid (by rw[HD.out,decide_eq_false hr];rfl);rw[Ai (by simp;omega)];go_wp2;exact⟨rfl,by rw[Ai HE.out],KW⟩
 have HN:=Lib.hid hr;rw[Ay (by simp;omega)];clear hr;go_wp2_with fail
 refine (Dm _ _).mono ?_;rintro e w2 ⟨rfl,rfl⟩;by_cases hr:b.AL.length=AA.length;rotate_left
 ·
  have HE:Hid (Hc last AA b=false):=Lib.hid (by rw[HD.out,decide_eq_false hr];simp);rw[Ai (by simp;omega)];go_wp2;exact⟨rfl,by rw[Ai HE.out],KW⟩
 have HX:=Lib.hid hr;have HT:Hid (Hc last AA b=(List.range AA.length).all (Ty last AA b)):=Lib.hid (by rw[HD.out,decide_eq_true HX.out,decide_eq_true HN.out];rfl);rw[Ay (by simp;omega)];clear hr HD;go_wp2;go_loopw [4,5,25] (fun _ _ i wr=>∃k:Nat,k<=AA.length/\i = .int .i64 k/\Hid (∀j,j<k->Ty last AA b j=true)/\AC w2 wr) (fun _ _ i _=>AA.length-(intOf i).toNat)
 case atStart=>exact⟨0,Nat.zero_le _,rfl,Lib.hid (fun j hj=>absurd hj (Nat.not_lt_zero _)),AC.refl _⟩
 case round=>
  obtain⟨k,hk,rfl,hno,hK⟩:=hrel;by_cases hlt:k<AA.length
  ·
   have lN:k<b.AH.length:=by rw[HN.out];exact hlt
   have lX:k<b.AL.length:=by rw[HX.out];exact hlt
   have K2:=KW.trans hK;have e3:=(hK.cell z1).trans c3;have e4:=(hK.cell z1).trans c4;obtain⟨a',c',he',hX⟩:=HH.out.X.keep K2;simp only[Value.slice.injEq,true_and] at he';obtain⟨rfl,rfl⟩:=he';rcases hX with h0|⟨bx,ox,rfl,hbx,hcx⟩
   . exfalso;rw[h0] at lX;simp at lX
   obtain⟨a',c',he',hW⟩:=HH.out.W.keep K2;simp only[Value.slice.injEq,true_and] at he';obtain⟨rfl,rfl⟩:=he';rcases hW with h0|⟨bw,ow,rfl,hbw,hcw⟩
   . exfalso;rw[h0] at hlt;simp at hlt
   obtain⟨a',c',he',hN⟩:=HH.out.N.keep K2;simp only[Value.slice.injEq,true_and] at he';obtain⟨rfl,rfl⟩:=he';rcases hN with h0|⟨bn,on,rfl,hbn,hcn⟩
   . exfalso;rw[h0] at lN;simp at lN
   have d1:=hcx k lX;obtain⟨vw,d2,r2⟩:=hcw k hlt;obtain⟨vn,d3,r3⟩:=hcn k lN;have hz2:=HZ.out.w2 k hlt;have C:=Mx wr vn _ last r3 (HZ.out.n2 k lN);have HF:Ty last AA b k=false->Hid (Hc last AA b=false):=fun e=>Lib.hid (by rw[HT.out];exact DI hlt e)
   have HM:Ty last AA b k=true->Hid (∀j,j<k+1->Ty last AA b j=true):=fun hq=>Lib.hid (fun j hj=>by
    by_cases e:j=k
    . rw[e];exact hq
    . exact hno.out j (by omega))
   have HC:Hid (Ty last AA b k=(CX (b.AL.getD k 0) 0 ((AA.getD k []).length:Int)&&M3 last (b.AH.getD k []))):=Lib.hid rfl;have i1:(0:Int)<=(k:Int):=Int.natCast_nonneg _;have i2:(k:Int)<(AA.length:Int):=by omega
   have i3:(k:Int)<(b.AL.length:Int):=by omega
   have i4:(k:Int)<(b.AH.length:Int):=by omega
   clear hcx hcw hcn hno HT r3 HH HZ;obtain⟨aw,cw,rfl,-⟩:=r2;generalize AA.getD k []=ds at *;generalize b.AL.getD k 0=x at *;generalize b.AH.getD k []=ns at *;go_wp2_with fail
   refine (BF _ _ _ _).mono ?_;rintro e w3 ⟨rfl,rfl⟩;cases hi:CX x 0 (ds.length:Int)
   ·
    have HE:=HF (by rw[HC.out,hi];rfl);go_wp2_with fail
    refine (Gg _).mono ?_;rintro e w3 ⟨rfl,rfl⟩;go_wp2;exact⟨rfl,by rw[Ai HE.out],K2⟩
   have HC2:Hid (Ty last AA b k=M3 last ns):=Lib.hid (by rw[HC.out,hi];rfl);go_wp2_with fail
   refine (C1 _).mono ?_;rintro e w3 ⟨rfl,rfl⟩;clear hi HC;go_wp2_with fail
   refine C.mono ?_;rintro e w4 ⟨rfl,k4⟩;rw[<-HC2.out];cases hq:Ty last AA b k
   ·
    have HE:=HF hq;rw[Ai rfl];go_wp2;exact⟨rfl,by rw[Ai HE.out],K2.trans k4⟩
   ·
    have HE:=HM hq;rw[Ay rfl];clear HF HM HC2;go_wp2;go_roundw;case rel=>exact⟨k+1,by omega,rfl,HE,hK.trans k4⟩
    case measure=>simp[intOf];omega
  have HE:Hid (Hc last AA b=true):=Lib.hid (by rw[HT.out];exact Dc (fun j hj=>hno.out j (by omega)));obtain rfl:k=AA.length:=by omega
  clear hno HT;go_wp2;go_end0;exact⟨by rw[Ay HE.out],KW.trans hK⟩
theorem Ih (w:World)(v:BV)(AA:List (List Dd))(b:Bd)(h:CJ w v AA b)(hz:Cg AA b):
  Calls Tryz.prog 40 #[v.agg] w fun e w'=>e=JX (Af AA b)/\AC w w':=by
 obtain⟨aW,aP,aL,aN,aX,aS,aF,aR,cW,cP,cL,cN,cX,cS,cF,cR,rfl⟩:=h.shapes;have HS:Hid (Af AA b=Fm AA b):=Lib.hid (Pn AA b (Hh Aj (AB AA))).symm;have HD:Hid (Fm AA b=(AW AA&&(Ed (((AB AA).length:Int)-1) b&&(Hc (((AB AA).length:Int)-1) AA b&&(FP b.sn (AX Aj (AB AA)).length (-1) 9&&FP b.fr (AX Aj (AB AA)).length (-1) (((AB AA).length:Int)-1)))))):=Lib.hid rfl;have CW:=fun (W:World) (kW:AC w W)=>Cx W _ AA (h.W.keep kW) hz.w1 hz.w2
 have CE:=fun (W:World) (kW:AC w W)=>EB W _ AA (h.W.keep kW) hz.w1 hz.w2
 have CT:=fun (W:World) (kW:AC w W)=>My W _ AA b (((AB AA).length:Int)-1) (h.keep kW) hz
 have CC:=fun (W:World) (kW:AC w W)=>MF W _ AA b (((AB AA).length:Int)-1) (h.keep kW) hz
 have CS:=fun (W:World) (kW:AC w W)=>Dl W _ b.sn (AX Aj (AB AA)).length (-1) 9 (h.S.keep kW) hz.sn
 have CF:=fun (W:World) (kW:AC w W)=>Dl W _ b.fr (AX Aj (AB AA)).length (-1) (((AB AA).length:Int)-1) (h.F.keep kW) hz.fr
 have le:=Di AA;have lr:=Hh Aj (AB AA);have c0:(w.alloc (.cells #[.slice aW AA.length cW,.slice aP b.AM.length cP,.slice aL b.AQ.length cL,.slice aN b.AH.length cN,.slice aX b.AL.length cX,.slice aS b.sn.length cS,.slice aF b.fr.length cF,.slice aR b.rws.length cR] 30)).cell? ⟨w.heap.size,0,none⟩=some (.slice aW AA.length cW):=AS (AC.refl _) 0;have hB1:(w.alloc (.cells #[.slice aW AA.length cW,.slice aP b.AM.length cP,.slice aL b.AQ.length cL,.slice aN b.AH.length cN,.slice aX b.AL.length cX,.slice aS b.sn.length cS,.slice aF b.fr.length cF,.slice aR b.rws.length cR] 30)).heap[w.heap.size]? = some (.cells #[.slice aW AA.length cW,.slice aP b.AM.length cP,.slice aL b.AQ.length cL,.slice aN b.AH.length cN,.slice aX b.AL.length cX,.slice aS b.sn.length cS,.slice aF b.fr.length cF,.slice aR b.rws.length cR] 30 (0,0)):=heap_alloc_new _ _;have KW:AC w (w.alloc (.cells #[.slice aW AA.length cW,.slice aP b.AM.length cP,.slice aL b.AQ.length cL,.slice aN b.AH.length cN,.slice aX b.AL.length cX,.slice aS b.sn.length cS,.slice aF b.fr.length cF,.slice aR b.rws.length cR] 30)):=(AC.refl w).alloc _;have z1:w.heap.size<(w.alloc (.cells #[.slice aW AA.length cW,.slice aP b.AM.length cP,.slice aL b.AQ.length cL,.slice aN b.AH.length cN,.slice aX b.AL.length cX,.slice aS b.sn.length cS,.slice aF b.fr.length cF,.slice aR b.rws.length cR] 30)).heap.size:=by rw[AD];omega
 clear h hz;go_enter Tryz.func40,Tryz.ntmps40
 go_upto_region 1 with fail
 generalize (w.alloc (.cells #[.slice aW AA.length cW,.slice aP b.AM.length cP,.slice aL b.AQ.length cL,.slice aN b.AH.length cN,.slice aX b.AL.length cX,.slice aS b.sn.length cS,.slice aF b.fr.length cF,.slice aR b.rws.length cR] 30))=w1 at *;go_wp2_with fail
 refine (CW _ KW).mono ?_;rintro e w2 ⟨rfl,k2⟩;have K2:=KW.trans k2;have e0:=(k2.cell z1).trans c0;go_wp2_with fail
 refine (Dm _ _).mono ?_;rintro e w3 ⟨rfl,rfl⟩;cases hw:AW AA
 ·
  have HE:Hid (Fm AA b=false):=Lib.hid (by rw[HD.out,hw];simp);rw[Ai rfl];go_wp2;exact⟨rfl,by rw[HS.out,Ai HE.out],K2⟩
 rw[Ay rfl];go_wp2_with fail
 refine (CE _ K2).mono ?_;rintro e w4 ⟨v4,rfl,A4,k4⟩;have K4:=K2.trans k4;have R4:=A4.rd;obtain⟨a4,x4,rfl,-⟩:=id R4;have CR:=Ea w4 _ _ R4 (by omega);have el:IntKind.i64.wrap (((AB AA).length:Int)-1)=((AB AA).length:Int)-1:=by rw[IntKind.wrap_i64];omega
 clear CW CE A4 R4 c0 e0;go_wp2_with fail
 refine CR.mono ?_;rintro e w5 ⟨v5,rfl,O5,k5⟩;have K5:=K4.trans k5;obtain⟨a5,x5,rfl,-⟩:=id O5.rd;have hB5:=(Below.block (k2.trans (k4.trans k5)) w.heap.size z1).trans hB1;have z5:w.heap.size<w5.heap.size:=Nat.lt_of_lt_of_le z1 (k2.trans (k4.trans k5)).size;clear O5 CR hB1;go_wp2_with (first|refine wpList_load_row rfl 30 _ rfl w.heap.size rfl 30 _ (0,0) _ hB5 Tryz.underlying30 rfl AF ?_|fail)
 refine (CT _ K5).mono ?_;rintro e w6 ⟨rfl,k6⟩;have K6:=K5.trans k6;cases hs:Ed (((AB AA).length:Int)-1) b
 ·
  have HE:Hid (Fm AA b=false):=Lib.hid (by rw[HD.out,hs];simp);rw[Ai rfl];go_wp2;exact⟨rfl,by rw[HS.out,Ai HE.out],K6⟩
 rw[Ay rfl];have hB6:=(Below.block k6 w.heap.size z5).trans hB5;have z6:w.heap.size<w6.heap.size:=Nat.lt_of_lt_of_le z5 k6.size;go_wp2_with (first|refine wpList_load_row rfl 30 _ rfl w.heap.size rfl 30 _ (0,0) _ hB6 Tryz.underlying30 rfl AF ?_|fail)
 refine (CC _ K6).mono ?_;rintro e w7 ⟨rfl,k7⟩;have K7:=K6.trans k7;cases hc:Hc (((AB AA).length:Int)-1) AA b
 ·
  have HE:Hid (Fm AA b=false):=Lib.hid (by rw[HD.out,hc];simp);rw[Ai rfl];go_wp2;exact⟨rfl,by rw[HS.out,Ai HE.out],K7⟩
 rw[Ay rfl];have hB7:=(Below.block k7 w.heap.size z6).trans hB6;have f5:w7.cell? ⟨w.heap.size,5,none⟩=some (.slice aS b.sn.length cS):=by rw[cell_of_row w7 _ 5 _ _ _ hB7];rfl
 have f6:w7.cell? ⟨w.heap.size,6,none⟩=some (.slice aF b.fr.length cF):=by rw[cell_of_row w7 _ 6 _ _ _ hB7];rfl
 clear hB5 hB6 hB7 CT CC;go_wp2_with fail
 refine (CS _ K7).mono ?_;rintro e w8 ⟨rfl,rfl⟩;cases hn:FP b.sn (AX Aj (AB AA)).length (-1) 9
 ·
  have HE:Hid (Fm AA b=false):=Lib.hid (by rw[HD.out,hn];simp);rw[Ai rfl];go_wp2;exact⟨rfl,by rw[HS.out,Ai HE.out],K7⟩
 rw[Ay rfl];go_wp2_with fail
 refine (CF _ K7).mono ?_;rintro e w9 ⟨rfl,rfl⟩;cases hf:FP b.fr (AX Aj (AB AA)).length (-1) (((AB AA).length:Int)-1)
 ·
  have HE:Hid (Fm AA b=false):=Lib.hid (by rw[HD.out,hf];simp);rw[Ai rfl];go_wp2;exact⟨rfl,by rw[HS.out,Ai HE.out],K7⟩
 rw[Ay rfl];have HE:Hid (Fm AA b=true):=Lib.hid (by rw[HD.out,hw,hs,hc,hn,hf];rfl);clear HD hw hs hc hn hf;go_wp2;go_end0;exact⟨by rw[HS.out,Ay HE.out],K7⟩
theorem KF (w:World)(k p x g:Int):
  Calls Tryz.prog 111 #[.agg #[.int .i64 k,.int .i64 p,.int .i64 x,.int .i64 g]] w fun e w'=>e = .returned (.bool (Dq (k,p,x,g)))/\AC w w':=by
 have HP:Hid (Dq (k,p,x,g)=(decide (g=0)&&(decide (k=1)||decide (k=2)))):=Lib.hid rfl;by_cases h0:g=0
 ·
  by_cases h1:k=1
  ·
   have HT:Hid (Dq (k,p,x,g)=true):=Lib.hid (by rw[HP.out];simp[h0,h1]);have q0:(g==0)=true:=by simp[h0]
   have q1:(k==1)=true:=by simp[h1]
   clear HP h0 h1;go_enter Tryz.func111,Tryz.ntmps111
   go_wp2;go_ret;exact⟨by rw[HT.out];rfl,(AC.refl w).alloc _⟩
  ·
   have HT:Hid (Dq (k,p,x,g)=(k==2)):=Lib.hid (by rw[HP.out];simp[h0,h1];rfl);have q0:(g==0)=true:=by simp[h0]
   have q1:(k==1)=false:=by simp[h1]
   clear HP h0 h1;go_enter Tryz.func111,Tryz.ntmps111
   go_wp2;go_ret;exact⟨by rw[HT.out];rfl,(AC.refl w).alloc _⟩
 ·
  have HT:Hid (Dq (k,p,x,g)=false):=Lib.hid (by rw[HP.out];simp[h0]);have q0:(g==0)=false:=by simp[h0]
  clear HP h0;go_enter Tryz.func111,Tryz.ntmps111
  go_wp2;go_ret;exact⟨by rw[HT.out];rfl,(AC.refl w).alloc _⟩
theorem GU (w:World)(v:BV)(AA:List (List Dd))(b:Bd)(c:Nat)(h:CJ w v AA b)(hc:c<b.AH.length):
  Calls Tryz.prog 90 #[v.agg,.int .i64 c] w fun e w'=>e = .returned (.bool (decide (0<(b.AH.getD c []).length)))/\AC w w':=by
 obtain⟨aW,aP,aL,aN,aX,aS,aF,aR,cW,cP,cL,cN,cX,cS,cF,cR,rfl⟩:=h.shapes;have KW:AC w (w.alloc (.cells #[.slice aW AA.length cW,.slice aP b.AM.length cP,.slice aL b.AQ.length cL,.slice aN b.AH.length cN,.slice aX b.AL.length cX,.slice aS b.sn.length cS,.slice aF b.fr.length cF,.slice aR b.rws.length cR] 30)):=(AC.refl w).alloc _;have c3:(w.alloc (.cells #[.slice aW AA.length cW,.slice aP b.AM.length cP,.slice aL b.AQ.length cL,.slice aN b.AH.length cN,.slice aX b.AL.length cX,.slice aS b.sn.length cS,.slice aF b.fr.length cF,.slice aR b.rws.length cR] 30)).cell? ⟨w.heap.size,3,none⟩=some (.slice aN b.AH.length cN):=AS (AC.refl _) 3;have h':=h.keep KW;obtain⟨a',c',he',hN⟩:=h'.N;simp only[Value.slice.injEq,true_and] at he';obtain⟨rfl,rfl⟩:=he';rcases hN with h0|⟨bn,on,rfl,hbn,hcn⟩
 . exfalso;rw[h0] at hc;simp at hc
 obtain⟨vn,d3,r3⟩:=hcn c hc;obtain⟨an,cn,rfl,-⟩:=r3;generalize (b.AH.getD c []).length=L at *;have j1:(0:Int)<=(c:Int):=Int.natCast_nonneg _;have j4:(c:Int)<(b.AH.length:Int):=by omega
 have HQ:Hid (decide ((0:Int)<(L:Int))=decide (0<L)):=Lib.hid (by simp);clear hcn h h';go_enter Tryz.func90,Tryz.ntmps90
 go_wp2;go_ret;exact⟨by rw[<-HQ.out];rfl,KW⟩
theorem J7 (w:World)(v:BV)(AA:List (List Dd))(b:Bd)(c:Nat)(h:CJ w v AA b)(hb:Af AA b=true)(hc:c<AA.length):
  Calls Tryz.prog 88 #[v.agg,.int .i64 c] w fun e w'=>e = .returned (.bool (C6 AA b c))/\AC w w':=by
 have S:=EF.of hb;have hok:=B7 S.work hc;have hnx:=EN hb hc;have hw5:=EE S.work hc;have lX:c<b.AL.length:=by rw[S.AL];exact hc
 have lN:c<b.AH.length:=by rw[S.AH];exact hc
 have HC:Hid (C6 AA b c=(decide (Av b c<(AA.getD c []).length)&&((decide ((An AA c (Av b c)).1<=2)&&decide (Bi AA c (Av b c)=0))||(b.AH.getD c []).isEmpty))):=Lib.hid rfl;obtain⟨aW,aP,aL,aN,aX,aS,aF,aR,cW,cP,cL,cN,cX,cS,cF,cR,rfl⟩:=h.shapes;obtain⟨w1,hw1⟩:∃W:World,W=w.alloc (.cells #[.slice aW AA.length cW,.slice aP b.AM.length cP,.slice aL b.AQ.length cL,.slice aN b.AH.length cN,.slice aX b.AL.length cX,.slice aS b.sn.length cS,.slice aF b.fr.length cF,.slice aR b.rws.length cR] 30):=⟨_,rfl⟩;have K1:AC w w1:=by rw[hw1];exact (AC.refl w).alloc _
 have hB:w1.heap[w.heap.size]? = some (.cells #[.slice aW AA.length cW,.slice aP b.AM.length cP,.slice aL b.AQ.length cL,.slice aN b.AH.length cN,.slice aX b.AL.length cX,.slice aS b.sn.length cS,.slice aF b.fr.length cF,.slice aR b.rws.length cR] 30 (0,0)):=by rw[hw1];exact heap_alloc_new _ _
 have c0:w1.cell? ⟨w.heap.size,0,none⟩=some (.slice aW AA.length cW):=by rw[cell_of_row w1 _ 0 _ _ _ hB];rfl
 have c4:w1.cell? ⟨w.heap.size,4,none⟩=some (.slice aX b.AL.length cX):=by rw[cell_of_row w1 _ 4 _ _ _ hB];rfl
 have y1:w.heap.size<w1.heap.size:=by rw[hw1,AD];omega
 have h':=h.keep K1;have CH:=fun (W:World) (kW:AC w W)=>GU W _ AA b c (h.keep kW) lN
 obtain⟨a',c',he',hX⟩:=h'.X;simp only[Value.slice.injEq,true_and] at he';obtain⟨rfl,rfl⟩:=he';rcases hX with h0|⟨bx,ox,rfl,hbx,hcx⟩
 . exfalso;rw[h0] at lX;simp at lX
 obtain⟨a',c',he',hW⟩:=h'.W;simp only[Value.slice.injEq,true_and] at he';obtain⟨rfl,rfl⟩:=he';rcases hW with h0|⟨bw,ow,rfl,hbw,hcw⟩
 . exfalso;rw[h0] at hc;simp at hc
 have d1:=hcx c lX;obtain⟨vw,d2,r2⟩:=hcw c hc;obtain⟨k,hk⟩:=Int.eq_ofNat_of_zero_le hnx.1;have hkn:Av b c=k:=by unfold Av;rw[hk];rfl
 rw[hkn] at HC;rw[hk] at d1 hnx;obtain⟨aD,cD,rfl,hD⟩:=r2;have hkl:k<=(AA.getD c []).length:=by omega
 have j1:(0:Int)<=(c:Int):=Int.natCast_nonneg _;have j2:(c:Int)<(AA.length:Int):=by omega
 have j3:(c:Int)<(b.AL.length:Int):=by omega
 have j4:(0:Int)<=(k:Int):=Int.natCast_nonneg _;have HN:Hid ((b.AH.getD c []).isEmpty=!(decide (0<(b.AH.getD c []).length))):=Lib.hid (by cases b.AH.getD c []<;>rfl);generalize decide (0<(b.AH.getD c []).length)=T at *;clear hcx hcw hnx hk h' h;by_cases hlt:k<(AA.getD c []).length
 ·
  rcases hD with h0|⟨bd,od,rfl,hbd,hcd⟩
  . exfalso;rw[h0] at hlt;simp at hlt
  obtain⟨e0,e1,e2,e3⟩:=hcd k hlt;have hkd:=CG (hok k hlt)
  have HP:Hid (C6 AA b c=(Dq (An AA c k) || !T)):=Lib.hid (by
   rw[HC.out,HN.out,decide_eq_true hlt,Bool.true_and]
   congr 1
   unfold Dq
   have:decide ((An AA c k).1<=2)=(decide ((An AA c k).1=1)||decide ((An AA c k).1=2)):=by
    rcases hkd with q|q|q|q<;>rw[q]<;>rfl
   rw[this,Bool.and_comm])
  replace e0:w1.cell? ⟨bd,od+k*4,none⟩=some (.int .i64 (An AA c k).1):=e0;replace e1:w1.cell? ⟨bd,od+k*4+1,none⟩=some (.int .i64 (An AA c k).2.1):=e1;replace e2:w1.cell? ⟨bd,od+k*4+2,none⟩=some (.int .i64 (An AA c k).2.2.1):=e2;replace e3:w1.cell? ⟨bd,od+k*4+3,none⟩=some (.int .i64 (An AA c k).2.2.2):=e3;generalize (AA.getD c []).length=n at *;generalize An AA c k=d at *;obtain⟨x0,x1,x2,x3⟩:=d;simp only at e0 e1 e2 e3;have CP:=fun W=>KF W x0 x1 x2 x3
  generalize Dq (x0,x1,x2,x3)=P at *;have j5:(k:Int)<=(n:Int):=by omega
  have j6:(k:Int)<=((n+cD:Nat):Int):=by omega
  obtain⟨l,hl⟩:∃l:Nat,n=k+1+l:=⟨n-k-1,by omega⟩;subst hl;clear hcd hkd HC HN hok hlt hkl hw5;go_enter Tryz.func88,Tryz.ntmps88
  go_upto_region 1 with fail
  rw[<-hw1];clear hw1;go_quiet (fail)
  go_wp2_with fail
  refine (CP _).mono ?_;rintro e w2 ⟨rfl,k2⟩;have K2:=(K1.drewN _).trans k2;have hB2:=(Below.block k2 w.heap.size y1).trans hB
  cases P with
  |true=>
   go_wp2;go_ret;exact⟨by rw[HP.out];rfl,K2⟩
  |false=>
   have z0:w2.cell? ⟨w.heap.size,0,none⟩=some (.slice (some ⟨bw,ow,none⟩) AA.length cW):=by rw[cell_of_row w2 _ 0 _ _ _ hB2];rfl
   have z1:w2.cell? ⟨w.heap.size,1,none⟩=some (.slice aP b.AM.length cP):=by rw[cell_of_row w2 _ 1 _ _ _ hB2];rfl
   have z2:w2.cell? ⟨w.heap.size,2,none⟩=some (.slice aL b.AQ.length cL):=by rw[cell_of_row w2 _ 2 _ _ _ hB2];rfl
   have z3:w2.cell? ⟨w.heap.size,3,none⟩=some (.slice aN b.AH.length cN):=by rw[cell_of_row w2 _ 3 _ _ _ hB2];rfl
   have z4:w2.cell? ⟨w.heap.size,4,none⟩=some (.slice (some ⟨bx,ox,none⟩) b.AL.length cX):=by rw[cell_of_row w2 _ 4 _ _ _ hB2];rfl
   have z5:w2.cell? ⟨w.heap.size,5,none⟩=some (.slice aS b.sn.length cS):=by rw[cell_of_row w2 _ 5 _ _ _ hB2];rfl
   have z6:w2.cell? ⟨w.heap.size,6,none⟩=some (.slice aF b.fr.length cF):=by rw[cell_of_row w2 _ 6 _ _ _ hB2];rfl
   have z7:w2.cell? ⟨w.heap.size,7,none⟩=some (.slice aR b.rws.length cR):=by rw[cell_of_row w2 _ 7 _ _ _ hB2];rfl
   go_wp2_with fail
   refine (CH _ K2).mono ?_;rintro e w3 ⟨rfl,k3⟩;go_wp2;go_ret;exact⟨by rw[HP.out];rfl,K2.trans k3⟩
 ·
  obtain rfl:k=(AA.getD c []).length:=by omega
  have HP:Hid (C6 AA b c=false):=Lib.hid (by rw[HC.out,decide_eq_false (by omega),Bool.false_and]);generalize (AA.getD c []).length=n at *;have j5:(n:Int)<=((n+cD:Nat):Int):=by omega
  clear hD HC HN hok hlt hkl hw5 CH
  cases aD with
  |none=>
   go_enter Tryz.func88,Tryz.ntmps88
   go_upto_region 1 with fail
   rw[<-hw1];clear hw1;go_quiet (fail)
   go_wp2;all_goals go_ret
   all_goals exact⟨by rw[HP.out];rfl,K1.drewN _⟩
  |some x=>
   go_enter Tryz.func88,Tryz.ntmps88
   go_upto_region 1 with fail
   rw[<-hw1];clear hw1;go_quiet (fail)
   go_wp2;all_goals go_ret
   all_goals exact⟨by rw[HP.out];rfl,K1.drewN _⟩
abbrev Mb:Array Value:=#[.int .i64 0,.func (.func 88) #[] #[],.func (.func 89) #[] #[],.int .i64 10,.func (.func 90) #[] #[],.func (.func 91) #[] #[]]
def uo (k:Nat):Int:=if k=0 then 0 else 10
def zM (k:Nat):Nat:=if k=0 then 88 else 90
def U6 (AA:List (List Dd))(b:Bd)(k c:Nat):Bool:=if k=0 then C6 AA b c else decide (0<(b.AH.getD c []).length)
def I3 (AA:List (List Dd))(b:Bd)(k j:Nat):List Int:=((List.range j).filter (U6 AA b k)).map (fun c:Nat=>uo k+(c:Int))
def Iz (AA:List (List Dd))(b:Bd)(n:Nat):Nat->List Int
 | 0=>[]
 |k+1=>Iz AA b n k++I3 AA b k n
theorem JG (w:World):Calls Tryz.prog 63 #[] w fun e w'=>e = .returned (.slice (some ⟨w.heap.size,0,none⟩) 2 2)/\w'=w.alloc (.cells Mb 81):=by
 go_enter Tryz.func63,Tryz.ntmps63
 go_wp2;go_ret;exact⟨rfl,rfl⟩
theorem Qr (k:Nat)(w:World)(v:BV)(AA:List (List Dd))(b:Bd)(c:Nat)(h:CJ w v AA b)(hb:Af AA b=true)(hc:c<AA.length):
  Calls Tryz.prog (zM k) #[v.agg,.int .i64 c] w fun e w'=>e = .returned (.bool (U6 AA b k c))/\AC w w':=by
 unfold zM U6;by_cases h0:k=0
 . rw[if_pos h0,if_pos h0];exact J7 w v AA b c h hb hc
 . rw[if_neg h0,if_neg h0];exact GU w v AA b c h (by rw[(EF.of hb).AH];exact hc)
theorem IQ {w:World}{T:Nat}(h:w.heap[T]? = some (.cells Mb 81 (0,0))):
  (w.cell? ⟨T,0,none⟩=some (.int .i64 0)/\w.cell? ⟨T,1,none⟩=some (.func (.func 88) #[] #[])/\w.cell? ⟨T,2,none⟩=some (.func (.func 89) #[] #[])) /\
  w.cell? ⟨T,3,none⟩=some (.int .i64 10)/\w.cell? ⟨T,4,none⟩=some (.func (.func 90) #[] #[])/\w.cell? ⟨T,5,none⟩=some (.func (.func 91) #[] #[]):=
 ⟨⟨by rw[cell_of_row w _ _ _ _ _ h];rfl,by rw[cell_of_row w _ _ _ _ _ h];rfl,by rw[cell_of_row w _ _ _ _ _ h];rfl⟩,by rw[cell_of_row w _ _ _ _ _ h];rfl,by rw[cell_of_row w _ _ _ _ _ h];rfl,by rw[cell_of_row w _ _ _ _ _ h];rfl⟩
theorem IP:(Tryz.prog.info? 81).map (·.size)=some 3:=by kernel_rfl
theorem Vd (p0:Addr)(w:World):CallsD Tryz.prog 54 #[.pointer (some p0)] .returning w fun e u' w'=>e = .returned (.tuple #[])/\u' = .returning/\w'=w:=by
 refine callsD_of_wpS Tryz.func54 rfl fun c₀ cs hu=>?_
 apply wpS_seq;apply wpS_region;have hn:∀w:World,(binOp BinOp.neq 20 .nilIface .nilIface).run Tryz.prog w = .ok (.bool false) w:=fun _=>by kernel_rfl
 simp[wpOpsS,go_sem,recoverD,hu,Tryz.ntmps54,Exit.thenS,hn];refine wpS_cond (t:=false) (by simp[Act.eval,Array.replicate]) ?_;simp only[Bool.false_eq_true,if_false];refine wpS_of_wp (wp_skip ?_);cases c₀;simp_all [bodyPostS,results,Tryz.results54]
theorem Yb (g:Nat)(w:World)(x:Value)(hg:w.heap[g]? = some (.cells #[x] 4 (0,0))):CallsD Tryz.prog 54 #[.pointer (some ⟨g,0,none⟩)] (.panicking [{ v:=Xw,recovered:=false }]) w fun e u' w'=>e = .returned (.tuple #[])/\u' = .panicking [{ v:=Xw,recovered:=true }]/\w'=w.setCell ⟨g,0,none⟩ (.bool false):=by
 have hc:w.cell? ⟨g,0,none⟩=some x:=by rw[cell_of_row w g 0 _ _ _ hg];rfl
 have hf:w.frozen? ⟨g,0,none⟩=false:=frozen_of_row w g 0 _ _ hg;have hv:∀w:World,(binOp BinOp.neq 20 Xw .nilIface).run Tryz.prog w = .ok (.bool true) w:=fun _=>by kernel_rfl
 refine callsD_of_wpS Tryz.func54 rfl fun c₀ cs hu=>?_
 apply wpS_seq;apply wpS_region;simp[wpOpsS,go_sem,recoverD,hu,Tryz.ntmps54,Exit.thenS,hv];refine wpS_cond (t:=true) (by simp[Act.eval,Array.replicate]) ?_;simp only[if_true];refine wpS_of_wp ?_;go_wp2;cases c₀;simp_all [bodyPostS,results,Tryz.results54]
theorem DJ (w:World)(v:BV)(AA:List (List Dd))(b:Bd)(h:CJ w v AA b)(hz:Cg AA b):
  Calls Tryz.prog 19 #[v.agg] w fun e w'=>e = .returned (.bool (Af AA b))/\AC w w':=by
 obtain⟨aW,aP,aL,aN,aX,aS,aF,aR,cW,cP,cL,cN,cX,cS,cF,cR,rfl⟩:=h.shapes;have C:=fun (W:World) (kW:AC w W)=>Ih W _ AA b (h.keep kW) hz
 have HH:=Lib.hid h;have HZ:=Lib.hid hz;clear h hz;have yU:∀(fn:Fn) (first cap:Array Value) (w:World),(Instr.makeFunc fn first cap).run Tryz.prog w = .ok (.func fn first cap) w:=fun _ _ _ _=>rfl
 obtain⟨w1,hw1⟩:∃W:World,W=((w.alloc (.cells #[.slice aW AA.length cW,.slice aP b.AM.length cP,.slice aL b.AQ.length cL,.slice aN b.AH.length cN,.slice aX b.AL.length cX,.slice aS b.sn.length cS,.slice aF b.fr.length cF,.slice aR b.rws.length cR] 30)).alloc (.cells #[.bool false] 4)):=⟨_,rfl⟩;have K1:AC w w1:=by rw[hw1];exact ((AC.refl w).alloc _).alloc _
 have s1:w1.heap.size=w.heap.size+2:=by rw[hw1,AD,AD]
 have hR1:w1.heap[w.heap.size+1]? = some (.cells #[.bool false] 4 (0,0)):=by
  rw[hw1,<-AD w (.cells #[.slice aW AA.length cW,.slice aP b.AM.length cP,.slice aL b.AQ.length cL,.slice aN b.AH.length cN,.slice aX b.AL.length cX,.slice aS b.sn.length cS,.slice aF b.fr.length cF,.slice aR b.rws.length cR] 30)];exact heap_alloc_new _ _
 have hB1:w1.heap[w.heap.size]? = some (.cells #[.slice aW AA.length cW,.slice aP b.AM.length cP,.slice aL b.AQ.length cL,.slice aN b.AH.length cN,.slice aX b.AL.length cX,.slice aS b.sn.length cS,.slice aF b.fr.length cF,.slice aR b.rws.length cR] 30 (0,0)):=by rw[hw1];exact (Below.block ((AC.refl _).alloc _) _ (by rw[AD];omega)).trans (heap_alloc_new _ _)
 go_enter_defers Tryz.func19,Tryz.ntmps19
 go_upto_region 2 with fail
 rw[<-hw1];clear hw1;go_wp2_with (first|refine wpList_load_row rfl 30 _ rfl w.heap.size rfl 30 _ (0,0) _ hB1 Tryz.underlying30 rfl AF ?_|fail)
 refine (C _ K1).mono ?_;rintro e w2 ⟨rfl,k2⟩;have K2:=K1.trans k2;have hR2:=(Below.block k2 (w.heap.size+1) (by omega)).trans hR1;cases hb:Af AA b
 ·
  rw[Ai rfl];have hS:=heap_setCell_same w2 (w.heap.size+1) 0 _ _ (.bool false) hR2;have hc:(w2.setCell ⟨w.heap.size+1,0,none⟩ (.bool false)).cell? ⟨w.heap.size+1,0,none⟩=some (.bool false):=by rw[cell_of_row _ _ 0 _ _ _ hS];rfl
  have KZ:=K2.grown (Ad w2 (w.heap.size+1) 0 (.bool false)) (fun k hk=>by have:=Option.some.inj hk;omega);go_wp2;refine leaves_cons (f:=54) (args:=#[.pointer (some ⟨w.heap.size+1,0,none⟩)]) (by simp) (by simp[go_sem]) ?_;refine (Yb _ _ _ hR2).mono ?_;rintro e u' w9 ⟨rfl,rfl,rfl⟩;simp[Leaves,settle,results,Tryz.results19,go_sem,hc];exact⟨hb,KZ⟩
 ·
  rw[Ay rfl];have hc0:w2.cell? ⟨w.heap.size+1,0,none⟩=some (.bool false):=by rw[cell_of_row w2 _ 0 _ _ _ hR2];rfl
  have hf:w2.frozen? ⟨w.heap.size+1,0,none⟩=false:=frozen_of_row w2 _ 0 _ _ hR2;have hS:=heap_setCell_same w2 (w.heap.size+1) 0 _ _ (.bool true) hR2;have hc:(w2.setCell ⟨w.heap.size+1,0,none⟩ (.bool true)).cell? ⟨w.heap.size+1,0,none⟩=some (.bool true):=by rw[cell_of_row _ _ 0 _ _ _ hS];rfl
  have KZ:=K2.grown (Ad w2 (w.heap.size+1) 0 (.bool true)) (fun k hk=>by have:=Option.some.inj hk;omega);go_wp2;refine leaves_cons (f:=54) (args:=#[.pointer (some ⟨w.heap.size+1,0,none⟩)]) (by simp) (by simp[go_sem]) ?_;refine (Vd _ _).mono ?_;rintro e u' w9 ⟨rfl,rfl,rfl⟩;simp[Leaves,settle,results,Tryz.results19,go_sem,hc];exact⟨hb,KZ⟩
theorem Ia {w:World}{ops:Array Oper}{rest:List Oper}{o:Oper}{a:Act}{Q:Exit->Act->World->Prop}(hgd:o.guard=none)(s x:Operand)
  (ho:o.op = .call { callee:= .builtin .append,args:=#[s,x],argTypes:=#[42,42] })
  (base g:Nat) (hs:a.eval s = .slice (some ⟨g,0,none⟩) 0 0) (hown:BW cN 44 3 w base (.slice (some ⟨g,0,none⟩) 0 0) [])
  (vx:Value) (hx:a.eval x=vx) (ns:List Nt) (hr:Zk w vx ns) (hn:ns.length<=1048576) (hb:base<=w.heap.size)
  (h:∀v' w',BW cN 44 3 w' base v' ns->w.grownBy w' (some g)->wpList Tryz.prog ops Q rest (a.put o.dst v') w'):wpList Tryz.prog ops Q (o::rest) a w:=
 wpList_plain hgd fun _ hK=>Gv s x ho base g hs hown vx hx ns hr hn hb (fun v' w' h1 h2=>hK _ _ (h v' w' h1 h2))
theorem Gr.push {α:Type}{t:TypeId}{rowOf:List α->Value->Rw}{w w1 w2:World}{m:Nat}{v v' u:Value}{hs:List Value}{xss:List (List α)}{xs:List α}(h:Gr t rowOf w m v hs xss)(hv:∀xs u,(rowOf xs u).v=u)(k:AC w w1)
  (ou:(rowOf xs u).own w1 m) (hn:∀b,u.ownBlock=some b->w.heap.size<=b) (hg:w1.grownBy w2 v.ownBlock) (hb:v'.ownBlock=v.ownBlock\/v'.ownBlock=some w1.heap.size) (ho:(EH t (hs++[u]) v').own w2 m):Gr t rowOf w2 m v' (hs++[u]) (xss++[xs]):=by
 have F1:=h.Al.add (i:=some hs.length) (fun q=>Nat.lt_irrefl _ (show hs.length<hs.length from q)) (r:=rowOf xs u) rfl k ou (fun b hb=>hn b (by rw[hv] at hb;exact hb));have F2:=F1.set (i:=none) (.inl trivial) (r:=EH t (hs++[u]) v') (by rw[AU _ _ (by simp)];exact hg) (by rw[AU _ _ (by simp)];rcases hb with e|e;exact .inl e;exact .inr (.inl e)) ho;refine⟨F2.congr (fun o ho'=>?_) (fun o ho'=>?_),by rw[List.length_append,List.length_append,h.len];rfl⟩
 ·
  cases o with
  |none=>exact .inl trivial
  |some i=>
   have hi:i<(hs++[u]).length:=ho';rw[List.length_append] at hi;by_cases e:i=hs.length
   . exact .inr (by rw[e])
   . exact .inl (show i<hs.length by simp at hi;omega)
 ·
  cases o with
  |none=>rw[Am];rfl
  |some i=>
   have hi:i<(hs++[u]).length:=ho';rw[List.length_append] at hi;rw[AU _ _ (by simp)];show rowOf ((xss++[xs]).getD i []) ((hs++[u]).getD i AE)=_;by_cases e:i=hs.length
   ·
    subst e;rw[Am];have e1:(xss++[xs]).getD hs.length []=xs:=by rw[h.len,List.getD_eq_getElem?_getD,List.getElem?_append_right (Nat.le_refl _)];simp
    have e2:(hs++[u]).getD hs.length AE=u:=by rw[List.getD_eq_getElem?_getD,List.getElem?_append_right (Nat.le_refl _)];simp
    rw[e1,e2]
   ·
    rw[AU _ _ (by simpa using e)];have hi2:i<hs.length:=by simp at hi;omega
    have e1:(xss++[xs]).getD i []=xss.getD i []:=by rw[List.getD_eq_getElem?_getD,List.getElem?_append_left (by rw[<-h.len];exact hi2),<-List.getD_eq_getElem?_getD]
    have e2:(hs++[u]).getD i AE=hs.getD i AE:=by rw[List.getD_eq_getElem?_getD,List.getElem?_append_left hi2,<-List.getD_eq_getElem?_getD]
    rw[e1,e2];rfl
theorem Pt (w:World)(v:Value)(xss:List (List Nt))(h:VI w v xss)(hx:xss.length<=1048576)(hm:∀i,i<xss.length->(xss.getD i []).length<=1048576):
  Calls Tryz.prog 86 #[v] w fun e w'=>∃v' hs,e = .returned v'/\Gr 42 Nn w' w.heap.size v' hs xss/\AC w w':=by
 obtain⟨a,c,rfl,h⟩:=h;obtain⟨j0,hj,hy0,hy1,hy2⟩:=info_parts Tryz.Oi
 have hown0:Gr 42 Nn (w.alloc (.cells #[] 42)) w.heap.size (.slice (some ⟨w.heap.size,0,none⟩) 0 0) [] (xss.take 0):=by
  rw[List.take_zero];refine⟨⟨fun o ho=>?_,fun o o' ho ho' hne=>?_⟩,rfl⟩
  ·
   cases o with
   |none=>exact World.ownsRow_lit w #[] 0 (Nat.le_refl _) (by decide) rfl
   |some i=>exact absurd (show i<0 from ho) (by omega)
  ·
   cases o with
   |none=>
    cases o' with
    |none=>exact absurd rfl hne
    |some i=>exact absurd (show i<0 from ho') (by omega)
   |some i=>exact absurd (show i<0 from ho) (by omega)
 go_enter Tryz.func86,Tryz.ntmps86
 go_wp2;go_loopw [3,5,9] (fun v0 _ i wr=>∃(k:Nat) (v:Value) (hs:List Value),v=v0/\k<=xss.length/\i = .int .i64 k/\Gr 42 Nn wr w.heap.size v hs (xss.take k)/\AC w wr) (fun _ _ i _=>xss.length-(intOf i).toNat)
 case atStart=>exact⟨0,_,_,rfl,Nat.zero_le _,rfl,hown0,(AC.refl _).alloc _⟩
 case round=>
  obtain⟨k,v,hs,rfl,hk,rfl,ho,hK⟩:=hrel;clear hown0;by_cases hlt:k<xss.length
  ·
   rcases h with h0|⟨b,off,rfl,hb,hc⟩
   . exfalso;rw[h0] at hlt;simp at hlt
   obtain⟨vi,d1,r1⟩:=hc k hlt;have d2:=(hK.cell hb).trans d1;have r2:=r1.keep hK;have hml:=hm k hlt
   have HT:Hid (xss.take (k+1)=xss.take k++[xss.getD k []]):=Lib.hid (by
    rw[List.take_add_one,List.getD_eq_getElem?_getD,List.getElem?_eq_getElem hlt];rfl)
   have hlen:hs.length=k:=by rw[ho.len,List.length_take];omega
   generalize xss.getD k []=ns at *;have hsz:=hK.size;have r3:=r2.keep ((AC.refl wr).alloc (.cells #[] 44));obtain⟨ai,ci,rfl,-⟩:=id r2;have i1:(0:Int)<=(k:Int):=Int.natCast_nonneg _;have i2:(k:Int)<(xss.length:Int):=by omega
   clear hc d1 r1 r2;have OE:BW cN 44 3 (wr.alloc (.cells #[] 44)) wr.heap.size (.slice (some ⟨wr.heap.size,0,none⟩) 0 0) []:=World.ownsRow_lit wr #[] 0 (Nat.le_refl _) (by decide) rfl;go_wp2_with (at_builtin;refine Ia rfl _ _ rfl wr.heap.size wr.heap.size rfl OE _ rfl ns r3 hml (by rw[AD];omega) ?_)
   intro u w5 o5 g5;have OU:(Nn ns u).own w5 wr.heap.size:=o5;have k5:AC wr w5:=((AC.refl wr).alloc (.cells #[] 44)).grown g5 (fun q hq=>Nat.le_of_eq (Option.some.inj hq));have s5:=k5.size
   obtain⟨au,cu,hu⟩:∃a c,u = .slice a ns.length c:=by
    rcases OU.2 with ⟨e,hn'⟩|⟨g,cap,cur,e,_⟩
    . exact⟨none,0,by rw[show ns.length=0 from hn'];exact e⟩
    . exact⟨_,_,e⟩
   subst hu;have k6:AC w5 (w5.alloc (.cells #[.slice au ns.length cu] 42)):=(AC.refl w5).alloc _
   have HR:World.ownsRow (w5.alloc (.cells #[.slice au ns.length cu] 42)) w.heap.size 42 1 v k hs:=by
    have:=((ho.Al.keep k5).keep k6).own none trivial;rw[<-hlen];exact this
   clear o5 g5;go_wp2_with (at_builtin;refine wpList_append_own_at _ rfl _ _ 27 rfl w.heap.size 42 j0 (.slice none 0 0) 1 24 Tryz.underlying27 hj hy0 hy1 hy2 rfl (by decide) _ _ _ rfl HR ⟨_,0,none⟩ 1 1 [.slice au ns.length cu] rfl rfl ?e1 ?e2 ?e3 ?e4 ?e5 ?_)
   case e1=>
    intro j u hj
    match j,hj with
    | 0,hj=>simp at hj;subst hj;simp[Addr.add]
   case e2=>intro u hu;simp at hu;subst hu;rfl
   case e3=>unfold maxLen;omega
   case e4=>omega
   case e5=>simp;omega
   intro v7 w7 hown7 hgrow7 _ hblk7;have HP:=ho.push (xs:=ns) (fun _ _=>rfl) (k5.trans k6) (DH (show (Nn ns (.slice au ns.length cu)).own _ wr.heap.size from World.ownsRow.kept OU k6.grownBy (by cases (Value.slice au ns.length cu).ownBlock<;>simp)) hsz) (fun q hq=>(World.ownsRow.lt OU q hq).1) hgrow7 (by rw[AD];exact hblk7) (by show World.ownsRow _ _ _ _ _ (hs++[Value.slice au ns.length cu]).length _;rw[List.length_append,hlen];exact hown7);have K7:AC w w7:=((hK.trans k5).alloc _).grown hgrow7 (fun k hk=>(World.ownsRow.lt HR k hk).1);clear hown7 hgrow7 hblk7 HR OU ho;go_wp2;go_roundw;case rel=>exact⟨k+1,_,_,rfl,by omega,by go_num,by rw[HT.out];exact HP,K7⟩
   case measure=>simp[intOf];omega
  ·
   obtain rfl:k=xss.length:=by omega
   rw[List.take_length] at ho;go_wp2;go_ret;exact⟨_,_,rfl,ho,hK⟩
theorem Ps (w:World)(v:Value)(xss:List (List Int))(h:YG w v xss)(hx:xss.length<=1048576)(hm:∀i,i<xss.length->(xss.getD i []).length<=1048576):
  Calls Tryz.prog 87 #[v] w fun e w'=>∃v' hs,e = .returned v'/\Gr 26 Bp w' w.heap.size v' hs xss/\AC w w':=by
 obtain⟨a,c,rfl,h⟩:=h;obtain⟨j0,hj,hy0,hy1,hy2⟩:=info_parts Tryz.Ry
 have hown0:Gr 26 Bp (w.alloc (.cells #[] 26)) w.heap.size (.slice (some ⟨w.heap.size,0,none⟩) 0 0) [] (xss.take 0):=by
  rw[List.take_zero];refine⟨⟨fun o ho=>?_,fun o o' ho ho' hne=>?_⟩,rfl⟩
  ·
   cases o with
   |none=>exact World.ownsRow_lit w #[] 0 (Nat.le_refl _) (by decide) rfl
   |some i=>exact absurd (show i<0 from ho) (by omega)
  ·
   cases o with
   |none=>
    cases o' with
    |none=>exact absurd rfl hne
    |some i=>exact absurd (show i<0 from ho') (by omega)
   |some i=>exact absurd (show i<0 from ho) (by omega)
 go_enter Tryz.func87,Tryz.ntmps87
 go_wp2;go_loopw [3,5,9] (fun v0 _ i wr=>∃(k:Nat) (v:Value) (hs:List Value),v=v0/\k<=xss.length/\i = .int .i64 k/\Gr 26 Bp wr w.heap.size v hs (xss.take k)/\AC w wr) (fun _ _ i _=>xss.length-(intOf i).toNat)
 case atStart=>exact⟨0,_,_,rfl,Nat.zero_le _,rfl,hown0,(AC.refl _).alloc _⟩
 case round=>
  obtain⟨k,v,hs,rfl,hk,rfl,ho,hK⟩:=hrel;clear hown0;by_cases hlt:k<xss.length
  ·
   rcases h with h0|⟨b,off,rfl,hb,hc⟩
   . exfalso;rw[h0] at hlt;simp at hlt
   obtain⟨vi,d1,r1⟩:=hc k hlt;have d2:=(hK.cell hb).trans d1;have r2:=r1.keep hK;have hml:=hm k hlt
   have HT:Hid (xss.take (k+1)=xss.take k++[xss.getD k []]):=Lib.hid (by
    rw[List.take_add_one,List.getD_eq_getElem?_getD,List.getElem?_eq_getElem hlt];rfl)
   have hlen:hs.length=k:=by rw[ho.len,List.length_take];omega
   generalize xss.getD k []=ns at *;have hsz:=hK.size;have r3:=r2.keep ((AC.refl wr).alloc (.cells #[] 2));obtain⟨ai,ci,rfl,-⟩:=id r2;have i1:(0:Int)<=(k:Int):=Int.natCast_nonneg _;have i2:(k:Int)<(xss.length:Int):=by omega
   clear hc d1 r1 r2;have OE:A8 (wr.alloc (.cells #[] 2)) wr.heap.size (.slice (some ⟨wr.heap.size,0,none⟩) 0 0) []:=World.ownsRow_lit wr #[] 0 (Nat.le_refl _) (by decide) rfl;go_wp2_with (at_builtin;refine Bx rfl _ _ rfl wr.heap.size _ [] rfl OE _ rfl ns r3 (by simp) hml (by rw[AD];omega) ?_)
   intro u w5 o5 g5 _;have OU:(Bp ns u).own w5 wr.heap.size:=o5;have k5:AC wr w5:=((AC.refl wr).alloc (.cells #[] 2)).grown g5 (fun q hq=>Nat.le_of_eq (Option.some.inj hq));have s5:=k5.size
   obtain⟨au,cu,hu⟩:∃a c,u = .slice a ns.length c:=by
    rcases OU.2 with ⟨e,hn'⟩|⟨g,cap,cur,e,_⟩
    . exact⟨none,0,by rw[show ns.length=0 from hn'];exact e⟩
    . exact⟨_,_,e⟩
   subst hu;have k6:AC w5 (w5.alloc (.cells #[.slice au ns.length cu] 26)):=(AC.refl w5).alloc _
   have HR:World.ownsRow (w5.alloc (.cells #[.slice au ns.length cu] 26)) w.heap.size 26 1 v k hs:=by
    have:=((ho.Al.keep k5).keep k6).own none trivial;rw[<-hlen];exact this
   clear o5 g5;go_wp2_with (at_builtin;refine wpList_append_own_at _ rfl _ _ 28 rfl w.heap.size 26 j0 (.slice none 0 0) 1 24 Tryz.underlying28 hj hy0 hy1 hy2 rfl (by decide) _ _ _ rfl HR ⟨_,0,none⟩ 1 1 [.slice au ns.length cu] rfl rfl ?e1 ?e2 ?e3 ?e4 ?e5 ?_)
   case e1=>
    intro j u hj
    match j,hj with
    | 0,hj=>simp at hj;subst hj;simp[Addr.add]
   case e2=>intro u hu;simp at hu;subst hu;rfl
   case e3=>unfold maxLen;omega
   case e4=>omega
   case e5=>simp;omega
   intro v7 w7 hown7 hgrow7 _ hblk7;have HP:=ho.push (xs:=ns) (fun _ _=>rfl) (k5.trans k6) (DH (show (Bp ns (.slice au ns.length cu)).own _ wr.heap.size from World.ownsRow.kept OU k6.grownBy (by cases (Value.slice au ns.length cu).ownBlock<;>simp)) hsz) (fun q hq=>(World.ownsRow.lt OU q hq).1) hgrow7 (by rw[AD];exact hblk7) (by show World.ownsRow _ _ _ _ _ (hs++[Value.slice au ns.length cu]).length _;rw[List.length_append,hlen];exact hown7);have K7:AC w w7:=((hK.trans k5).alloc _).grown hgrow7 (fun k hk=>(World.ownsRow.lt HR k hk).1);clear hown7 hgrow7 hblk7 HR OU ho;go_wp2;go_roundw;case rel=>exact⟨k+1,_,_,rfl,by omega,by go_num,by rw[HT.out];exact HP,K7⟩
   case measure=>simp[intOf];omega
  ·
   obtain rfl:k=xss.length:=by omega
   rw[List.take_length] at ho;go_wp2;go_ret;exact⟨_,_,rfl,ho,hK⟩
theorem Hd (w:World)(v:Value)(AA:List (List Dd))(h:Ic w v AA)(hx:AA.length<=1048576)(hm:∀i,i<AA.length->(AA.getD i []).length<=1048576):
  Calls Tryz.prog 71 #[v] w fun e w'=>∃v' V,e = .returned v'/\Bz w' w.heap.size w'.heap.size v' V AA/\AC w w':=by
 obtain⟨aD,kM,rfl,h⟩:=h;obtain⟨i0,hi,hz0,hz1,hz2⟩:=info_parts Tryz.WP;obtain⟨j0,hj,hy0,hy1,hy2⟩:=info_parts Tryz.WQ
 have hown0:Bz (w.alloc (.cells #[] 52)) w.heap.size (w.alloc (.cells #[] 52)).heap.size (.slice (some ⟨w.heap.size,0,none⟩) 0 0) (fun _=>vZ) (AA.take 0):=by
  rw[List.take_zero];exact⟨World.ownsRow_lit w #[] 0 (Nat.le_refl _) (by decide) rfl,fun k hk=>by simp[Value.ownBlock] at hk;subst hk;simp,fun i hi=>by simp at hi,fun i hi=>by simp at hi,fun i hi=>by simp at hi,fun i j _ hj=>by simp at hj⟩
 go_enter Tryz.func71,Tryz.ntmps71
 go_wp2;go_loopw [3,5,9] (fun v0 _ i wr=>∃(k:Nat) (v:Value) (V:Nat->Value),v=v0/\k<=AA.length/\i = .int .i64 k/\Bz wr w.heap.size wr.heap.size v V (AA.take k)/\AC w wr) (fun _ _ i _=>AA.length-(intOf i).toNat)
 case atStart=>exact⟨0,_,_,rfl,Nat.zero_le _,rfl,hown0,(AC.refl _).alloc _⟩
 case round=>
  obtain⟨k,v,V,rfl,hk,rfl,ho,hK⟩:=hrel;clear hown0;by_cases hlt:k<AA.length
  ·
   rcases h with h0|⟨b,off,rfl,hb,hc⟩
   . exfalso;rw[h0] at hlt;simp at hlt
   obtain⟨vi,d1,r1⟩:=hc k hlt;have d2:=(hK.cell hb).trans d1;have r2:=r1.keep hK;have hml:=hm k hlt
   have HT:Hid (AA.take (k+1)=AA.take k++[AA.getD k []]):=Lib.hid (by
    rw[List.take_add_one,List.getD_eq_getElem?_getD,List.getElem?_eq_getElem hlt];rfl)
   have hlen:(AA.take k).length=k:=by rw[List.length_take];omega
   generalize AA.getD k []=ds at *;obtain⟨ai,ci,rfl,r2⟩:=r2;have i1:(0:Int)<=(k:Int):=Int.natCast_nonneg _;have i2:(k:Int)<(AA.length:Int):=by omega
   have hsz:=hK.size;clear hc d1 r1;have OE:(wr.alloc (.cells #[] 51)).ownsRow wr.heap.size 51 4 (.slice (some ⟨wr.heap.size,0,none⟩) 0 0) 0 []:=World.ownsRow_lit wr #[] 0 (Nat.le_refl _) (by decide) rfl;have d3:(wr.alloc (.cells #[] 51)).cell? ⟨b,off+k,none⟩=some (.slice ai ds.length (ds.length+ci)):=(((AC.refl wr).alloc _).cell (Nat.lt_of_lt_of_le hb hsz)).trans d2;rcases r2 with h0|⟨bd,od,rfl,hbd,hcd⟩
   ·
    subst h0
    cases ai with
    |none=>
     have OD:BZ (wr.alloc (.cells #[] 51)) wr.heap.size (.slice (some ⟨wr.heap.size,0,none⟩) 0 0) []:=OE;have k5:AC wr (wr.alloc (.cells #[] 51)):=(AC.refl wr).alloc _;have HX5:=(ho.keep k5).keep ((AC.refl (wr.alloc (.cells #[] 51))).alloc (.cells #[.slice (some ⟨wr.heap.size,0,none⟩) 0 0] 52));have HR:=HX5.row;rw[hlen] at HR;have PY:=OD.keep ((AC.refl (wr.alloc (.cells #[] 51))).alloc (.cells #[.slice (some ⟨wr.heap.size,0,none⟩) 0 0] 52));have s5:=k5.size;go_wp2_with (at_builtin;refine wpList_append_own_at _ rfl _ _ 24 rfl w.heap.size 52 j0 (.slice none 0 0) 1 24 Tryz.underlying24 hj hy0 hy1 hy2 rfl (by decide) _ _ _ rfl HR ⟨_,0,none⟩ 1 1 [.slice (some ⟨wr.heap.size,0,none⟩) 0 0] rfl rfl ?e1 ?e2 ?e3 ?e4 ?e5 ?_)
     case e1=>
      intro j u hj
      match j,hj with
      | 0,hj=>simp at hj;subst hj;simp[Addr.add]
     case e2=>intro u hu;simp at hu;subst hu;rfl
     case e3=>unfold maxLen;omega
     case e4=>omega
     case e5=>simp;omega
     intro v' w7 hown7 hgrow7 _ hblk7;have HP:=HX5.push PY hsz (by rw[hlen];exact hown7) hgrow7 (by rw[AD,AD];exact hblk7) (by simp;omega);have K7:AC w w7:=((hK.trans k5).alloc _).grown hgrow7 (fun k hk=>(World.ownsRow.lt HR k hk).1);clear hown7 hgrow7 hblk7 HR HX5 PY;go_wp2;go_roundw;case rel=>exact⟨k+1,_,_,rfl,by omega,by go_num,by rw[HT.out];exact HP,K7⟩
     case measure=>simp[intOf];omega
    |some x=>
     go_wp2_with (at_builtin;refine wpList_append_own _ rfl _ _ 52 rfl wr.heap.size 51 i0 (.agg #[.int .i64 0,.int .i64 0,.int .i64 0,.int .i64 0]) 4 32 Tryz.underlying52 hi hz0 hz1 hz2 rfl (by decide) _ _ _ rfl OE x 0 ci [] rfl rfl ?c1 ?c2 ?c3 ?c4 ?c5 ?_)
     case c1=>intro j u hj;simp at hj
     case c2=>intro u hu;simp at hu
     case c3=>simp
     case c4=>simp
     case c5=>simp
     intro u w5 hown5 hgrow5 _;have OD:BZ w5 wr.heap.size u []:=by unfold BZ;simpa using hown5
     have k5:AC wr w5:=((AC.refl wr).alloc (.cells #[] 51)).grown hgrow5 (fun k hk=>(World.ownsRow.lt OE k hk).1);clear hown5 hgrow5;obtain⟨au,cu,hu⟩:∃a c,u = .slice a 0 c:=OD.shape;subst hu;have HX5:=(ho.keep k5).keep ((AC.refl w5).alloc (.cells #[.slice au 0 cu] 52));have HR:=HX5.row;rw[hlen] at HR;have PY:=OD.keep ((AC.refl w5).alloc (.cells #[.slice au 0 cu] 52));have s5:=k5.size;go_wp2_with (at_builtin;refine wpList_append_own_at _ rfl _ _ 24 rfl w.heap.size 52 j0 (.slice none 0 0) 1 24 Tryz.underlying24 hj hy0 hy1 hy2 rfl (by decide) _ _ _ rfl HR ⟨_,0,none⟩ 1 1 [.slice au 0 cu] rfl rfl ?e1 ?e2 ?e3 ?e4 ?e5 ?_)
     case e1=>
      intro j u hj
      match j,hj with
      | 0,hj=>simp at hj;subst hj;simp[Addr.add]
     case e2=>intro u hu;simp at hu;subst hu;rfl
     case e3=>unfold maxLen;omega
     case e4=>omega
     case e5=>simp;omega
     intro v' w7 hown7 hgrow7 _ hblk7;have HP:=HX5.push PY hsz (by rw[hlen];exact hown7) hgrow7 (by rw[AD];exact hblk7) (by simp;omega);have K7:AC w w7:=((hK.trans k5).alloc _).grown hgrow7 (fun k hk=>(World.ownsRow.lt HR k hk).1);clear hown7 hgrow7 hblk7 HR HX5 PY;go_wp2;go_roundw;case rel=>exact⟨k+1,_,_,rfl,by omega,by go_num,by rw[HT.out];exact HP,K7⟩
     case measure=>simp[intOf];omega
   ·
    have NC:=NM (w:=wr.alloc (.cells #[] 51)) (b:=bd) (off:=od) (ds:=ds) (fun i hi=>(hcd i hi).keep hbd ((AC.refl wr).alloc _));go_wp2_with (at_builtin;refine wpList_append_own _ rfl _ _ 52 rfl wr.heap.size 51 i0 (.agg #[.int .i64 0,.int .i64 0,.int .i64 0,.int .i64 0]) 4 32 Tryz.underlying52 hi hz0 hz1 hz2 rfl (by decide) _ _ _ rfl OE ⟨bd,od,none⟩ ds.length (ds.length+ci) (ds.flatMap cD) rfl (OT ds) ?c1 ?c2 ?c3 ?c4 ?c5 ?_)
    case c1=>exact NC
    case c2=>exact Sz ds
    case c3=>unfold maxLen;omega
    case c4=>omega
    case c5=>simp
    intro u w5 hown5 hgrow5 _;have OD:BZ w5 wr.heap.size u ds:=by unfold BZ;simpa using hown5
    have k5:AC wr w5:=((AC.refl wr).alloc (.cells #[] 51)).grown hgrow5 (fun k hk=>(World.ownsRow.lt OE k hk).1);clear hown5 hgrow5;obtain⟨au,cu,hu⟩:=OD.shape;subst hu;have HX5:=(ho.keep k5).keep ((AC.refl w5).alloc (.cells #[.slice au ds.length cu] 52));have HR:=HX5.row;rw[hlen] at HR;have PY:=OD.keep ((AC.refl w5).alloc (.cells #[.slice au ds.length cu] 52));have s5:=k5.size;go_wp2_with (at_builtin;refine wpList_append_own_at _ rfl _ _ 24 rfl w.heap.size 52 j0 (.slice none 0 0) 1 24 Tryz.underlying24 hj hy0 hy1 hy2 rfl (by decide) _ _ _ rfl HR ⟨_,0,none⟩ 1 1 [.slice au ds.length cu] rfl rfl ?e1 ?e2 ?e3 ?e4 ?e5 ?_)
    case e1=>
     intro j u hj
     match j,hj with
     | 0,hj=>simp at hj;subst hj;simp[Addr.add]
    case e2=>intro u hu;simp at hu;subst hu;rfl
    case e3=>unfold maxLen;omega
    case e4=>omega
    case e5=>simp;omega
    intro v' w7 hown7 hgrow7 _ hblk7;have HP:=HX5.push PY hsz (by rw[hlen];exact hown7) hgrow7 (by rw[AD];exact hblk7) (by simp;omega);have K7:AC w w7:=((hK.trans k5).alloc _).grown hgrow7 (fun k hk=>(World.ownsRow.lt HR k hk).1);clear hown7 hgrow7 hblk7 HR HX5 PY;go_wp2;go_roundw;case rel=>exact⟨k+1,_,_,rfl,by omega,by go_num,by rw[HT.out];exact HP,K7⟩
    case measure=>simp[intOf];omega
  ·
   obtain rfl:k=AA.length:=by omega
   rw[List.take_length] at ho;go_wp2;go_ret;exact⟨_,_,rfl,ho,hK⟩
end Go.Proofs.YtgakfkjjkobpiaaGreat
