/- Gathered texts. -/
import Derived.Test.YtgakfkjjkobpiabGreatMT
import Derived.Test.YtgakfkjjkobpiabGreatNB
import Derived.Lib.Hide
import Derived.Deep.Cut
import Derived.Laws.OwnMore
import Derived.OwnWalk
import Derived.Laws.Tables
set_option maxRecDepth 100000
set_option maxHeartbeats 8000000
namespace Go.Proofs.YtgakfkjjkobpiabGreat
open Go.ChangeShapes Go.WideShapes Go.ChangeAt Go.RowKit
theorem szW_top (w:World)(v:Value)(dss:List (List Dd))(h:RdW w v dss)(left:Int)(h0:0≤left)(h1:left≤1048576)(hn:dss.length≤maxLen)(hm:∀i,i<dss.length→(dss.getD i []).length≤maxLen):
  Calls Tryz.prog 13 #[v,.int .i64 left] w fun e w'=>∃r:Int,e = .returned (.int .i64 r)∧w'=w∧(r<0∨((dss.length+lenW dss:Int)≤left∧r≤left)):=by
 have hM:maxLen=9223372036854775807:=rfl;obtain⟨a,c,rfl,h⟩:=h;by_cases hl:(dss.length:Int)≤left
 ·
  go_enter Tryz.func13,Tryz.ntmps13
  go_wp2;go_loop [1,5] (fun l i=>∃(k:Nat) (x:Int),k≤dss.length∧i = .int .i64 k∧l = .int .i64 x∧0≤x∧x=left-dss.length-lenW (dss.take k)) (fun _ i=>dss.length-(intOf i).toNat)
  case atStart=>exact⟨0,_,Nat.zero_le _,rfl,rfl,by omega,by simp[lenW]⟩
  case round=>
   obtain⟨k,x,hk,rfl,rfl,x0,hx⟩:=hrel;by_cases hlt:k<dss.length
   ·
    rcases h with h|⟨b,o,rfl,hb,hc⟩
    · exfalso;rw[h] at hlt;simp at hlt
    obtain⟨u,e0,r0⟩:=hc k hlt;have HS:=Lib.hid (lenW_take dss k hlt);have HX:=Lib.hid hx;have hmk:=hm k hlt;have hxl:x≤1048576:=by omega
    clear hc hx;by_cases hf:((dss.getD k []).length:Int)≤x
    ·
     go_wp2_with fail
     refine (szD_any _ _ _ r0 x x0 hxl hmk).mono ?_;rw[if_pos hf];rintro e w' ⟨rfl,rfl⟩;generalize hq:x-((dss.getD k []).length:Int)=q;have HQ:=Lib.hid hq;have hq0:0≤q:=by omega
     clear hq;go_wp2;go_round
     case rel=>exact⟨k+1,q,by omega,by go_num,rfl,hq0,by have:=HS.out;have:=HX.out;have:=HQ.out;omega⟩
     case measure=>simp[intOf];omega
    ·
     go_wp2_with fail
     refine (szD_any _ _ _ r0 x x0 hxl hmk).mono ?_;rw[if_neg (by omega)];rintro e w' ⟨rfl,rfl⟩;go_wp2;go_ret;exact⟨_,rfl,rfl,.inl (by omega)⟩
   ·
    obtain rfl:k=dss.length:=by omega
    have HX:=Lib.hid hx;clear hx;go_wp2;go_ret;refine⟨_,rfl,rfl,.inr ?_⟩;have:=HX.out;rw[List.take_length] at this;exact⟨by omega,by omega⟩
 ·
  go_enter Tryz.func13,Tryz.ntmps13
  go_wp2;go_ret;exact⟨_,rfl,rfl,.inl (by omega)⟩
theorem szN_any (w:World)(v:Value)(ds:List Nt)(h:RdN w v ds)(left:Int)(h0:0≤left)(h1:left≤1048576)(hn:ds.length≤maxLen):
  Calls Tryz.prog 56 #[v,.int .i64 left] w fun e w'=>e = .returned (.int .i64 (if (ds.length:Int)≤left then left-ds.length else -1))∧w'=w:=by
 obtain⟨a,cap,rfl,_⟩:=h;have hm:maxLen=9223372036854775807:=rfl;by_cases hl:(ds.length:Int)≤left
 ·
  rw[if_pos hl];go_enter Tryz.func56,Tryz.ntmps56
  go_wp2;go_ret;exact⟨rfl,rfl⟩
 ·
  rw[if_neg hl];go_enter Tryz.func56,Tryz.ntmps56
  go_wp2;go_ret;exact⟨rfl,rfl⟩
theorem szI_any (w:World)(v:Value)(ds:List Int)(h:Rd w v ds)(left:Int)(h0:0≤left)(h1:left≤1048576)(hn:ds.length≤maxLen):
  Calls Tryz.prog 24 #[v,.int .i64 left] w fun e w'=>e = .returned (.int .i64 (if (ds.length:Int)≤left then left-ds.length else -1))∧w'=w:=by
 obtain⟨a,cap,rfl,_⟩:=h;have hm:maxLen=9223372036854775807:=rfl;by_cases hl:(ds.length:Int)≤left
 ·
  rw[if_pos hl];go_enter Tryz.func24,Tryz.ntmps24
  go_wp2;go_ret;exact⟨rfl,rfl⟩
 ·
  rw[if_neg hl];go_enter Tryz.func24,Tryz.ntmps24
  go_wp2;go_ret;exact⟨rfl,rfl⟩
theorem szNN_top (w:World)(v:Value)(dss:List (List Nt))(h:RdNN w v dss)(left:Int)(h0:0≤left)(h1:left≤1048576)(hn:dss.length≤maxLen)(hm:∀i,i<dss.length→(dss.getD i []).length≤maxLen):
  Calls Tryz.prog 25 #[v,.int .i64 left] w fun e w'=>∃r:Int,e = .returned (.int .i64 r)∧w'=w∧(r<0∨((dss.length+lenG dss:Int)≤left∧r≤left)):=by
 have hM:maxLen=9223372036854775807:=rfl;obtain⟨a,c,rfl,h⟩:=h;by_cases hl:(dss.length:Int)≤left
 ·
  go_enter Tryz.func25,Tryz.ntmps25
  go_wp2;go_loop [1,5] (fun l i=>∃(k:Nat) (x:Int),k≤dss.length∧i = .int .i64 k∧l = .int .i64 x∧0≤x∧x=left-dss.length-lenG (dss.take k)) (fun _ i=>dss.length-(intOf i).toNat)
  case atStart=>exact⟨0,_,Nat.zero_le _,rfl,rfl,by omega,by simp[lenG]⟩
  case round=>
   obtain⟨k,x,hk,rfl,rfl,x0,hx⟩:=hrel;by_cases hlt:k<dss.length
   ·
    rcases h with h|⟨b,o,rfl,hb,hc⟩
    · exfalso;rw[h] at hlt;simp at hlt
    obtain⟨u,e0,r0⟩:=hc k hlt;have HS:=Lib.hid (lenG_take dss k hlt);have HX:=Lib.hid hx;have hmk:=hm k hlt;have hxl:x≤1048576:=by omega
    clear hc hx;by_cases hf:((dss.getD k []).length:Int)≤x
    ·
     go_wp2_with fail
     refine (szN_any _ _ _ r0 x x0 hxl hmk).mono ?_;rw[if_pos hf];rintro e w' ⟨rfl,rfl⟩;generalize hq:x-((dss.getD k []).length:Int)=q;have HQ:=Lib.hid hq;have hq0:0≤q:=by omega
     clear hq;go_wp2;go_round
     case rel=>exact⟨k+1,q,by omega,by go_num,rfl,hq0,by have:=HS.out;have:=HX.out;have:=HQ.out;omega⟩
     case measure=>simp[intOf];omega
    ·
     go_wp2_with fail
     refine (szN_any _ _ _ r0 x x0 hxl hmk).mono ?_;rw[if_neg (by omega)];rintro e w' ⟨rfl,rfl⟩;go_wp2;go_ret;exact⟨_,rfl,rfl,.inl (by omega)⟩
   ·
    obtain rfl:k=dss.length:=by omega
    have HX:=Lib.hid hx;clear hx;go_wp2;go_ret;refine⟨_,rfl,rfl,.inr ?_⟩;have:=HX.out;rw[List.take_length] at this;exact⟨by omega,by omega⟩
 ·
  go_enter Tryz.func25,Tryz.ntmps25
  go_wp2;go_ret;exact⟨_,rfl,rfl,.inl (by omega)⟩
theorem szII_top (w:World)(v:Value)(dss:List (List Int))(h:RdL w v dss)(left:Int)(h0:0≤left)(h1:left≤1048576)(hn:dss.length≤maxLen)(hm:∀i,i<dss.length→(dss.getD i []).length≤maxLen):
  Calls Tryz.prog 26 #[v,.int .i64 left] w fun e w'=>∃r:Int,e = .returned (.int .i64 r)∧w'=w∧(r<0∨((dss.length+lenG dss:Int)≤left∧r≤left)):=by
 have hM:maxLen=9223372036854775807:=rfl;obtain⟨a,c,rfl,h⟩:=h;by_cases hl:(dss.length:Int)≤left
 ·
  go_enter Tryz.func26,Tryz.ntmps26
  go_wp2;go_loop [1,5] (fun l i=>∃(k:Nat) (x:Int),k≤dss.length∧i = .int .i64 k∧l = .int .i64 x∧0≤x∧x=left-dss.length-lenG (dss.take k)) (fun _ i=>dss.length-(intOf i).toNat)
  case atStart=>exact⟨0,_,Nat.zero_le _,rfl,rfl,by omega,by simp[lenG]⟩
  case round=>
   obtain⟨k,x,hk,rfl,rfl,x0,hx⟩:=hrel;by_cases hlt:k<dss.length
   ·
    rcases h with h|⟨b,o,rfl,hb,hc⟩
    · exfalso;rw[h] at hlt;simp at hlt
    obtain⟨u,e0,r0⟩:=hc k hlt;have HS:=Lib.hid (lenG_take dss k hlt);have HX:=Lib.hid hx;have hmk:=hm k hlt;have hxl:x≤1048576:=by omega
    clear hc hx;by_cases hf:((dss.getD k []).length:Int)≤x
    ·
     go_wp2_with fail
     refine (szI_any _ _ _ r0 x x0 hxl hmk).mono ?_;rw[if_pos hf];rintro e w' ⟨rfl,rfl⟩;generalize hq:x-((dss.getD k []).length:Int)=q;have HQ:=Lib.hid hq;have hq0:0≤q:=by omega
     clear hq;go_wp2;go_round
     case rel=>exact⟨k+1,q,by omega,by go_num,rfl,hq0,by have:=HS.out;have:=HX.out;have:=HQ.out;omega⟩
     case measure=>simp[intOf];omega
    ·
     go_wp2_with fail
     refine (szI_any _ _ _ r0 x x0 hxl hmk).mono ?_;rw[if_neg (by omega)];rintro e w' ⟨rfl,rfl⟩;go_wp2;go_ret;exact⟨_,rfl,rfl,.inl (by omega)⟩
   ·
    obtain rfl:k=dss.length:=by omega
    have HX:=Lib.hid hx;clear hx;go_wp2;go_ret;refine⟨_,rfl,rfl,.inr ?_⟩;have:=HX.out;rw[List.take_length] at this;exact⟨by omega,by omega⟩
 ·
  go_enter Tryz.func26,Tryz.ntmps26
  go_wp2;go_ret;exact⟨_,rfl,rfl,.inl (by omega)⟩
theorem szI_top (w:World)(v:Value)(zs:List Int)(h:Rd w v zs)(left:Int)(h0:0≤left)(h1:left≤1048576)(hn:zs.length≤maxLen):
  Calls Tryz.prog 24 #[v,.int .i64 left] w fun e w'=>∃r:Int,e = .returned (.int .i64 r)∧w'=w∧(r<0∨((zs.length:Int)≤left∧r≤left)):=by
 refine (szI_any w v zs h left h0 h1 hn).mono ?_;rintro e w' ⟨rfl,rfl⟩;by_cases hl:(zs.length:Int)≤left
 · exact⟨_,by rw[if_pos hl],rfl,.inr ⟨hl,by omega⟩⟩
 · exact⟨-1,by rw[if_neg hl],rfl,.inl (by omega)⟩
theorem szBoard_sum (w:World)(bv:BV)(dss:List (List Dd))(b:Bd)(h:RdBd w bv dss b)(ht:TopBd dss b)(left:Int)(h0:0≤left)(h1:left≤1048576):
  Calls Tryz.prog 6 #[bv.agg,.int .i64 left] w fun e w'=>∃r:Int,e = .returned (.int .i64 r)∧Keep w w'∧(r<0∨(SzBd dss b∧SumBd dss b)):=by
 obtain⟨aW,aP,aL,aN,aX,aT,aF,aR,cW,cP,cL,cQ,cX,cT,cF,cR,rfl⟩:=h.shapes;have HH:=Lib.hid h;have HT:=Lib.hid ht;clear h ht;go_enter Tryz.func6,Tryz.ntmps6
 go_upto_region 1 with fail
 obtain⟨wB,hwB⟩:∃W:World,W=w.alloc (.cells #[.slice aW dss.length cW,.slice aP b.plc.length cP,.slice aL b.lst.length cL,.slice aN b.nts.length cQ,.slice aX b.nxt.length cX,.slice aT b.sn.length cT,.slice aF b.fr.length cF,.slice aR b.rws.length cR] 27):=⟨_,rfl⟩;have kB:Keep w wB:=by rw[hwB];exact (Keep.refl w).alloc _
 have b0:wB.cell? ⟨w.heap.size,0,none⟩=some (.slice aW dss.length cW):=by rw[hwB];exact box_cell (Keep.refl _) 0
 have b1:wB.cell? ⟨w.heap.size,1,none⟩=some (.slice aP b.plc.length cP):=by rw[hwB];exact box_cell (Keep.refl _) 1
 have b2:wB.cell? ⟨w.heap.size,2,none⟩=some (.slice aL b.lst.length cL):=by rw[hwB];exact box_cell (Keep.refl _) 2
 have b3:wB.cell? ⟨w.heap.size,3,none⟩=some (.slice aN b.nts.length cQ):=by rw[hwB];exact box_cell (Keep.refl _) 3
 have b4:wB.cell? ⟨w.heap.size,4,none⟩=some (.slice aX b.nxt.length cX):=by rw[hwB];exact box_cell (Keep.refl _) 4
 have b5:wB.cell? ⟨w.heap.size,5,none⟩=some (.slice aT b.sn.length cT):=by rw[hwB];exact box_cell (Keep.refl _) 5
 have b6:wB.cell? ⟨w.heap.size,6,none⟩=some (.slice aF b.fr.length cF):=by rw[hwB];exact box_cell (Keep.refl _) 6
 have b7:wB.cell? ⟨w.heap.size,7,none⟩=some (.slice aR b.rws.length cR):=by rw[hwB];exact box_cell (Keep.refl _) 7
 rw[←hwB];clear hwB;go_wp2_with fail
 refine (szW_top _ _ dss (HH.out.W.keep kB) left h0 (by omega) HT.out.w1 HT.out.w2).mono ?_;rintro e w' ⟨r0,rfl,rfl,hd⟩;by_cases hneg:r0<0
 ·
  go_wp2;go_ret;exact⟨-1,rfl,kB,.inl (by omega)⟩
 obtain⟨t0,l0⟩:=hd.resolve_left hneg;have g0:0≤r0:=by omega
 clear hd hneg b0;go_wp2_with fail
 refine (szI_top _ _ b.plc (HH.out.P.keep kB) r0 g0 (by omega) HT.out.plc).mono ?_;rintro e w' ⟨r1,rfl,rfl,hd⟩;by_cases hneg:r1<0
 ·
  go_wp2;go_ret;exact⟨-1,rfl,kB,.inl (by omega)⟩
 obtain⟨t1,l1⟩:=hd.resolve_left hneg;have g1:0≤r1:=by omega
 clear hd hneg b1;go_wp2_with fail
 refine (szI_top _ _ b.lst (HH.out.L.keep kB) r1 g1 (by omega) HT.out.lst).mono ?_;rintro e w' ⟨r2,rfl,rfl,hd⟩;by_cases hneg:r2<0
 ·
  go_wp2;go_ret;exact⟨-1,rfl,kB,.inl (by omega)⟩
 obtain⟨t2,l2⟩:=hd.resolve_left hneg;have g2:0≤r2:=by omega
 clear hd hneg b2;go_wp2_with fail
 refine (szNN_top _ _ b.nts (HH.out.N.keep kB) r2 g2 (by omega) HT.out.n1 HT.out.n2).mono ?_;rintro e w' ⟨r3,rfl,rfl,hd⟩;by_cases hneg:r3<0
 ·
  go_wp2;go_ret;exact⟨-1,rfl,kB,.inl (by omega)⟩
 obtain⟨t3,l3⟩:=hd.resolve_left hneg;have g3:0≤r3:=by omega
 clear hd hneg b3;go_wp2_with fail
 refine (szI_top _ _ b.nxt (HH.out.X.keep kB) r3 g3 (by omega) HT.out.nxt).mono ?_;rintro e w' ⟨r4,rfl,rfl,hd⟩;by_cases hneg:r4<0
 ·
  go_wp2;go_ret;exact⟨-1,rfl,kB,.inl (by omega)⟩
 obtain⟨t4,l4⟩:=hd.resolve_left hneg;have g4:0≤r4:=by omega
 clear hd hneg b4;go_wp2_with fail
 refine (szI_top _ _ b.sn (HH.out.S.keep kB) r4 g4 (by omega) HT.out.sn).mono ?_;rintro e w' ⟨r5,rfl,rfl,hd⟩;by_cases hneg:r5<0
 ·
  go_wp2;go_ret;exact⟨-1,rfl,kB,.inl (by omega)⟩
 obtain⟨t5,l5⟩:=hd.resolve_left hneg;have g5:0≤r5:=by omega
 clear hd hneg b5;go_wp2_with fail
 refine (szI_top _ _ b.fr (HH.out.F.keep kB) r5 g5 (by omega) HT.out.fr).mono ?_;rintro e w' ⟨r6,rfl,rfl,hd⟩;by_cases hneg:r6<0
 ·
  go_wp2;go_ret;exact⟨-1,rfl,kB,.inl (by omega)⟩
 obtain⟨t6,l6⟩:=hd.resolve_left hneg;have g6:0≤r6:=by omega
 clear hd hneg b6;go_wp2_with fail
 refine (szII_top _ _ b.rws (HH.out.R.keep kB) r6 g6 (by omega) HT.out.r1 HT.out.r2).mono ?_;rintro e w' ⟨r7,rfl,rfl,hd⟩;by_cases hneg:r7<0
 ·
  go_wp2;go_ret;exact⟨-1,rfl,kB,.inl (by omega)⟩
 obtain⟨t7,l7⟩:=hd.resolve_left hneg;have g7:0≤r7:=by omega
 clear hd hneg b7;go_wp2;go_ret;exact⟨_,rfl,kB,.inr ⟨⟨by omega,fun i hi=>by have:=lenW_get dss i hi;omega,by omega,by omega,by omega,fun i hi=>by have:=lenG_get b.nts i hi;omega,by omega,by omega,by omega,by omega,fun i hi=>by have:=lenG_get b.rws i hi;omega⟩,by omega,by omega,by omega⟩⟩
theorem made_zeros (s n:Nat)(cs:Array Value)(hs:cs=Array.replicate s (.int .i64 0))(h0:0<s):(madeCells cs (n*s)).toList=List.replicate (n*s) (.int .i64 0):=by
 subst hs;unfold madeCells;apply List.ext_getElem
 · simp
 ·
  intro i h1 h2;have hm:i % s<s:=Nat.mod_lt _ h0;simp[hm]
theorem ntr_len (ns:List Nt):(ns.flatMap cN).length=ns.length*3:=by
 induction ns with
 |nil=>rfl
 |cons d r ih=>rw[List.flatMap_cons,List.length_append,ih,List.length_cons];simp[cN];omega
theorem ddr_len (ds:List Dd):(ds.flatMap cD).length=ds.length*4:=by
 induction ds with
 |nil=>rfl
 |cons d r ih=>rw[List.flatMap_cons,List.length_append,ih,List.length_cons];simp[cD];omega
theorem toNote_any (x0 x1 x2:Int)(w:World):
  Calls Tryz.prog 89 #[.agg #[.int .i64 x0,.int .i64 x1,.int .i64 x2]] w fun e w'=>e = .returned (.agg #[.int .i64 x0,.int .i64 x1,.int .i64 x2])∧Keep w w':=by
 go_enter Tryz.func89,Tryz.ntmps89
 go_wp2;refine bodyPost_ret (results_row (by rfl) _ _ (w.heap.size+1) _ _ _ _ rfl (by simp only[heap_at,heap_size];repeat (first|exact if_pos rfl|exact if_pos trivial|rw[if_neg (by omega)])) Tryz.underlying86 rfl (by kernel_rfl)) rfl ?_;exact⟨rfl,(((Keep.refl w).alloc _).alloc _).alloc _⟩
theorem Tryz.infoNr:(Tryz.prog.info? 86).map (fun i=>(i.zero,i.size,i.bytes))=some (some (.agg #[.int .i64 0,.int .i64 0,.int .i64 0]),3,24):=by kernel_rfl
theorem toN_fill (A:List Value)(n:Nat)(z y0 y1 y2:Value):((((A++List.replicate ((n+1)*3) z).set (A.length) y0).set ((A.length+1)) y1).set ((A.length+2)) y2)=A++[y0,y1,y2]++List.replicate (n*3) z:=by
 have e:List.replicate ((n+1)*3) z=z::z::z::List.replicate (n*3) z:=by rw[show (n+1)*3=n*3+1+1+1  by omega];rfl
 rw[e];simp[List.set_cons_succ]
theorem toDd_fill (A:List Value)(n:Nat)(z y0 y1 y2 y3:Value):(((((A++List.replicate ((n+1)*4) z).set (A.length) y0).set ((A.length+1)) y1).set ((A.length+2)) y2).set ((A.length+3)) y3)=A++[y0,y1,y2,y3]++List.replicate (n*4) z:=by
 have e:List.replicate ((n+1)*4) z=z::z::z::z::List.replicate (n*4) z:=by rw[show (n+1)*4=n*4+1+1+1+1  by omega];rfl
 rw[e];simp[List.set_cons_succ]
theorem toN_row (w:World)(v:Value)(ds:List Nt)(h:RdN w v ds)(hn:ds.length≤1048576):
  Calls Tryz.prog 66 #[v] w fun e w'=>∃v',e = .returned v'∧(nvR ds v').own w' w.heap.size∧Keep w w':=by
 obtain⟨a,c,rfl,h⟩:=h;obtain⟨i0,hi,hz0,hz1,hz2⟩:=info_parts Tryz.infoNr;go_enter Tryz.func66,Tryz.ntmps66
 go_wp2_with (at_make;refine wpList_make_full _ rfl _ _ 84 rfl w.heap.size 86 i0 (.agg #[.int .i64 0,.int .i64 0,.int .i64 0]) 3 Tryz.underlying84 hi hz0 hz1 .i64 .i64 _ _ ds.length rfl rfl rfl rfl (by rw[hz2];omega) (by unfold maxLen;omega) (Nat.le_refl _) ?_;intro w1 hown hgrow)
 have hk1:Keep w w1:=(Keep.refl w).grown hgrow (by simp);rw[made_zeros 3 ds.length (Value.cells (.agg #[.int .i64 0,.int .i64 0,.int .i64 0])) (by rfl) (by omega)] at hown;have B1:w1.ownsRow w.heap.size 86 3 (.slice (some ⟨w.heap.size,0,none⟩) ds.length ds.length) ds.length ((ds.take 0).flatMap cN++List.replicate ((ds.length-0)*3) (.int .i64 0)):=by simpa using hown
 clear hown hgrow hi hz0 hz1 hz2;go_loopw [4] (fun i wr=>∃j:Nat,j≤ds.length∧i = .int .i64 j∧wr.ownsRow w.heap.size 86 3 (.slice (some ⟨w.heap.size,0,none⟩) ds.length ds.length) ds.length ((ds.take j).flatMap cN++List.replicate ((ds.length-j)*3) (.int .i64 0))∧Keep w wr) (fun i _=>ds.length-(intOf i).toNat)
 case atStart=>exact⟨0,Nat.zero_le _,rfl,B1,hk1⟩
 case round=>
  obtain⟨j,hj,rfl,hB,hK⟩:=hrel;clear B1 hk1;by_cases hlt:j<ds.length
  ·
   rcases h with h|⟨b,o,rfl,hb,hc⟩
   · exfalso;rw[h] at hlt;simp at hlt
   obtain⟨d0,d1,d2⟩:=atN ((hc j _ (nts_get hlt)).keep hb hK);obtain⟨d,hd⟩:∃d,d=ds.getD j zN:=⟨_,rfl⟩;have HD:=Lib.hid hd;rw[←hd] at d0 d1 d2;have hbs:b<wr.heap.size:=Nat.lt_of_lt_of_le hb hK.size;have hal:((ds.take j).flatMap cN).length=j*3:=by rw[ntr_len,List.length_take,Nat.min_eq_left hj]
   have hT:(ds.take (j+1)).flatMap cN=(ds.take j).flatMap cN++cN d:=by
    rw[List.take_add_one,List.getElem?_eq_getElem hlt,List.flatMap_append,hd,List.getD_eq_getElem?_getD,List.getElem?_eq_getElem hlt];simp
   have hS:(ds.length-j)*3=((ds.length-(j+1))+1)*3:=by rw[show ds.length-j=(ds.length-(j+1))+1 by omega]
   rw[hS] at hB;clear hc hd;go_wp2_with fail
   refine (toNote_any _ _ _ _).mono ?_;rintro e w2 ⟨rfl,k2⟩;have B2:=World.ownsRow.kept hB k2.grownBy (.inr (by simp[Value.ownBlock]));have e0:=World.ownsRow.cellAt B2 (j*3) (by omega);have f0:=World.ownsRow.frozenAt B2 (j*3);have e1:=World.ownsRow.cellAt B2 (j*3+1) (by omega);have f1:=World.ownsRow.frozenAt B2 (j*3+1);have e2:=World.ownsRow.cellAt B2 (j*3+2) (by omega);have f2:=World.ownsRow.frozenAt B2 (j*3+2);have hln:((ds.take j).flatMap cN++List.replicate ((ds.length-(j+1)+1)*3) (Value.int .i64 0)).length=ds.length*3:=B2.1;obtain⟨u0,hu0⟩:∃u,((ds.take j).flatMap cN++List.replicate ((ds.length-(j+1)+1)*3) (Value.int .i64 0))[j*3]? = some u:=⟨_,List.getElem?_eq_getElem (by rw[hln];omega)⟩;rw[hu0] at e0;obtain⟨u1,hu1⟩:∃u,((ds.take j).flatMap cN++List.replicate ((ds.length-(j+1)+1)*3) (Value.int .i64 0))[j*3+1]? = some u:=⟨_,List.getElem?_eq_getElem (by rw[hln];omega)⟩;rw[hu1] at e1;obtain⟨u2,hu2⟩:∃u,((ds.take j).flatMap cN++List.replicate ((ds.length-(j+1)+1)*3) (Value.int .i64 0))[j*3+2]? = some u:=⟨_,List.getElem?_eq_getElem (by rw[hln];omega)⟩;rw[hu2] at e2;have S0:=World.ownsRow.stored B2 (j*3) (.int .i64 d.1);have S1:=World.ownsRow.stored S0.1 (j*3+1) (.int .i64 d.2.1);have S2:=World.ownsRow.stored S1.1 (j*3+2) (.int .i64 d.2.2);have HF:Hid (_=_):=Lib.hid (toN_fill ((ds.take j).flatMap cN) (ds.length-(j+1)) (.int .i64 0) (.int .i64 d.1) (.int .i64 d.2.1) (.int .i64 d.2.2));rw[hal] at HF;have KK:Keep w _:=(((hK.trans k2).grown S0.2 (fun q hq=>by simp at hq;omega)).grown S1.2 (fun q hq=>by simp at hq;omega)).grown S2.2 (fun q hq=>by simp at hq;omega);have HKK:=Lib.hid KK;have HOW:=Lib.hid (S2.1);have HTT:=Lib.hid hT;clear S0 S1 S2 KK hT hS hln hu0 hu1 hu2 hal hB;go_wp2;go_roundw
   case rel=>
    refine⟨j+1,by omega,by go_num,?_,HKK.out⟩;have o:=HOW.out;rw[HF.out] at o;rw[HTT.out];exact o
   case measure=>simp[intOf];omega
  ·
   obtain rfl:j=ds.length:=by omega
   have hB2:(nvR ds (.slice (some ⟨w.heap.size,0,none⟩) ds.length ds.length)).own wr w.heap.size:=by
    show wr.ownsRow _ _ _ _ _ _
    simpa using hB
   have HB2:=Lib.hid hB2;clear hB hB2;go_wp2;go_ret;exact⟨_,rfl,HB2.out,hK⟩
theorem toDd_row (w:World)(v:Value)(ds:List Dd)(h:RdD w v ds)(hn:ds.length≤1048576):
  Calls Tryz.prog 49 #[v] w fun e w'=>∃v',e = .returned v'∧(ddR ds v').own w' w.heap.size∧Keep w w':=by
 obtain⟨a,c,rfl,h⟩:=h;obtain⟨i0,hi,hz0,hz1,hz2⟩:=info_parts Tryz.infoD;go_enter Tryz.func49,Tryz.ntmps49
 go_wp2_with (at_make;refine wpList_make_full _ rfl _ _ 72 rfl w.heap.size 90 i0 (.agg #[.int .i64 0,.int .i64 0,.int .i64 0,.int .i64 0]) 4 Tryz.underlying72 hi hz0 hz1 .i64 .i64 _ _ ds.length rfl rfl rfl rfl (by rw[hz2];omega) (by unfold maxLen;omega) (Nat.le_refl _) ?_;intro w1 hown hgrow)
 have hk1:Keep w w1:=(Keep.refl w).grown hgrow (by simp);rw[made_zeros 4 ds.length (Value.cells (.agg #[.int .i64 0,.int .i64 0,.int .i64 0,.int .i64 0])) (by rfl) (by omega)] at hown;have B1:w1.ownsRow w.heap.size 90 4 (.slice (some ⟨w.heap.size,0,none⟩) ds.length ds.length) ds.length ((ds.take 0).flatMap cD++List.replicate ((ds.length-0)*4) (.int .i64 0)):=by simpa using hown
 clear hown hgrow hi hz0 hz1 hz2;go_loopw [4] (fun i wr=>∃j:Nat,j≤ds.length∧i = .int .i64 j∧wr.ownsRow w.heap.size 90 4 (.slice (some ⟨w.heap.size,0,none⟩) ds.length ds.length) ds.length ((ds.take j).flatMap cD++List.replicate ((ds.length-j)*4) (.int .i64 0))∧Keep w wr) (fun i _=>ds.length-(intOf i).toNat)
 case atStart=>exact⟨0,Nat.zero_le _,rfl,B1,hk1⟩
 case round=>
  obtain⟨j,hj,rfl,hB,hK⟩:=hrel;clear B1 hk1;by_cases hlt:j<ds.length
  ·
   rcases h with h|⟨b,o,rfl,hb,hc⟩
   · exfalso;rw[h] at hlt;simp at hlt
   obtain⟨d0,d1,d2,d3⟩:=(hc j hlt).keep hb hK;obtain⟨d,hd⟩:∃d,d=ds.getD j zD:=⟨_,rfl⟩;have HD:=Lib.hid hd;rw[←hd] at d0 d1 d2 d3;have hbs:b<wr.heap.size:=Nat.lt_of_lt_of_le hb hK.size;have hal:((ds.take j).flatMap cD).length=j*4:=by rw[ddr_len,List.length_take,Nat.min_eq_left hj]
   have hT:(ds.take (j+1)).flatMap cD=(ds.take j).flatMap cD++cD d:=by
    rw[List.take_add_one,List.getElem?_eq_getElem hlt,List.flatMap_append,hd,List.getD_eq_getElem?_getD,List.getElem?_eq_getElem hlt];simp
   have hS:(ds.length-j)*4=((ds.length-(j+1))+1)*4:=by rw[show ds.length-j=(ds.length-(j+1))+1 by omega]
   rw[hS] at hB;clear hc hd;go_wp2_with fail
   refine (toDeed_any _ _ _ _ _).mono ?_;rintro e w2 ⟨rfl,k2⟩;have B2:=World.ownsRow.kept hB k2.grownBy (.inr (by simp[Value.ownBlock]));have e0:=World.ownsRow.cellAt B2 (j*4) (by omega);have f0:=World.ownsRow.frozenAt B2 (j*4);have e1:=World.ownsRow.cellAt B2 (j*4+1) (by omega);have f1:=World.ownsRow.frozenAt B2 (j*4+1);have e2:=World.ownsRow.cellAt B2 (j*4+2) (by omega);have f2:=World.ownsRow.frozenAt B2 (j*4+2);have e3:=World.ownsRow.cellAt B2 (j*4+3) (by omega);have f3:=World.ownsRow.frozenAt B2 (j*4+3);have hln:((ds.take j).flatMap cD++List.replicate ((ds.length-(j+1)+1)*4) (Value.int .i64 0)).length=ds.length*4:=B2.1;obtain⟨u0,hu0⟩:∃u,((ds.take j).flatMap cD++List.replicate ((ds.length-(j+1)+1)*4) (Value.int .i64 0))[j*4]? = some u:=⟨_,List.getElem?_eq_getElem (by rw[hln];omega)⟩;rw[hu0] at e0;obtain⟨u1,hu1⟩:∃u,((ds.take j).flatMap cD++List.replicate ((ds.length-(j+1)+1)*4) (Value.int .i64 0))[j*4+1]? = some u:=⟨_,List.getElem?_eq_getElem (by rw[hln];omega)⟩;rw[hu1] at e1;obtain⟨u2,hu2⟩:∃u,((ds.take j).flatMap cD++List.replicate ((ds.length-(j+1)+1)*4) (Value.int .i64 0))[j*4+2]? = some u:=⟨_,List.getElem?_eq_getElem (by rw[hln];omega)⟩;rw[hu2] at e2;obtain⟨u3,hu3⟩:∃u,((ds.take j).flatMap cD++List.replicate ((ds.length-(j+1)+1)*4) (Value.int .i64 0))[j*4+3]? = some u:=⟨_,List.getElem?_eq_getElem (by rw[hln];omega)⟩;rw[hu3] at e3;have S0:=World.ownsRow.stored B2 (j*4) (.int .i64 d.1);have S1:=World.ownsRow.stored S0.1 (j*4+1) (.int .i64 d.2.1);have S2:=World.ownsRow.stored S1.1 (j*4+2) (.int .i64 d.2.2.1);have S3:=World.ownsRow.stored S2.1 (j*4+3) (.int .i64 d.2.2.2);have HF:Hid (_=_):=Lib.hid (toDd_fill ((ds.take j).flatMap cD) (ds.length-(j+1)) (.int .i64 0) (.int .i64 d.1) (.int .i64 d.2.1) (.int .i64 d.2.2.1) (.int .i64 d.2.2.2));rw[hal] at HF;have KK:Keep w _:=((((hK.trans k2).grown S0.2 (fun q hq=>by simp at hq;omega)).grown S1.2 (fun q hq=>by simp at hq;omega)).grown S2.2 (fun q hq=>by simp at hq;omega)).grown S3.2 (fun q hq=>by simp at hq;omega);have HKK:=Lib.hid KK;have HOW:=Lib.hid (S3.1);have HTT:=Lib.hid hT;clear S0 S1 S2 S3 KK hT hS hln hu0 hu1 hu2 hu3 hal hB;go_wp2;go_roundw
   case rel=>
    refine⟨j+1,by omega,by go_num,?_,HKK.out⟩;have o:=HOW.out;rw[HF.out] at o;rw[HTT.out];exact o
   case measure=>simp[intOf];omega
  ·
   obtain rfl:j=ds.length:=by omega
   have hB2:(ddR ds (.slice (some ⟨w.heap.size,0,none⟩) ds.length ds.length)).own wr w.heap.size:=by
    show wr.ownsRow _ _ _ _ _ _
    simpa using hB
   have HB2:=Lib.hid hB2;clear hB hB2;go_wp2;go_ret;exact⟨_,rfl,HB2.out,hK⟩
theorem toNN_own (w:World)(v:Value)(xss:List (List Nt))(h:RdNN w v xss)(hn:xss.length≤1048576)(hm:∀i,i<xss.length→(xss.getD i []).length≤1048576):
  Calls Tryz.prog 32 #[v] w fun e w'=>∃v' hs,e = .returned v'∧OwnLL 84 nvR w' w.heap.size v' hs xss∧Keep w w':=by
 obtain⟨a,c,rfl,h⟩:=h;obtain⟨i0,hi,hz0,hz1,hz2⟩:=info_parts Tryz.infoNl;go_enter Tryz.func32,Tryz.ntmps32
 go_wp2_with (at_make;refine wpList_make_full _ rfl _ _ 30 rfl w.heap.size 84 i0 (.slice none 0 0) 1 Tryz.underlying30 hi hz0 hz1 .i64 .i64 _ _ xss.length rfl rfl rfl rfl (by rw[hz2];omega) (by unfold maxLen;omega) (Nat.le_refl _) ?_;intro w1 hown hgrow)
 have hk1:Keep w w1:=(Keep.refl w).grown hgrow (by simp);rw[Nat.mul_one,show (Value.slice none 0 0).cells=#[.slice none 0 0] from rfl,toList_madeCells_one] at hown;have B1:LLP 84 nvR w1 w.heap.size (.slice (some ⟨w.heap.size,0,none⟩) xss.length xss.length) (List.replicate xss.length nilS) xss 0:=LLP.new (by show w1.ownsRow _ _ _ _ _ _;simpa using hown) (fun _ _=>rfl);clear hown hgrow hi hz0 hz1 hz2;go_loopw [4] (fun i wr=>∃(j:Nat) (hs:List Value),j≤xss.length∧i = .int .i64 j∧LLP 84 nvR wr w.heap.size (.slice (some ⟨w.heap.size,0,none⟩) xss.length xss.length) hs xss j∧Keep w wr) (fun i _=>xss.length-(intOf i).toNat)
 case atStart=>exact⟨0,_,Nat.zero_le _,rfl,B1,hk1⟩
 case round=>
  obtain⟨j,hs,hj,rfl,hB,hK⟩:=hrel;clear B1 hk1;by_cases hlt:j<xss.length
  ·
   rcases h with h|⟨b,o,rfl,hb,hc⟩
   · exfalso;rw[h] at hlt;simp at hlt
   obtain⟨u,e0,r0⟩:=hc j hlt;have e1:=(hK.cell hb).trans e0;have r1:=r0.keep hK;have hbs:b<wr.heap.size:=Nat.lt_of_lt_of_le hb hK.size;have hmj:=hm j hlt;have hsz:=hK.size;clear hc e0 r0;go_wp2_with fail
   refine (toN_row _ _ _ r1 hmj).mono ?_;rintro e w2 ⟨v',rfl,o2,k2⟩;have o3:(nvR (xss.getD j []) v').own w2 w.heap.size:=own_base o2 hsz;obtain⟨Q1,Q2,Q3,Q4,Q5⟩:=hB.step hlt k2 o3 (fun q hq=>(World.ownsRow.lt o2 q hq).1) (g:=w.heap.size) (cap:=xss.length) (by rw[hB.len]);have K3:=(hK.trans k2).grown Q4 (fun q hq=>by have:=Option.some.inj hq;omega);have HQ:=Lib.hid Q1;have HK:=Lib.hid K3
   obtain⟨a',c',hv'⟩:∃a' c',v' = .slice a' (xss.getD j []).length c':=by
    rcases o2.2 with ⟨e,hn'⟩|⟨g,cap,cur,e,_⟩
    · exact⟨none,0,by rw[show (xss.getD j []).length=0 from hn'];exact e⟩
    · exact⟨_,_,e⟩
   generalize hlen':(xss.getD j []).length=len' at hv';clear hlen' Q1 K3 o3 o2;subst hv';go_wp2;go_roundw;case rel=>exact⟨j+1,_,by omega,by go_num,HQ.out,HK.out⟩
   case measure=>simp[intOf];omega
  ·
   obtain rfl:j=xss.length:=by omega
   have HB:=Lib.hid hB.all;clear hB;go_wp2;go_ret;exact⟨_,_,rfl,HB.out,hK⟩
theorem toII_own (w:World)(v:Value)(xss:List (List Int))(h:RdL w v xss)(hn:xss.length≤1048576)(hm:∀i,i<xss.length→(xss.getD i []).length≤1048576):
  Calls Tryz.prog 33 #[v] w fun e w'=>∃v' hs,e = .returned v'∧OwnLL 23 ivR w' w.heap.size v' hs xss∧Keep w w':=by
 obtain⟨a,c,rfl,h⟩:=h;obtain⟨i0,hi,hz0,hz1,hz2⟩:=info_parts Tryz.infoIl;go_enter Tryz.func33,Tryz.ntmps33
 go_wp2_with (at_make;refine wpList_make_full _ rfl _ _ 25 rfl w.heap.size 23 i0 (.slice none 0 0) 1 Tryz.underlying25 hi hz0 hz1 .i64 .i64 _ _ xss.length rfl rfl rfl rfl (by rw[hz2];omega) (by unfold maxLen;omega) (Nat.le_refl _) ?_;intro w1 hown hgrow)
 have hk1:Keep w w1:=(Keep.refl w).grown hgrow (by simp);rw[Nat.mul_one,show (Value.slice none 0 0).cells=#[.slice none 0 0] from rfl,toList_madeCells_one] at hown;have B1:LLP 23 ivR w1 w.heap.size (.slice (some ⟨w.heap.size,0,none⟩) xss.length xss.length) (List.replicate xss.length nilS) xss 0:=LLP.new (by show w1.ownsRow _ _ _ _ _ _;simpa using hown) (fun _ _=>rfl);clear hown hgrow hi hz0 hz1 hz2;go_loopw [4] (fun i wr=>∃(j:Nat) (hs:List Value),j≤xss.length∧i = .int .i64 j∧LLP 23 ivR wr w.heap.size (.slice (some ⟨w.heap.size,0,none⟩) xss.length xss.length) hs xss j∧Keep w wr) (fun i _=>xss.length-(intOf i).toNat)
 case atStart=>exact⟨0,_,Nat.zero_le _,rfl,B1,hk1⟩
 case round=>
  obtain⟨j,hs,hj,rfl,hB,hK⟩:=hrel;clear B1 hk1;by_cases hlt:j<xss.length
  ·
   rcases h with h|⟨b,o,rfl,hb,hc⟩
   · exfalso;rw[h] at hlt;simp at hlt
   obtain⟨u,e0,r0⟩:=hc j hlt;have e1:=(hK.cell hb).trans e0;have r1:=r0.keep hK;have hbs:b<wr.heap.size:=Nat.lt_of_lt_of_le hb hK.size;have hmj:=hm j hlt;have hsz:=hK.size;clear hc e0 r0;go_wp2_with fail
   refine (to_any _ _ _ r1 hmj).mono ?_;rintro e w2 ⟨v',rfl,o2,k2⟩;have o3:(ivR (xss.getD j []) v').own w2 w.heap.size:=own_base o2 hsz;obtain⟨Q1,Q2,Q3,Q4,Q5⟩:=hB.step hlt k2 o3 (fun q hq=>(World.ownsRow.lt o2 q hq).1) (g:=w.heap.size) (cap:=xss.length) (by rw[hB.len]);have K3:=(hK.trans k2).grown Q4 (fun q hq=>by have:=Option.some.inj hq;omega);have HQ:=Lib.hid Q1;have HK:=Lib.hid K3
   obtain⟨a',c',hv'⟩:∃a' c',v' = .slice a' (xss.getD j []).length c':=by
    rcases o2.2 with ⟨e,hn'⟩|⟨g,cap,cur,e,_⟩
    · exact⟨none,0,by rw[show (xss.getD j []).length=0 from hn'];exact e⟩
    · exact⟨_,_,e⟩
   generalize hlen':(xss.getD j []).length=len' at hv';clear hlen' Q1 K3 o3 o2;subst hv';go_wp2;go_roundw;case rel=>exact⟨j+1,_,by omega,by go_num,HQ.out,HK.out⟩
   case measure=>simp[intOf];omega
  ·
   obtain rfl:j=xss.length:=by omega
   have HB:=Lib.hid hB.all;clear hB;go_wp2;go_ret;exact⟨_,_,rfl,HB.out,hK⟩
theorem toDD_own (w:World)(v:Value)(xss:List (List Dd))(h:RdW w v xss)(hn:xss.length≤1048576)(hm:∀i,i<xss.length→(xss.getD i []).length≤1048576):
  Calls Tryz.prog 15 #[v] w fun e w'=>∃v' hs,e = .returned v'∧OwnLL 72 ddR w' w.heap.size v' hs xss∧Keep w w':=by
 obtain⟨a,c,rfl,h⟩:=h;obtain⟨i0,hi,hz0,hz1,hz2⟩:=info_parts Tryz.infoDS;go_enter Tryz.func15,Tryz.ntmps15
 go_wp2_with (at_make;refine wpList_make_full _ rfl _ _ 29 rfl w.heap.size 72 i0 (.slice none 0 0) 1 Tryz.underlying29 hi hz0 hz1 .i64 .i64 _ _ xss.length rfl rfl rfl rfl (by rw[hz2];omega) (by unfold maxLen;omega) (Nat.le_refl _) ?_;intro w1 hown hgrow)
 have hk1:Keep w w1:=(Keep.refl w).grown hgrow (by simp);rw[Nat.mul_one,show (Value.slice none 0 0).cells=#[.slice none 0 0] from rfl,toList_madeCells_one] at hown;have B1:LLP 72 ddR w1 w.heap.size (.slice (some ⟨w.heap.size,0,none⟩) xss.length xss.length) (List.replicate xss.length nilS) xss 0:=LLP.new (by show w1.ownsRow _ _ _ _ _ _;simpa using hown) (fun _ _=>rfl);clear hown hgrow hi hz0 hz1 hz2;go_loopw [4] (fun i wr=>∃(j:Nat) (hs:List Value),j≤xss.length∧i = .int .i64 j∧LLP 72 ddR wr w.heap.size (.slice (some ⟨w.heap.size,0,none⟩) xss.length xss.length) hs xss j∧Keep w wr) (fun i _=>xss.length-(intOf i).toNat)
 case atStart=>exact⟨0,_,Nat.zero_le _,rfl,B1,hk1⟩
 case round=>
  obtain⟨j,hs,hj,rfl,hB,hK⟩:=hrel;clear B1 hk1;by_cases hlt:j<xss.length
  ·
   rcases h with h|⟨b,o,rfl,hb,hc⟩
   · exfalso;rw[h] at hlt;simp at hlt
   obtain⟨u,e0,r0⟩:=hc j hlt;have e1:=(hK.cell hb).trans e0;have r1:=r0.keep hK;have hbs:b<wr.heap.size:=Nat.lt_of_lt_of_le hb hK.size;have hmj:=hm j hlt;have hsz:=hK.size;clear hc e0 r0;go_wp2_with fail
   refine (toDd_row _ _ _ r1 hmj).mono ?_;rintro e w2 ⟨v',rfl,o2,k2⟩;have o3:(ddR (xss.getD j []) v').own w2 w.heap.size:=own_base o2 hsz;obtain⟨Q1,Q2,Q3,Q4,Q5⟩:=hB.step hlt k2 o3 (fun q hq=>(World.ownsRow.lt o2 q hq).1) (g:=w.heap.size) (cap:=xss.length) (by rw[hB.len]);have K3:=(hK.trans k2).grown Q4 (fun q hq=>by have:=Option.some.inj hq;omega);have HQ:=Lib.hid Q1;have HK:=Lib.hid K3
   obtain⟨a',c',hv'⟩:∃a' c',v' = .slice a' (xss.getD j []).length c':=by
    rcases o2.2 with ⟨e,hn'⟩|⟨g,cap,cur,e,_⟩
    · exact⟨none,0,by rw[show (xss.getD j []).length=0 from hn'];exact e⟩
    · exact⟨_,_,e⟩
   generalize hlen':(xss.getD j []).length=len' at hv';clear hlen' Q1 K3 o3 o2;subst hv';go_wp2;go_roundw;case rel=>exact⟨j+1,_,by omega,by go_num,HQ.out,HK.out⟩
   case measure=>simp[intOf];omega
  ·
   obtain rfl:j=xss.length:=by omega
   have HB:=Lib.hid hB.all;clear hB;go_wp2;go_ret;exact⟨_,_,rfl,HB.out,hK⟩
theorem box8_set {w:World}{D k:Nat}{cs:Array Value}{t:TypeId}(h:w.heap[D]? = some (.cells cs t (0,0)))(hk:k<cs.size)(x:Value):(w.setCell ⟨D,k,none⟩ x).heap[D]? = some (.cells (cs.setIfInBounds k x) t (0,0))∧(∃u,w.cell? ⟨D,k,none⟩=some u)∧w.frozen? ⟨D,k,none⟩=false:=
 ⟨heap_setCell_same w D k _ _ _ h,⟨cs[k],by rw[cell_of_row w D k _ _ _ h,Array.getElem?_eq_getElem hk]⟩,frozen_of_row w D k _ _ h⟩
theorem LL.far {α:Type}{t:TypeId}{rowOf:List α→Value→Rw}{w w':World}{m:Nat}{v:Value}{hs:List Value}{xss:List (List α)}(h:OwnLL t rowOf w m v hs xss){g:Nat}(hg:w.grownBy w' (some g))(hl:g<m):OwnLL t rowOf w' m v hs xss:=
 ⟨h.fam.far hg (fun i hi=>by
  cases e:(llR t rowOf v hs xss i).v.ownBlock with
  |none=>exact .inl rfl
  |some k=>exact .inr (fun e'=>by have:=(h.fam.lt hi k e).1;have:=Option.some.inj e';omega)),h.len⟩
theorem Own.far {w w':World}{m:Nat}{v:Value}{zs:List Int}(h:Own w m v zs){g:Nat}(hg:w.grownBy w' (some g))(hl:g<m):Own w' m v zs:=
 h.kept hg (by
  cases e:v.ownBlock with
  |none=>exact .inl rfl
  |some k=>exact .inr (fun e'=>by have:=h.ge k e;have:=Option.some.inj e';omega))
theorem ll_shape {α:Type}{t:TypeId}{rowOf:List α→Value→Rw}{w:World}{m:Nat}{v:Value}{hs:List Value}{xss:List (List α)}(h:OwnLL t rowOf w m v hs xss):∃a c,v = .slice a xss.length c:=by
 obtain⟨a,c,e,_⟩:=own_head (h.fam.own none trivial);rw[h.len] at e;exact⟨a,c,e⟩
theorem toBoard_any (w:World)(bv:BV)(dss:List (List Dd))(b:Bd)(h:RdBd w bv dss b)(hz:SzBd dss b):
  Calls Tryz.prog 8 #[bv.agg] w fun e w'=>∃bv' nv rv wv,e = .returned (BV.agg bv')∧OwnA w' w.heap.size bv' nv rv wv dss b∧Keep w w':=by
 obtain⟨aW,aP,aL,aN,aX,aT,aF,aR,cW,cP,cL,cQ,cX,cT,cF,cR,rfl⟩:=h.shapes;have HH:=Lib.hid h;have HZ:=Lib.hid hz;clear h hz;go_enter Tryz.func8,Tryz.ntmps8
 go_upto_region 2 with fail
 obtain⟨w0,hw0⟩:∃W:World,W=((w.alloc (.cells #[.slice aW dss.length cW,.slice aP b.plc.length cP,.slice aL b.lst.length cL,.slice aN b.nts.length cQ,.slice aX b.nxt.length cX,.slice aT b.sn.length cT,.slice aF b.fr.length cF,.slice aR b.rws.length cR] 27)).alloc (.cells #[nilS,nilS,nilS,nilS,nilS,nilS,nilS,nilS] 32)).alloc (.cells #[nilS,nilS,nilS,nilS,nilS,nilS,nilS,nilS] 32):=⟨_,rfl⟩;have K0:Keep w w0:=by rw[hw0];exact (((Keep.refl w).alloc _).alloc _).alloc _
 have z0:w0.heap.size=w.heap.size+1+1+1:=by rw[hw0,heap_size,heap_size,heap_size]
 have hB0:w0.heap[w.heap.size]? = some (.cells #[.slice aW dss.length cW,.slice aP b.plc.length cP,.slice aL b.lst.length cL,.slice aN b.nts.length cQ,.slice aX b.nxt.length cX,.slice aT b.sn.length cT,.slice aF b.fr.length cF,.slice aR b.rws.length cR] 27 (0,0)):=by rw[hw0];exact box_heap (((Keep.refl _).alloc _).alloc _)
 have hR0:w0.heap[w.heap.size+1]? = some (.cells #[nilS,nilS,nilS,nilS,nilS,nilS,nilS,nilS] 32 (0,0)):=by rw[hw0,←heap_size w (.cells #[.slice aW dss.length cW,.slice aP b.plc.length cP,.slice aL b.lst.length cL,.slice aN b.nts.length cQ,.slice aX b.nxt.length cX,.slice aT b.sn.length cT,.slice aF b.fr.length cF,.slice aR b.rws.length cR] 27)];exact box_heap ((Keep.refl _).alloc _)
 have hD0:w0.heap[w.heap.size+1+1]? = some (.cells #[nilS,nilS,nilS,nilS,nilS,nilS,nilS,nilS] 32 (0,0)):=by rw[hw0,←heap_size w (.cells #[.slice aW dss.length cW,.slice aP b.plc.length cP,.slice aL b.lst.length cL,.slice aN b.nts.length cQ,.slice aX b.nxt.length cX,.slice aT b.sn.length cT,.slice aF b.fr.length cF,.slice aR b.rws.length cR] 27),←heap_size (w.alloc (.cells #[.slice aW dss.length cW,.slice aP b.plc.length cP,.slice aL b.lst.length cL,.slice aN b.nts.length cQ,.slice aX b.nxt.length cX,.slice aT b.sn.length cT,.slice aF b.fr.length cF,.slice aR b.rws.length cR] 27)) (.cells #[nilS,nilS,nilS,nilS,nilS,nilS,nilS,nilS] 32)];exact heap_alloc_new _ _
 rw[←hw0];clear hw0;have Z0:=Lib.hid z0;have y0:w.heap.size+1+1<w0.heap.size:=by omega
 clear z0;have c0:w0.cell? ⟨w.heap.size,0,none⟩=some (.slice aW dss.length cW):=by rw[cell_of_row w0 _ 0 _ _ _ hB0];rfl
 go_wp2_with fail
 refine (toDD_own _ _ dss (HH.out.W.keep K0) HZ.out.w1 HZ.out.w2).mono ?_;rintro e u0 ⟨v0,wv,rfl,o0,k0⟩;have hDu0:=(Below.block k0 (w.heap.size+1+1) (by omega)).trans hD0;have hBu0:=(Below.block k0 w.heap.size (by omega)).trans hB0;have hRu0:=(Below.block k0 (w.heap.size+1) (by omega)).trans hR0;obtain⟨hD1,⟨uu0,x0⟩,f0⟩:=box8_set hDu0 (show 0<8 by omega) v0;have G0:=grown_set u0 (w.heap.size+1+1) 0 v0;have hB1:=(G0.block w.heap.size (by have:=k0.size;omega) (fun e=>by have:=Option.some.inj e;omega)).trans hBu0;have hR1:=(G0.block (w.heap.size+1) (by have:=k0.size;omega) (fun e=>by have:=Option.some.inj e;omega)).trans hRu0;have K1:Keep w (u0.setCell ⟨w.heap.size+1+1,0,none⟩ v0):=(K0.trans k0).grown G0 (fun q hq=>by have:=Option.some.inj hq;omega);have g0:w0.grownBy (u0.setCell ⟨w.heap.size+1+1,0,none⟩ v0) (some (w.heap.size+1+1)):=grown_trans ⟨Below.os k0,Below.tape k0,Below.output k0,Below.size k0,fun j hj _=>Below.block k0 j hj⟩ G0;have L0:∀oo,llLive wv.length oo→∀q,(llR 72 ddR v0 wv dss oo).v.ownBlock=some q→q<(u0.setCell ⟨w.heap.size+1+1,0,none⟩ v0).heap.size:=fun oo ho q hq=>Nat.lt_of_lt_of_le (o0.fam.lt ho q hq).2 G0.size
 obtain⟨p0,q0,e0⟩:=ll_shape o0;have O0:=LL.far o0 G0 y0;have sz0:w0.heap.size≤(u0.setCell ⟨w.heap.size+1+1,0,none⟩ v0).heap.size:=g0.size;have y1:w.heap.size+1+1<(u0.setCell ⟨w.heap.size+1+1,0,none⟩ v0).heap.size:=by omega
 simp only[List.setIfInBounds_toArray,List.set_cons_zero] at hD1;subst e0;obtain⟨w1,hw1⟩:∃W:World,W=u0.setCell ⟨w.heap.size+1+1,0,none⟩ (.slice p0 dss.length q0):=⟨_,rfl⟩;rw[←hw1] at hD1 hB1 hR1 K1 L0 O0 sz0 y1;have HW1:=Lib.hid hw1;have HL0:=Lib.hid L0;clear hw1 c0 o0 k0 hDu0 hBu0 hRu0 G0 g0 hD0 hB0 hR0 L0;go_upto_region 3 with fail
 rw[←HW1.out];clear HW1 x0 f0;have c1:w1.cell? ⟨w.heap.size,1,none⟩=some (.slice aP b.plc.length cP):=by rw[cell_of_row w1 _ 1 _ _ _ hB1];rfl
 go_wp2_with fail
 refine (to_any _ _ b.plc (HH.out.P.keep K1) HZ.out.plc).mono ?_;rintro e u1 ⟨v1,rfl,o1,k1⟩;have hDu1:=(Below.block k1 (w.heap.size+1+1) (by omega)).trans hD1;have hBu1:=(Below.block k1 w.heap.size (by omega)).trans hB1;have hRu1:=(Below.block k1 (w.heap.size+1) (by omega)).trans hR1;obtain⟨hD2,⟨uu1,x1⟩,f1⟩:=box8_set hDu1 (show 1<8 by omega) v1;have G1:=grown_set u1 (w.heap.size+1+1) 1 v1;have hB2:=(G1.block w.heap.size (by have:=k1.size;omega) (fun e=>by have:=Option.some.inj e;omega)).trans hBu1;have hR2:=(G1.block (w.heap.size+1) (by have:=k1.size;omega) (fun e=>by have:=Option.some.inj e;omega)).trans hRu1;have K2:Keep w (u1.setCell ⟨w.heap.size+1+1,1,none⟩ v1):=(K1.trans k1).grown G1 (fun q hq=>by have:=Option.some.inj hq;omega);have g1:w1.grownBy (u1.setCell ⟨w.heap.size+1+1,1,none⟩ v1) (some (w.heap.size+1+1)):=grown_trans ⟨Below.os k1,Below.tape k1,Below.output k1,Below.size k1,fun j hj _=>Below.block k1 j hj⟩ G1;have L1:∀q,v1.ownBlock=some q→q<(u1.setCell ⟨w.heap.size+1+1,1,none⟩ v1).heap.size:=fun q hq=>Nat.lt_of_lt_of_le (World.ownsRow.lt o1 q hq).2 G1.size
 obtain⟨p1,q1,e1,-⟩:=o1.rd;have O1:=Own.far o1 G1 y1;replace O0:=LL.far O0 g1 (by omega);have sz1:w1.heap.size≤(u1.setCell ⟨w.heap.size+1+1,1,none⟩ v1).heap.size:=g1.size;have y2:w.heap.size+1+1<(u1.setCell ⟨w.heap.size+1+1,1,none⟩ v1).heap.size:=by omega
 simp only[List.setIfInBounds_toArray,List.set_cons_zero,List.set_cons_succ] at hD2;subst e1;obtain⟨w2,hw2⟩:∃W:World,W=u1.setCell ⟨w.heap.size+1+1,1,none⟩ (.slice p1 b.plc.length q1):=⟨_,rfl⟩;rw[←hw2] at hD2 hB2 hR2 K2 L1 O0 O1 sz1 y2;have HW2:=Lib.hid hw2;have HL1:=Lib.hid L1;clear hw2 c1 o1 k1 hDu1 hBu1 hRu1 G1 g1 hD1 hB1 hR1 L1;go_upto_region 4 with fail
 rw[←HW2.out];clear HW2 x1 f1;have c2:w2.cell? ⟨w.heap.size,2,none⟩=some (.slice aL b.lst.length cL):=by rw[cell_of_row w2 _ 2 _ _ _ hB2];rfl
 go_wp2_with fail
 refine (to_any _ _ b.lst (HH.out.L.keep K2) HZ.out.lst).mono ?_;rintro e u2 ⟨v2,rfl,o2,k2⟩;have hDu2:=(Below.block k2 (w.heap.size+1+1) (by omega)).trans hD2;have hBu2:=(Below.block k2 w.heap.size (by omega)).trans hB2;have hRu2:=(Below.block k2 (w.heap.size+1) (by omega)).trans hR2;obtain⟨hD3,⟨uu2,x2⟩,f2⟩:=box8_set hDu2 (show 2<8 by omega) v2;have G2:=grown_set u2 (w.heap.size+1+1) 2 v2;have hB3:=(G2.block w.heap.size (by have:=k2.size;omega) (fun e=>by have:=Option.some.inj e;omega)).trans hBu2;have hR3:=(G2.block (w.heap.size+1) (by have:=k2.size;omega) (fun e=>by have:=Option.some.inj e;omega)).trans hRu2;have K3:Keep w (u2.setCell ⟨w.heap.size+1+1,2,none⟩ v2):=(K2.trans k2).grown G2 (fun q hq=>by have:=Option.some.inj hq;omega);have g2:w2.grownBy (u2.setCell ⟨w.heap.size+1+1,2,none⟩ v2) (some (w.heap.size+1+1)):=grown_trans ⟨Below.os k2,Below.tape k2,Below.output k2,Below.size k2,fun j hj _=>Below.block k2 j hj⟩ G2;have L2:∀q,v2.ownBlock=some q→q<(u2.setCell ⟨w.heap.size+1+1,2,none⟩ v2).heap.size:=fun q hq=>Nat.lt_of_lt_of_le (World.ownsRow.lt o2 q hq).2 G2.size
 obtain⟨p2,q2,e2,-⟩:=o2.rd;have O2:=Own.far o2 G2 y2;replace O0:=LL.far O0 g2 (by omega);replace O1:=Own.far O1 g2 (by omega);have sz2:w2.heap.size≤(u2.setCell ⟨w.heap.size+1+1,2,none⟩ v2).heap.size:=g2.size;have y3:w.heap.size+1+1<(u2.setCell ⟨w.heap.size+1+1,2,none⟩ v2).heap.size:=by omega
 simp only[List.setIfInBounds_toArray,List.set_cons_zero,List.set_cons_succ] at hD3;subst e2;obtain⟨w3,hw3⟩:∃W:World,W=u2.setCell ⟨w.heap.size+1+1,2,none⟩ (.slice p2 b.lst.length q2):=⟨_,rfl⟩;rw[←hw3] at hD3 hB3 hR3 K3 L2 O0 O1 O2 sz2 y3;have HW3:=Lib.hid hw3;have HL2:=Lib.hid L2;clear hw3 c2 o2 k2 hDu2 hBu2 hRu2 G2 g2 hD2 hB2 hR2 L2;go_upto_region 5 with fail
 rw[←HW3.out];clear HW3 x2 f2;have c3:w3.cell? ⟨w.heap.size,3,none⟩=some (.slice aN b.nts.length cQ):=by rw[cell_of_row w3 _ 3 _ _ _ hB3];rfl
 go_wp2_with fail
 refine (toNN_own _ _ b.nts (HH.out.N.keep K3) HZ.out.n1 HZ.out.n2).mono ?_;rintro e u3 ⟨v3,nv,rfl,o3,k3⟩;have hDu3:=(Below.block k3 (w.heap.size+1+1) (by omega)).trans hD3;have hBu3:=(Below.block k3 w.heap.size (by omega)).trans hB3;have hRu3:=(Below.block k3 (w.heap.size+1) (by omega)).trans hR3;obtain⟨hD4,⟨uu3,x3⟩,f3⟩:=box8_set hDu3 (show 3<8 by omega) v3;have G3:=grown_set u3 (w.heap.size+1+1) 3 v3;have hB4:=(G3.block w.heap.size (by have:=k3.size;omega) (fun e=>by have:=Option.some.inj e;omega)).trans hBu3;have hR4:=(G3.block (w.heap.size+1) (by have:=k3.size;omega) (fun e=>by have:=Option.some.inj e;omega)).trans hRu3;have K4:Keep w (u3.setCell ⟨w.heap.size+1+1,3,none⟩ v3):=(K3.trans k3).grown G3 (fun q hq=>by have:=Option.some.inj hq;omega);have g3:w3.grownBy (u3.setCell ⟨w.heap.size+1+1,3,none⟩ v3) (some (w.heap.size+1+1)):=grown_trans ⟨Below.os k3,Below.tape k3,Below.output k3,Below.size k3,fun j hj _=>Below.block k3 j hj⟩ G3;have L3:∀oo,llLive nv.length oo→∀q,(llR 84 nvR v3 nv b.nts oo).v.ownBlock=some q→q<(u3.setCell ⟨w.heap.size+1+1,3,none⟩ v3).heap.size:=fun oo ho q hq=>Nat.lt_of_lt_of_le (o3.fam.lt ho q hq).2 G3.size
 obtain⟨p3,q3,e3⟩:=ll_shape o3;have O3:=LL.far o3 G3 y3;replace O0:=LL.far O0 g3 (by omega);replace O1:=Own.far O1 g3 (by omega);replace O2:=Own.far O2 g3 (by omega);have sz3:w3.heap.size≤(u3.setCell ⟨w.heap.size+1+1,3,none⟩ v3).heap.size:=g3.size;have y4:w.heap.size+1+1<(u3.setCell ⟨w.heap.size+1+1,3,none⟩ v3).heap.size:=by omega
 simp only[List.setIfInBounds_toArray,List.set_cons_zero,List.set_cons_succ] at hD4;subst e3;obtain⟨w4,hw4⟩:∃W:World,W=u3.setCell ⟨w.heap.size+1+1,3,none⟩ (.slice p3 b.nts.length q3):=⟨_,rfl⟩;rw[←hw4] at hD4 hB4 hR4 K4 L3 O0 O1 O2 O3 sz3 y4;have HW4:=Lib.hid hw4;have HL3:=Lib.hid L3;clear hw4 c3 o3 k3 hDu3 hBu3 hRu3 G3 g3 hD3 hB3 hR3 L3;go_upto_region 6 with fail
 rw[←HW4.out];clear HW4 x3 f3;have c4:w4.cell? ⟨w.heap.size,4,none⟩=some (.slice aX b.nxt.length cX):=by rw[cell_of_row w4 _ 4 _ _ _ hB4];rfl
 go_wp2_with fail
 refine (to_any _ _ b.nxt (HH.out.X.keep K4) HZ.out.nxt).mono ?_;rintro e u4 ⟨v4,rfl,o4,k4⟩;have hDu4:=(Below.block k4 (w.heap.size+1+1) (by omega)).trans hD4;have hBu4:=(Below.block k4 w.heap.size (by omega)).trans hB4;have hRu4:=(Below.block k4 (w.heap.size+1) (by omega)).trans hR4;obtain⟨hD5,⟨uu4,x4⟩,f4⟩:=box8_set hDu4 (show 4<8 by omega) v4;have G4:=grown_set u4 (w.heap.size+1+1) 4 v4;have hB5:=(G4.block w.heap.size (by have:=k4.size;omega) (fun e=>by have:=Option.some.inj e;omega)).trans hBu4;have hR5:=(G4.block (w.heap.size+1) (by have:=k4.size;omega) (fun e=>by have:=Option.some.inj e;omega)).trans hRu4;have K5:Keep w (u4.setCell ⟨w.heap.size+1+1,4,none⟩ v4):=(K4.trans k4).grown G4 (fun q hq=>by have:=Option.some.inj hq;omega);have g4:w4.grownBy (u4.setCell ⟨w.heap.size+1+1,4,none⟩ v4) (some (w.heap.size+1+1)):=grown_trans ⟨Below.os k4,Below.tape k4,Below.output k4,Below.size k4,fun j hj _=>Below.block k4 j hj⟩ G4;have L4:∀q,v4.ownBlock=some q→q<(u4.setCell ⟨w.heap.size+1+1,4,none⟩ v4).heap.size:=fun q hq=>Nat.lt_of_lt_of_le (World.ownsRow.lt o4 q hq).2 G4.size
 obtain⟨p4,q4,e4,-⟩:=o4.rd;have O4:=Own.far o4 G4 y4;replace O0:=LL.far O0 g4 (by omega);replace O1:=Own.far O1 g4 (by omega);replace O2:=Own.far O2 g4 (by omega);replace O3:=LL.far O3 g4 (by omega);have sz4:w4.heap.size≤(u4.setCell ⟨w.heap.size+1+1,4,none⟩ v4).heap.size:=g4.size;have y5:w.heap.size+1+1<(u4.setCell ⟨w.heap.size+1+1,4,none⟩ v4).heap.size:=by omega
 simp only[List.setIfInBounds_toArray,List.set_cons_zero,List.set_cons_succ] at hD5;subst e4;obtain⟨w5,hw5⟩:∃W:World,W=u4.setCell ⟨w.heap.size+1+1,4,none⟩ (.slice p4 b.nxt.length q4):=⟨_,rfl⟩;rw[←hw5] at hD5 hB5 hR5 K5 L4 O0 O1 O2 O3 O4 sz4 y5;have HW5:=Lib.hid hw5;have HL4:=Lib.hid L4;clear hw5 c4 o4 k4 hDu4 hBu4 hRu4 G4 g4 hD4 hB4 hR4 L4;go_upto_region 7 with fail
 rw[←HW5.out];clear HW5 x4 f4;have c5:w5.cell? ⟨w.heap.size,5,none⟩=some (.slice aT b.sn.length cT):=by rw[cell_of_row w5 _ 5 _ _ _ hB5];rfl
 go_wp2_with fail
 refine (to_any _ _ b.sn (HH.out.S.keep K5) HZ.out.sn).mono ?_;rintro e u5 ⟨v5,rfl,o5,k5⟩;have hDu5:=(Below.block k5 (w.heap.size+1+1) (by omega)).trans hD5;have hBu5:=(Below.block k5 w.heap.size (by omega)).trans hB5;have hRu5:=(Below.block k5 (w.heap.size+1) (by omega)).trans hR5;obtain⟨hD6,⟨uu5,x5⟩,f5⟩:=box8_set hDu5 (show 5<8 by omega) v5;have G5:=grown_set u5 (w.heap.size+1+1) 5 v5;have hB6:=(G5.block w.heap.size (by have:=k5.size;omega) (fun e=>by have:=Option.some.inj e;omega)).trans hBu5;have hR6:=(G5.block (w.heap.size+1) (by have:=k5.size;omega) (fun e=>by have:=Option.some.inj e;omega)).trans hRu5;have K6:Keep w (u5.setCell ⟨w.heap.size+1+1,5,none⟩ v5):=(K5.trans k5).grown G5 (fun q hq=>by have:=Option.some.inj hq;omega);have g5:w5.grownBy (u5.setCell ⟨w.heap.size+1+1,5,none⟩ v5) (some (w.heap.size+1+1)):=grown_trans ⟨Below.os k5,Below.tape k5,Below.output k5,Below.size k5,fun j hj _=>Below.block k5 j hj⟩ G5;have L5:∀q,v5.ownBlock=some q→q<(u5.setCell ⟨w.heap.size+1+1,5,none⟩ v5).heap.size:=fun q hq=>Nat.lt_of_lt_of_le (World.ownsRow.lt o5 q hq).2 G5.size
 obtain⟨p5,q5,e5,-⟩:=o5.rd;have O5:=Own.far o5 G5 y5;replace O0:=LL.far O0 g5 (by omega);replace O1:=Own.far O1 g5 (by omega);replace O2:=Own.far O2 g5 (by omega);replace O3:=LL.far O3 g5 (by omega);replace O4:=Own.far O4 g5 (by omega);have sz5:w5.heap.size≤(u5.setCell ⟨w.heap.size+1+1,5,none⟩ v5).heap.size:=g5.size;have y6:w.heap.size+1+1<(u5.setCell ⟨w.heap.size+1+1,5,none⟩ v5).heap.size:=by omega
 simp only[List.setIfInBounds_toArray,List.set_cons_zero,List.set_cons_succ] at hD6;subst e5;obtain⟨w6,hw6⟩:∃W:World,W=u5.setCell ⟨w.heap.size+1+1,5,none⟩ (.slice p5 b.sn.length q5):=⟨_,rfl⟩;rw[←hw6] at hD6 hB6 hR6 K6 L5 O0 O1 O2 O3 O4 O5 sz5 y6;have HW6:=Lib.hid hw6;have HL5:=Lib.hid L5;clear hw6 c5 o5 k5 hDu5 hBu5 hRu5 G5 g5 hD5 hB5 hR5 L5;go_upto_region 8 with fail
 rw[←HW6.out];clear HW6 x5 f5;have c6:w6.cell? ⟨w.heap.size,6,none⟩=some (.slice aF b.fr.length cF):=by rw[cell_of_row w6 _ 6 _ _ _ hB6];rfl
 go_wp2_with fail
 refine (to_any _ _ b.fr (HH.out.F.keep K6) HZ.out.fr).mono ?_;rintro e u6 ⟨v6,rfl,o6,k6⟩;have hDu6:=(Below.block k6 (w.heap.size+1+1) (by omega)).trans hD6;have hBu6:=(Below.block k6 w.heap.size (by omega)).trans hB6;have hRu6:=(Below.block k6 (w.heap.size+1) (by omega)).trans hR6;obtain⟨hD7,⟨uu6,x6⟩,f6⟩:=box8_set hDu6 (show 6<8 by omega) v6;have G6:=grown_set u6 (w.heap.size+1+1) 6 v6;have hB7:=(G6.block w.heap.size (by have:=k6.size;omega) (fun e=>by have:=Option.some.inj e;omega)).trans hBu6;have hR7:=(G6.block (w.heap.size+1) (by have:=k6.size;omega) (fun e=>by have:=Option.some.inj e;omega)).trans hRu6;have K7:Keep w (u6.setCell ⟨w.heap.size+1+1,6,none⟩ v6):=(K6.trans k6).grown G6 (fun q hq=>by have:=Option.some.inj hq;omega);have g6:w6.grownBy (u6.setCell ⟨w.heap.size+1+1,6,none⟩ v6) (some (w.heap.size+1+1)):=grown_trans ⟨Below.os k6,Below.tape k6,Below.output k6,Below.size k6,fun j hj _=>Below.block k6 j hj⟩ G6;have L6:∀q,v6.ownBlock=some q→q<(u6.setCell ⟨w.heap.size+1+1,6,none⟩ v6).heap.size:=fun q hq=>Nat.lt_of_lt_of_le (World.ownsRow.lt o6 q hq).2 G6.size
 obtain⟨p6,q6,e6,-⟩:=o6.rd;have O6:=Own.far o6 G6 y6;replace O0:=LL.far O0 g6 (by omega);replace O1:=Own.far O1 g6 (by omega);replace O2:=Own.far O2 g6 (by omega);replace O3:=LL.far O3 g6 (by omega);replace O4:=Own.far O4 g6 (by omega);replace O5:=Own.far O5 g6 (by omega);have sz6:w6.heap.size≤(u6.setCell ⟨w.heap.size+1+1,6,none⟩ v6).heap.size:=g6.size;have y7:w.heap.size+1+1<(u6.setCell ⟨w.heap.size+1+1,6,none⟩ v6).heap.size:=by omega
 simp only[List.setIfInBounds_toArray,List.set_cons_zero,List.set_cons_succ] at hD7;subst e6;obtain⟨w7,hw7⟩:∃W:World,W=u6.setCell ⟨w.heap.size+1+1,6,none⟩ (.slice p6 b.fr.length q6):=⟨_,rfl⟩;rw[←hw7] at hD7 hB7 hR7 K7 L6 O0 O1 O2 O3 O4 O5 O6 sz6 y7;have HW7:=Lib.hid hw7;have HL6:=Lib.hid L6;clear hw7 c6 o6 k6 hDu6 hBu6 hRu6 G6 g6 hD6 hB6 hR6 L6;go_upto_region 9 with fail
 rw[←HW7.out];clear HW7 x6 f6;have c7:w7.cell? ⟨w.heap.size,7,none⟩=some (.slice aR b.rws.length cR):=by rw[cell_of_row w7 _ 7 _ _ _ hB7];rfl
 go_wp2_with fail
 refine (toII_own _ _ b.rws (HH.out.R.keep K7) HZ.out.r1 HZ.out.r2).mono ?_;rintro e u7 ⟨v7,rv,rfl,o7,k7⟩;have hDu7:=(Below.block k7 (w.heap.size+1+1) (by omega)).trans hD7;have hBu7:=(Below.block k7 w.heap.size (by omega)).trans hB7;have hRu7:=(Below.block k7 (w.heap.size+1) (by omega)).trans hR7;obtain⟨hD8,⟨uu7,x7⟩,f7⟩:=box8_set hDu7 (show 7<8 by omega) v7;have G7:=grown_set u7 (w.heap.size+1+1) 7 v7;have hB8:=(G7.block w.heap.size (by have:=k7.size;omega) (fun e=>by have:=Option.some.inj e;omega)).trans hBu7;have hR8:=(G7.block (w.heap.size+1) (by have:=k7.size;omega) (fun e=>by have:=Option.some.inj e;omega)).trans hRu7;have K8:Keep w (u7.setCell ⟨w.heap.size+1+1,7,none⟩ v7):=(K7.trans k7).grown G7 (fun q hq=>by have:=Option.some.inj hq;omega);have g7:w7.grownBy (u7.setCell ⟨w.heap.size+1+1,7,none⟩ v7) (some (w.heap.size+1+1)):=grown_trans ⟨Below.os k7,Below.tape k7,Below.output k7,Below.size k7,fun j hj _=>Below.block k7 j hj⟩ G7;have L7:∀oo,llLive rv.length oo→∀q,(llR 23 ivR v7 rv b.rws oo).v.ownBlock=some q→q<(u7.setCell ⟨w.heap.size+1+1,7,none⟩ v7).heap.size:=fun oo ho q hq=>Nat.lt_of_lt_of_le (o7.fam.lt ho q hq).2 G7.size
 obtain⟨p7,q7,e7⟩:=ll_shape o7;have O7:=LL.far o7 G7 y7;replace O0:=LL.far O0 g7 (by omega);replace O1:=Own.far O1 g7 (by omega);replace O2:=Own.far O2 g7 (by omega);replace O3:=LL.far O3 g7 (by omega);replace O4:=Own.far O4 g7 (by omega);replace O5:=Own.far O5 g7 (by omega);replace O6:=Own.far O6 g7 (by omega);have sz7:w7.heap.size≤(u7.setCell ⟨w.heap.size+1+1,7,none⟩ v7).heap.size:=g7.size;have y8:w.heap.size+1+1<(u7.setCell ⟨w.heap.size+1+1,7,none⟩ v7).heap.size:=by omega
 simp only[List.setIfInBounds_toArray,List.set_cons_zero,List.set_cons_succ] at hD8;subst e7;obtain⟨w8,hw8⟩:∃W:World,W=u7.setCell ⟨w.heap.size+1+1,7,none⟩ (.slice p7 b.rws.length q7):=⟨_,rfl⟩;rw[←hw8] at hD8 hB8 hR8 K8 L7 O0 O1 O2 O3 O4 O5 O6 O7 sz7 y8;have HW8:=Lib.hid hw8;have HL7:=Lib.hid L7;clear hw8 c7 o7 k7 hDu7 hBu7 hRu7 G7 g7 hD7 hB7 hR7 L7;go_upto_region 10 with fail
 rw[←HW8.out];clear HW8 x7 f7
 have OA:OwnA w8 w0.heap.size ⟨.slice p0 dss.length q0,.slice p1 b.plc.length q1,.slice p2 b.lst.length q2,.slice p3 b.nts.length q3,.slice p4 b.nxt.length q4,.slice p5 b.sn.length q5,.slice p6 b.fr.length q6,.slice p7 b.rws.length q7⟩ nv rv wv dss b:=OwnA.mk8 (s:=fun i=>[w0.heap.size,w1.heap.size,w2.heap.size,w3.heap.size,w4.heap.size,w5.heap.size,w6.heap.size,w7.heap.size,w8.heap.size].getD i w8.heap.size) (fun i hi=>by
   have hj:i=0∨i=1∨i=2∨i=3∨i=4∨i=5∨i=6∨i=7:=by omega
   rcases hj with rfl|rfl|rfl|rfl|rfl|rfl|rfl|rfl<;>assumption) O0 HL0.out O1 HL1.out O2 HL2.out O3 HL3.out O4 HL4.out O5 HL5.out O6 HL6.out O7 HL7.out
 have HG:=Lib.hid (grown_row3 w8 (w.heap.size+1) #[.slice p0 dss.length q0,.slice p1 b.plc.length q1,.slice p2 b.lst.length q2,.slice p3 b.nts.length q3,.slice p4 b.nxt.length q4,.slice p5 b.sn.length q5,.slice p6 b.fr.length q6,.slice p7 b.rws.length q7]);have HZZ:=Lib.hid (setRow_heap w8 (w.heap.size+1) _ #[.slice p0 dss.length q0,.slice p1 b.plc.length q1,.slice p2 b.lst.length q2,.slice p3 b.nts.length q3,.slice p4 b.nxt.length q4,.slice p5 b.sn.length q5,.slice p6 b.fr.length q6,.slice p7 b.rws.length q7] _ _ hR8);have HO:=Lib.hid (OA.far HG.out (by omega));have HK:=Lib.hid (K8.grown HG.out (fun q hq=>by have:=Option.some.inj hq;omega));clear OA O0 O1 O2 O3 O4 O5 O6 O7;go_wp2_with (first|refine wpList_load_row rfl 32 _ rfl (w.heap.size+1+1) rfl 32 _ (0,0) _ hD8 Tryz.underlying32 rfl board_info ?_|refine wpList_store_row rfl 32 _ _ rfl (w.heap.size+1) _ rfl rfl 32 _ hR8 board_info rfl (by simp[Value.oneCell']) ?_|fail)
 refine bodyPost_ret (results_row (by rfl) _ _ (w.heap.size+1) _ _ (0,0) _ rfl HZZ.out Tryz.underlying32 rfl board_info) rfl ?_;exact⟨⟨.slice p0 dss.length q0,.slice p1 b.plc.length q1,.slice p2 b.lst.length q2,.slice p3 b.nts.length q3,.slice p4 b.nxt.length q4,.slice p5 b.sn.length q5,.slice p6 b.fr.length q6,.slice p7 b.rws.length q7⟩,nv,rv,wv,rfl,⟨HO.out.fam.base_le2 (by omega),HO.out.ln,HO.out.lr,HO.out.lw⟩,HK.out⟩
end Go.Proofs.YtgakfkjjkobpiabGreat
