/- Gathered texts. -/
import Derived.Test.YtgikcfdckddgpabGreatMG
set_option maxRecDepth 100000
set_option maxHeartbeats 8000000
namespace Go.Proofs.YtgikcfdckddgpabGreat
open Go.ChangeShapes Go.WideShapes Go.ChangeAt Go.RowKit
theorem l13Web_any (w:World)(v vF vR:Value)(es:List Ev)(f rows:List Int)(h:RdE w v es)(hf:Rd w vF f)(hr:Rd w vR rows)(hn:es.length≤12)(W:Webs es f rows)(hlr:rows.length≤36)(hrw:∀j,j<rows.length→0≤rows.getD j 0∧rows.getD j 0<(es.length:Int))(hl:(idxB rdE es).length≤f.length)(hb:∀i,i<(idxB rdE es).length→0≤f.getD i 0∧f.getD i 0<(es.length:Int)):
  Calls Tryz.prog 32 #[v,.agg #[vF,vR]] w fun e w'=>∃v',e = .returned v'∧Own w' w.heap.size v' (xwL es f rows)∧Keep w w':=by
 have HF:=Lib.hid (four_len (beh_line hn).1 W.fw W.rw' W.ag);have C1:=Lib.hid (fun (U:World) (kU:Keep w U)=>l7Behind_any U v es (h.keep kU) hn);have C2:=Lib.hid (fun (U:World) (kU:Keep w U)=>l8Web_any U v vF es f (h.keep kU) (hf.keep kU) hn hl hb);have C3:=Lib.hid (fun (U:World) (kU:Keep w U)=>l9Web_any U v vR es rows (h.keep kU) (hr.keep kU) hn hlr hrw);have C4:=Lib.hid (fun (U:World) (kU:Keep w U)=>l10Against_any U v vF vR es f rows (h.keep kU) (hf.keep kU) (hr.keep kU) hn hlr hrw hl hb);have HE:Hid (xwL es f rows=mixL orI (mixL orI (behL es) (fwL es f)) (mixL orI (rwL es rows) (agL es f rows))):=Lib.hid rfl;clear hl hb hrw hlr W hn;obtain⟨aF,cF,rfl,-⟩:=hf;obtain⟨aR,cR,rfl,-⟩:=hr;obtain⟨aE,cE',rfl,-⟩:=h;generalize xwL es f rows=PW at HE ⊢;generalize behL es=L1 at *;generalize fwL es f=L2 at *;generalize rwL es rows=L3 at *;generalize agL es f rows=L4 at *;go_enter Tryz.func32,Tryz.ntmps32
 have b0:(w.alloc (.cells #[.slice aF f.length cF,.slice aR rows.length cR] 31)).cell? ⟨w.heap.size,0,none⟩=some (.slice aF f.length cF):=box_cell (Keep.refl _) 0;have b1:(w.alloc (.cells #[.slice aF f.length cF,.slice aR rows.length cR] 31)).cell? ⟨w.heap.size,1,none⟩=some (.slice aR rows.length cR):=box_cell (Keep.refl _) 1;have K0:Keep w (w.alloc (.cells #[.slice aF f.length cF,.slice aR rows.length cR] 31)).drew:=((Keep.refl w).alloc _).drew;have z0:w.heap.size<(w.alloc (.cells #[.slice aF f.length cF,.slice aR rows.length cR] 31)).drew.heap.size:=by simp
 go_wp2_with fail
 go_region_held3 (fun w'=>w'.cell? ⟨w.heap.size,0,none⟩=some (.slice aF f.length cF)∧w'.cell? ⟨w.heap.size,1,none⟩=some (.slice aR rows.length cR))
  (first|go_keep|(go_split_ands;refine⟨?_,?_⟩<;>(rw[kk.cell (by assumption)];assumption)))
  ((first
   | (go_at_call 51;refine (C1.out _ K0).mono ?_;rintro e w1 ⟨v1,rfl,o1,kk⟩;have z1:w.heap.size<w1.heap.size:=Nat.lt_of_lt_of_le z0 kk.size;have K1:=K0.trans kk;have r1:=o1.rd;clear o1)
   | (go_at_call 52;refine (C2.out _ K1).mono ?_;clear kk;rintro e w2 ⟨v2,rfl,o2,kk⟩;have z2:w.heap.size<w2.heap.size:=Nat.lt_of_lt_of_le z1 kk.size;have K2:=K1.trans kk;have r2:=o2.rd;replace r1:=r1.keep kk;clear o2)
   | (go_at_call 53;refine (C3.out _ K3).mono ?_;clear kk;rintro e w4 ⟨v4,rfl,o4,kk⟩;have z4:w.heap.size<w4.heap.size:=Nat.lt_of_lt_of_le z3 kk.size;have K4:=K3.trans kk;have r4:=o4.rd;replace r3:=r3.keep kk;clear o4)
   | (go_at_call 54;refine (C4.out _ K4).mono ?_;clear kk;rintro e w5 ⟨v5,rfl,o5,kk⟩;have z5:w.heap.size<w5.heap.size:=Nat.lt_of_lt_of_le z4 kk.size;have K5:=K4.trans kk;have r5:=o5.rd;replace r4:=r4.keep kk;replace r3:=r3.keep kk;clear o5)
   | (go_at_call 50;refine (l2Join_any _ _ _ _ _ r1 r2 HF.out.2.2.2.1 HF.out.1).mono ?_;clear kk;rintro e w3 ⟨v3,rfl,o3,kk⟩;have z3:w.heap.size<w3.heap.size:=Nat.lt_of_lt_of_le z2 kk.size;have K3:=K2.trans kk;have r3:=o3.rd;clear o3 r1 r2)
   | (go_at_call 50;refine (l2Join_any _ _ _ _ _ r4 r5 HF.out.2.2.2.2.1 HF.out.2.1).mono ?_;clear kk;rintro e w6 ⟨v6,rfl,o6,kk⟩;have z6:w.heap.size<w6.heap.size:=Nat.lt_of_lt_of_le z5 kk.size;have K6:=K5.trans kk;have r6:=o6.rd;replace r3:=r3.keep kk;clear o6 r4 r5)
   | (go_at_call 50;refine (l2Join_any _ _ _ _ _ r3 r6 HF.out.2.2.2.2.2.1 HF.out.2.2.1).mono ?_;clear kk;rintro e w7 ⟨v7,rfl,o7,kk⟩)))
 all_goals
  go_wp2;go_ret;exact⟨_,rfl,by rw[HE.out,HF.out.2.2.2.2.2.2];exact o7.base_le (by have:=K6.size;omega),K6.trans kk⟩
end Go.Proofs.YtgikcfdckddgpabGreat
