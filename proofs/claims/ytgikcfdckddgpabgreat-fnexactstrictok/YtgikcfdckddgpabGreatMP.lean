/- Gathered texts. -/
import Derived.Test.YtgikcfdckddgpabGreatMI
import Derived.Deep.RegionHeld3
import Derived.Handy
import Derived.Stop.Asserts
set_option maxRecDepth 100000
set_option maxHeartbeats 8000000
namespace Go.Proofs.YtgikcfdckddgpabGreat
open Go.ChangeShapes Go.WideShapes Go.ChangeAt Go.RowKit
theorem pass_none (w:World)(x0 x1:Int)(x2:Bool)(x3 x4 x5 y0 y1:Int)(y2:Bool)(y3 y4 y5:Int):
  Calls Tryz.prog 138 #[eA x0 x1 x2 x3 x4 x5,eA y0 y1 y2 y3 y4 y5,.slice none 0 0] w fun e w'=>e = .returned (.bool true)∧Keep w w':=by
 go_enter Tryz.func138,Tryz.ntmps138
 go_wp2;refine wp_loop_rounds 1 ?_;rw[rounds_succ];go_wp2;go_ret;exact⟨rfl,((Keep.refl w).alloc _).alloc _⟩
theorem col_beh (dss:List (List Dd)):colAll (tQ (fun _ _=>true) (eventsB dss)) (eventsB dss).length (eventsB dss).length=behL (eventsB dss):=by
 cases hb:workB dss with
 |false=>rw[eventsB,hb];rfl
 |true=>
  rw[eventsB,if_pos hb,←beh_same hb]
  congr 1
  funext i j;exact Bool.and_true _
theorem implBehind_any (w:World)(v:Value)(dss:List (List Dd))(h:RdW w v dss)(hx:dss.length≤1048576)(hm:∀i,i<dss.length→(dss.getD i []).length≤1048576):
  Calls Tryz.prog 170 #[v] w fun e w'=>∃v',e = .returned v'∧Row w' w.heap.size v' (behL (eventsB dss))∧Keep w w':=by
 have C:=linesOf_any w v (.slice none 0 0) dss (fun _ _=>true) h hx hm (fun i j _ _ x0 x1 x2 x3 x4 x5 y0 y1 y2 y3 y4 y5 _ _ _ w1 _=>pass_none w1 x0 x1 x2 x3 x4 x5 y0 y1 y2 y3 y4 y5);rw[col_beh] at C;go_enter Tryz.func170,Tryz.ntmps170
 go_wp2_with fail
 refine C.mono ?_;rintro e w1 ⟨v1,rfl,r1,k1⟩;go_wp2;go_ret;exact⟨_,rfl,r1,k1⟩
theorem xw_chain (dss:List (List Dd))(f rows:List Int):chnL (behL (eventsB dss)) (fwB dss f) (rwB dss rows) (agB dss f rows)=xwB dss f rows:=by
 cases hb:taleB dss f rows with
 |false=>
  rw[xwB,agB,hb];exact mix_none _ _
 |true=>
  obtain⟨hw,hs,hr⟩:=tale_use hb;have h12:=(events_law hw).1;have e1:eventsB dss=evsW dss dss.length:=by rw[eventsB,if_pos hw]
  rw[←e1] at h12;have W:=webs_of h12 hs hr;have hb2:=hb;unfold taleB at hb2;rw[Bool.and_eq_true] at hb2;rw[xwB,agB,if_pos hb,if_pos hb,fwB,if_pos hb2.1,rwB,if_pos hb2.2];exact web_chn (beh_line h12).1 W.fw W.rw' W.ag
theorem quickAhead_any (w:World)(v:Value)(dss:List (List Dd))(h:RdW w v dss)(hx:dss.length≤1048576)(hm:∀i,i<dss.length→(dss.getD i []).length≤1048576):
  Calls Tryz.prog 169 #[.agg #[],v] w fun e w'=>∃v',e = .returned v'∧Row w' w.heap.size v' (behL (eventsB dss))∧Keep w w':=by
 go_enter Tryz.func169,Tryz.ntmps169
 go_wp2_with fail
 refine (implBehind_any _ v dss (h.keep ((Keep.refl w).alloc (.cells #[] 55))) hx hm).mono ?_;rintro e w1 ⟨v',rfl,o,k⟩;have K:=(((Keep.refl w).alloc (.cells #[] 55))).trans k;have O:=o.base_le (((Keep.refl w).alloc (.cells #[] 55))).size;clear o k;obtain⟨a,c,rfl,-⟩:=id O.rd;go_wp2;go_ret;exact⟨_,rfl,O,K⟩
@[go_sem] theorem quickHas (v:Value) (w:World):(Instr.typeAssert (.iface 55 v) 70 103 true).run Tryz.prog w = .ok (.tuple #[.nilIface,.bool false]) w:=run_typeAssert_lacksB Tryz.underlying103 (by kernel_rfl) (by kernel_rfl) v 70 w
theorem quickIn_any (w:World)(v vF:Value)(dss:List (List Dd))(f:List Int)(h:RdW w v dss)(hf:Rd w vF f)(hx:dss.length≤1048576)(hm:∀i,i<dss.length→(dss.getD i []).length≤1048576)(hfl:f.length≤1048576):
  Calls Tryz.prog 55 #[.iface 55 (.agg #[]),v,vF] w fun e w'=>∃v',e = .returned v'∧Row w' w.heap.size v' (fwB dss f)∧Keep w w':=by
 go_enter Tryz.func55,Tryz.ntmps55
 go_wp2_with fail
 refine (implFromWeb_any w v vF dss f h hf hx hm hfl).mono ?_;rintro e w1 ⟨v',rfl,o,k⟩;have K:=((Keep.refl w)).trans k;have O:=o.base_le ((Keep.refl w)).size;clear o k;obtain⟨a,c,rfl,-⟩:=id O.rd;go_wp2;go_ret;exact⟨_,rfl,O,K⟩
theorem quickWeb_any (w:World)(v vF vR:Value)(dss:List (List Dd))(f rows:List Int)(h:RdW w v dss)(hf:Rd w vF f)(hr:Rd w vR rows)(hcap:rows.length≤capZ vR)(hx:dss.length≤1048576)(hm:∀i,i<dss.length→(dss.getD i []).length≤1048576)(hfl:f.length≤1048576)(hrl:rows.length≤1048576):
  Calls Tryz.prog 33 #[.iface 55 (.agg #[]),v,.agg #[vF,vR]] w fun e w'=>∃v',e = .returned v'∧Row w' w.heap.size v' (xwB dss f rows)∧Keep w w':=by
 have C1:=Lib.hid (fun (W:World) (kW:Keep w W)=>quickAhead_any W v dss (h.keep kW) hx hm);have C2:=Lib.hid (fun (W:World) (kW:Keep w W)=>quickIn_any W v vF dss f (h.keep kW) (hf.keep kW) hx hm hfl);have C3:=Lib.hid (fun (W:World) (kW:Keep w W)=>implRowWeb_any W v vR dss rows (h.keep kW) (hr.keep kW) hcap hx hm hrl);have C4:=Lib.hid (fun (W:World) (kW:Keep w W)=>implAgainstWeb_any W v vF vR dss f rows (h.keep kW) (hf.keep kW) (hr.keep kW) hcap hx hm hfl hrl);have HE:=Lib.hid (xw_chain dss f rows)
 have lA:(behL (eventsB dss)).length≤1048576:=by
  have h9:=eventsB_len9 dss;have:=(beh_line (es:=eventsB dss) (by omega)).1.2.1;omega
 have lF:(fwB dss f).length≤1048576:=by have:=fwB_len dss f;omega
 have lR:(rwB dss rows).length≤1048576:=by have:=rwB_len dss rows;omega
 have lG:(agB dss f rows).length≤1048576:=by have:=agB_len dss f rows;omega
 generalize xwB dss f rows=L at *;generalize behL (eventsB dss)=L1 at *;generalize fwB dss f=L2 at *;generalize rwB dss rows=L3 at *;generalize agB dss f rows=L4 at *;clear h hcap hx hm hfl hrl;obtain⟨aF,cF,rfl,-⟩:=hf;obtain⟨aR,cR,rfl,-⟩:=hr;go_enter Tryz.func33,Tryz.ntmps33
 have b0:(w.alloc (.cells #[.slice aF f.length cF,.slice aR rows.length cR] 31)).cell? ⟨w.heap.size,0,none⟩=some (.slice aF f.length cF):=box_cell (Keep.refl _) 0;have b1:(w.alloc (.cells #[.slice aF f.length cF,.slice aR rows.length cR] 31)).cell? ⟨w.heap.size,1,none⟩=some (.slice aR rows.length cR):=box_cell (Keep.refl _) 1;have K0:Keep w (w.alloc (.cells #[.slice aF f.length cF,.slice aR rows.length cR] 31)).drew:=((Keep.refl w).alloc _).drew;have z0:w.heap.size<(w.alloc (.cells #[.slice aF f.length cF,.slice aR rows.length cR] 31)).drew.heap.size:=by simp
 go_wp2_with fail
 go_cut [7] from 8 (fun s wx=>∃u1 u2 u3 u4:Value,∃w9:World,s = .slice (some ⟨w9.heap.size,0,none⟩) 4 4∧wx=w9.alloc (.cells #[u1,u2,u3,u4] 23)∧Rd w9 u1 L1∧Rd w9 u2 L2∧Rd w9 u3 L3∧Rd w9 u4 L4∧Keep w w9)
 case first=>
  go_region_held3 (fun w'=>w'.cell? ⟨w.heap.size,0,none⟩=some (.slice aF f.length cF)∧w'.cell? ⟨w.heap.size,1,none⟩=some (.slice aR rows.length cR))
   (first|go_keep|(go_split_ands;refine⟨?_,?_⟩<;>(rw[kk.cell (by assumption)];assumption)))
   ((first
    | (go_at_call 169;refine (C1.out _ K0).mono ?_;rintro e w1 ⟨v1,rfl,o1,kk⟩;have z1:w.heap.size<w1.heap.size:=Nat.lt_of_lt_of_le z0 kk.size;have K1:=K0.trans kk;have r1:=o1.rd;clear o1;obtain⟨a1,c1,rfl,-⟩:=id r1)
    | (go_at_call 55;refine (C2.out _ K1).mono ?_;clear kk;rintro e w2 ⟨v2,rfl,o2,kk⟩;have z2:w.heap.size<w2.heap.size:=Nat.lt_of_lt_of_le z1 kk.size;have K2:=K1.trans kk;have r2:=o2.rd;replace r1:=r1.keep kk;clear o2;obtain⟨a2,c2,rfl,-⟩:=id r2)
    | (go_at_call 56;refine (C3.out _ K2).mono ?_;clear kk;rintro e w3 ⟨v3,rfl,o3,kk⟩;have z3:w.heap.size<w3.heap.size:=Nat.lt_of_lt_of_le z2 kk.size;have K3:=K2.trans kk;have r3:=o3.rd;replace r1:=r1.keep kk;replace r2:=r2.keep kk;clear o3;obtain⟨a3,c3,rfl,-⟩:=id r3)
    | (go_at_call 57;refine (C4.out _ K3).mono ?_;clear kk;rintro e w4 ⟨v4,rfl,o4,kk⟩;have z4:w.heap.size<w4.heap.size:=Nat.lt_of_lt_of_le z3 kk.size;have K4:=K3.trans kk;have r4:=o4.rd;replace r1:=r1.keep kk;replace r2:=r2.keep kk;replace r3:=r3.keep kk;clear o4;obtain⟨a4,c4,rfl,-⟩:=id r4)))
  all_goals
   go_wp2;go_meet;case rel=>exact⟨_,_,_,_,w4,rfl,rfl,r1,r2,r3,r4,K4⟩
 case rest=>
  obtain⟨u1,u2,u3,u4,w9,rfl,rfl,r1,r2,r3,r4,K9⟩:=hcut;have k9:Keep w9 (w9.alloc (.cells #[u1,u2,u3,u4] 23)):=(Keep.refl w9).alloc _;have C:=toOne_four _ w9.heap.size u1 u2 u3 u4 L1 L2 L3 L4 (heap_alloc_new w9 _) (r1.keep k9) (r2.keep k9) (r3.keep k9) (r4.keep k9) lA lF lR lG;have b9:w.heap.size≤(w9.alloc (.cells #[u1,u2,u3,u4] 23)).heap.size:=(K9.trans k9).size;rw[HE.out] at C;go_wp2_with fail
  refine C.mono ?_;rintro e wa ⟨va,rfl,oa,ka⟩;have KA:=(K9.trans k9).trans ka;have OA:=oa.base_le b9;clear oa ka C;obtain⟨aa,ca,rfl,-⟩:=id OA.rd;go_wp2;go_ret;exact⟨_,rfl,OA,KA⟩
end Go.Proofs.YtgikcfdckddgpabGreat
