/- Gathered texts. -/
import Derived.Test.YtgikcfdckddgpabGreatMO
import Derived.Test.YtgikcfdckddgpabGreatMM
set_option maxRecDepth 100000
set_option maxHeartbeats 8000000
namespace Go.Proofs.YtgikcfdckddgpabGreat
open Go.ChangeShapes Go.WideShapes Go.ChangeAt Go.RowKit
theorem l13Ok_any (w:World)(v vF vR:Value)(es:List Ev)(f rows:List Int)(h:RdE w v es)(hf:Rd w vF f)(hr:Rd w vR rows)(hn:es.length≤12)(W:Webs es f rows)(hlr:rows.length≤36)(hrw:∀j,j<rows.length→0≤rows.getD j 0∧rows.getD j 0<(es.length:Int))(hl:(idxB rdE es).length≤f.length)(hb:∀i,i<(idxB rdE es).length→0≤f.getD i 0∧f.getD i 0<(es.length:Int)):
  Calls Tryz.prog 35 #[v,.agg #[vF,vR]] w fun e w'=>e = .returned (.bool (!roundB (pwL es f rows)&&!roundB (liftL (xwL es f rows) (clsB es))))∧Keep w w':=by
 have hpw:webB (pwL es f rows)=true:=(show Web es.length (pwL es f rows) from (web_four (plc_line hn).1 W.fw W.rw' W.ag).1).b;have hsw:Web es.length (xwL es f rows):=(web_four (beh_line hn).1 W.fw W.rw' W.ag).1;have hcl:(clsB es).length=es.length:=by unfold clsB;rw[if_pos hn,List.length_map]
 have hlw:=web_lift hsw hcl;have HL:Hid ((clsB es).map (fun c=>liftR (xwL es f rows) (clsB es) c (xwL es f rows).length)=liftL (xwL es f rows) (clsB es)):=Lib.hid (by unfold liftL;rw[if_pos ⟨hsw.b,by rw[hcl,hsw.2.1]⟩]);have hsl:Web (xwL es f rows).length (xwL es f rows):=by rw[hsw.2.1];exact hsw
 have hcc:(clsB es).length=(xwL es f rows).length:=by rw[hcl,hsw.2.1]
 have hlb:webB (liftL (xwL es f rows) (clsB es))=true:=hlw.1.b;have C1:=Lib.hid (fun (U:World) (kU:Keep w U)=>l11Web_any U v vF vR es f rows (h.keep kU) (hf.keep kU) (hr.keep kU) hn W hlr hrw hl hb);have C2:=Lib.hid (fun (U:World) (kU:Keep w U)=>l13Web_any U v vF vR es f rows (h.keep kU) (hf.keep kU) (hr.keep kU) hn W hlr hrw hl hb);have C3:=Lib.hid (fun (U:World) (kU:Keep w U)=>specClassesOf_any U v es (h.keep kU) (by omega));clear hlw hsw hcl W hlr hrw hl hb hn;obtain⟨aF,cF,rfl,-⟩:=hf;obtain⟨aR,cR,rfl,-⟩:=hr;obtain⟨ae,ce,rfl,-⟩:=h;generalize pwL es f rows=PW at *;generalize xwL es f rows=SW at *;generalize clsB es=CL at *;go_enter Tryz.func35,Tryz.ntmps35
 go_wp2_with fail
 refine (C1.out _ ((Keep.refl w).alloc _)).mono ?_;rintro e w1 ⟨v1,rfl,o1,k1⟩;have c0:=box_cell k1 0;have c1:=box_cell k1 1;simp at c0 c1;have z0:=box_size k1;have K1:=((Keep.refl w).alloc _).trans k1;go_wp2_with fail
 refine (l3Round_any _ _ _ _ o1.row hpw).mono ?_;rintro e w2 ⟨rfl,k2⟩;have K2:=K1.trans k2;replace c0:=(k2.cell z0).trans c0;replace c1:=(k2.cell z0).trans c1;cases hq:roundB PW
 ·
  go_wp2_with fail
  refine (C2.out _ K2).mono ?_;rintro e w3 ⟨v3,rfl,o3,k3⟩;have K3:=K2.trans k3;go_wp2_with fail
  refine (C3.out _ K3).mono ?_;rintro e w4 ⟨v4,rfl,o4,k4⟩;have K4:=K3.trans k4;go_wp2_with fail
  refine (l3Lift_any _ _ _ SW CL (o3.rd.keep k4) o4.rd hsl hcc).mono ?_;rw[HL.out];rintro e w5 ⟨v5,rfl,o5,k5⟩;have K5:=K4.trans k5;go_wp2_with fail
  refine (l3Round_any _ _ _ _ o5 hlb).mono ?_;rintro e w6 ⟨rfl,k6⟩;have K6:=K5.trans k6;go_wp2;go_ret;exact⟨by rw[hq];rfl,K6⟩
 ·
  go_wp2;go_ret;exact⟨by rw[hq];rfl,K2⟩
theorem specStrictOk_any (w:World)(v vF vR:Value)(dss:List (List Dd))(f rows:List Int)(h:RdW w v dss)(hf:Rd w vF f)(hr:Rd w vR rows)(hcap:rows.length≤capZ vR)(hx:dss.length≤1048576)(hm:∀i,i<dss.length→(dss.getD i []).length≤1048576)(hfl:f.length≤1048576)(hrl:rows.length≤1048576):
  Calls Tryz.prog 21 #[v,.agg #[vF,vR]] w fun e w'=>e = .returned (.bool (strictB dss f rows))∧Keep w w':=by
 have C:=fun (W:World) (kW:Keep w W)=>specTaleOk_any W v vF vR dss f rows (h.keep kW) (hf.keep kW) (hr.keep kW) hcap hx hm hfl hrl
 have KK:Keep w ((w.alloc (.cells #[vF,vR] 31)).drew):=((Keep.refl w).alloc _).drew;have z1:w.heap.size<((w.alloc (.cells #[vF,vR] 31)).drew).heap.size:=by rw[heap_drew,heap_size];omega
 have b0:((w.alloc (.cells #[vF,vR] 31)).drew).cell? ⟨w.heap.size,0,none⟩=some vF:=box_cell (Keep.refl _) 0;have b1:((w.alloc (.cells #[vF,vR] 31)).drew).cell? ⟨w.heap.size,1,none⟩=some vR:=box_cell (Keep.refl _) 1;cases hb:taleB dss f rows
 ·
  have HE:Hid (strictB dss f rows=false):=Lib.hid (by rw[strictB,hb];rfl);rw[hb] at C;obtain⟨aF,cF,rfl,-⟩:=hf;obtain⟨aR,cR,rfl,-⟩:=hr;go_enter Tryz.func21,Tryz.ntmps21
  go_wp2;refine wp_region_held_drew (S:=(fun w'=>w'.cell? ⟨w.heap.size,0,none⟩=some (.slice aF f.length cF)∧w'.cell? ⟨w.heap.size,1,none⟩=some (.slice aR rows.length cR))) (by kernel_rfl) ?_ (fun hHeld=>?_)
  · go_keep
  refine takeQ 0 5 (v:=?_) ?_ ?_;rotate_left
  ·
   intro wx hSw;go_simp;with_reducible rfl
  refine takeQ 1 6 (v:=?_) ?_ ?_;rotate_left
  ·
   intro wx hSw;go_simp;with_reducible rfl
  simp only[Act.put,List.setIfInBounds_toArray,List.set_cons_zero,List.set_cons_succ];refine wpAnyH_ready (rs:=[2]) (by kernel_rfl) (by simp) ?_;refine AllReadyH.cons rfl (fun K hK=>?_) AllReadyH.nil;go_simp;refine (C _ KK).mono ?_;rintro e wz ⟨rfl,kk⟩;have z0:=z1;have KK:=KK.trans kk;have z1:=Nat.lt_of_lt_of_le z1 kk.size;go_wp2_with fail
  refine hK.out _ _ ?_ (fun hHeld=>?_)
  · exact⟨(kk.cell z0).trans hHeld.1,(kk.cell z0).trans hHeld.2⟩
  clear hK K;refine takeQ 3 8 (v:=?_) ?_ ?_;rotate_left
  ·
   intro wx hSw;go_simp;with_reducible rfl
  simp only[Act.put,List.setIfInBounds_toArray,List.set_cons_zero,List.set_cons_succ];refine skipH 4 9 rfl rfl (by kernel_rfl) (by kernel_rfl) (by kernel_rfl) (fun _ _ _ h=>h) (by rfl) (by assumption) ?_;simp only[Act.put,List.setIfInBounds_toArray,List.set_cons_zero,List.set_cons_succ];refine skipH 5 10 rfl rfl (by kernel_rfl) (by kernel_rfl) (by kernel_rfl) (fun _ _ _ h=>h) (by rfl) (by assumption) ?_;simp only[Act.put,List.setIfInBounds_toArray,List.set_cons_zero,List.set_cons_succ];refine skipH 6 11 rfl rfl (by kernel_rfl) (by kernel_rfl) (by kernel_rfl) (fun _ _ _ h=>h) (by rfl) (by assumption) ?_;simp only[Act.put,List.setIfInBounds_toArray,List.set_cons_zero,List.set_cons_succ];refine skipH 7 12 rfl rfl (by kernel_rfl) (by kernel_rfl) (by kernel_rfl) (fun _ _ _ h=>h) (by rfl) (by assumption) ?_;refine takeQ 8 13 (v:=?_) ?_ ?_;rotate_left
  ·
   intro wx hSw;go_simp;with_reducible rfl
  refine takeQ 9 4 (v:=?_) ?_ ?_;rotate_left
  ·
   intro wx hSw;go_simp;with_reducible rfl
  simp only[Act.put,List.setIfInBounds_toArray,List.set_cons_zero,List.set_cons_succ];refine wpAnyH_done (by kernel_rfl) ?_ _;go_wp2;go_ret;exact⟨by rw[HE.out];rfl,KK⟩
 ·
  obtain⟨⟨u1,u2⟩,e1,h12,r2,r3,r4,s1,s2,s3⟩:=tale_facts hb;have TW:=(tale_webs hb).1;rw[hb] at C;have CL:=fun (W:World) (kW:Keep w W) (v2:Value) (a2:RdE W v2 (evsW dss dss.length))=>l13Ok_any W v2 vF vR (evsW dss dss.length) f rows a2 (hf.keep kW) (hr.keep kW) h12 TW r2 r3 (by omega) (fun i hi=>s3 i (by omega))
  have HC:=Lib.hid CL;clear CL s1 TW;obtain⟨aF,cF,rfl,-⟩:=hf;obtain⟨aR,cR,rfl,-⟩:=hr;have HE0:Hid (strictB dss f rows=(!roundB (pwL (evsW dss dss.length) f rows)&&!roundB (liftL (xwL (evsW dss dss.length) f rows) (clsB (evsW dss dss.length))))):=Lib.hid (by rw[strictB,hb,e1];rfl);clear e1 hb;generalize (!roundB (pwL (evsW dss dss.length) f rows)&&!roundB (liftL (xwL (evsW dss dss.length) f rows) (clsB (evsW dss dss.length))))=AN at HE0 HC;go_enter Tryz.func21,Tryz.ntmps21
  go_wp2;refine wp_region_held_drew (S:=(fun w'=>w'.cell? ⟨w.heap.size,0,none⟩=some (.slice aF f.length cF)∧w'.cell? ⟨w.heap.size,1,none⟩=some (.slice aR rows.length cR))) (by kernel_rfl) ?_ (fun hHeld=>?_)
  · go_keep
  refine takeQ 0 5 (v:=?_) ?_ ?_;rotate_left
  ·
   intro wx hSw;go_simp;with_reducible rfl
  refine takeQ 1 6 (v:=?_) ?_ ?_;rotate_left
  ·
   intro wx hSw;go_simp;with_reducible rfl
  simp only[Act.put,List.setIfInBounds_toArray,List.set_cons_zero,List.set_cons_succ];refine wpAnyH_ready (rs:=[2]) (by kernel_rfl) (by simp) ?_;refine AllReadyH.cons rfl (fun K hK=>?_) AllReadyH.nil;go_simp;refine (C _ KK).mono ?_;rintro e wz ⟨rfl,kk⟩;have z0:=z1;have KK:=KK.trans kk;have z1:=Nat.lt_of_lt_of_le z1 kk.size;go_wp2_with fail
  refine hK.out _ _ ?_ (fun hHeld=>?_)
  · exact⟨(kk.cell z0).trans hHeld.1,(kk.cell z0).trans hHeld.2⟩
  clear hK K;refine takeQ 3 8 (v:=?_) ?_ ?_;rotate_left
  ·
   intro wx hSw;go_simp;with_reducible rfl
  refine takeQ 4 9 (v:=?_) ?_ ?_;rotate_left
  ·
   intro wx hSw;go_simp;with_reducible rfl
  refine takeQ 6 11 (v:=?_) ?_ ?_;rotate_left
  ·
   intro wx hSw;go_simp;with_reducible rfl
  simp only[Act.put,List.setIfInBounds_toArray,List.set_cons_zero,List.set_cons_succ];refine wpAnyH_ready (rs:=[5]) (by kernel_rfl) (by simp) ?_;refine AllReadyH.cons rfl (fun K hK=>?_) AllReadyH.nil;go_simp;refine (l6Events_any _ _ _ (h.keep KK) u1 u2).mono ?_;rintro e wz2 ⟨v2,rfl,a2,kk⟩;have z0:=z1;have KK:=KK.trans kk;have z1:=Nat.lt_of_lt_of_le z1 kk.size;have a2r:=a2.rd;obtain⟨ae,ce,rfl,-⟩:=id a2r;go_wp2_with fail
  refine hK.out _ _ ?_ (fun hHeld=>?_)
  · exact⟨(kk.cell z0).trans hHeld.1,(kk.cell z0).trans hHeld.2⟩
  clear hK K;refine wpAnyH_ready (rs:=[7]) (by kernel_rfl) (by simp) ?_;refine AllReadyH.cons rfl (fun K hK=>?_) AllReadyH.nil;go_simp;refine (HC.out _ KK _ a2r).mono ?_;rintro e wz3 ⟨rfl,kk⟩;have z0:=z1;have KK:=KK.trans kk;have z1:=Nat.lt_of_lt_of_le z1 kk.size;go_wp2_with fail
  refine hK.out _ _ ?_ (fun hHeld=>?_)
  · exact⟨(kk.cell z0).trans hHeld.1,(kk.cell z0).trans hHeld.2⟩
  clear hK K;refine takeQ 8 13 (v:=?_) ?_ ?_;rotate_left
  ·
   intro wx hSw;go_simp;with_reducible rfl
  refine takeQ 9 4 (v:=?_) ?_ ?_;rotate_left
  ·
   intro wx hSw;go_simp;with_reducible rfl
  simp only[Act.put,List.setIfInBounds_toArray,List.set_cons_zero,List.set_cons_succ];refine wpAnyH_done (by kernel_rfl) ?_ _;go_wp2;go_ret;exact⟨by rw[HE0.out];rfl,KK⟩
end Go.Proofs.YtgikcfdckddgpabGreat
