/- Gathered texts. -/
import Derived.Test.YtgikcfdckddgpaaGreatNE
import Derived.Test.YtgikcfdckddgpaaGreatMQ
import Derived.Test.YtgikcfdckddgpaaGreatMO
set_option maxRecDepth 100000
set_option maxHeartbeats 8000000
namespace Go.Proofs.YtgikcfdckddgpaaGreat
open Go.ChangeShapes Go.WideShapes Go.ChangeAt Go.RowKit
theorem l13Ok_any (w:World)(v vF vR:Value)(es:List Ev)(f rows:List Int)(h:RdE w v es)(hf:Rd w vF f)(hr:Rd w vR rows)(hn:es.length≤12)(W:Webs es f rows)(hlr:rows.length≤36)(hrw:∀j,j<rows.length→0≤rows.getD j 0∧rows.getD j 0<(es.length:Int))(hl:(idxB rdE es).length≤f.length)(hb:∀i,i<(idxB rdE es).length→0≤f.getD i 0∧f.getD i 0<(es.length:Int)):
  Calls Tryz.prog 73 #[v,.agg #[vF,vR]] w fun e w'=>e = .returned (.bool (!roundB (pwL es f rows)&&!roundB (liftL (xwL es f rows) (clsB es))))∧Keep w w':=by
 have hpw:webB (pwL es f rows)=true:=(show Web es.length (pwL es f rows) from (web_four (plc_line hn).1 W.fw W.rw' W.ag).1).b;have hsw:Web es.length (xwL es f rows):=(web_four (beh_line hn).1 W.fw W.rw' W.ag).1;have hcl:(clsB es).length=es.length:=by unfold clsB;rw[if_pos hn,List.length_map]
 have hlw:=web_lift hsw hcl;have HL:Hid ((clsB es).map (fun c=>liftR (xwL es f rows) (clsB es) c (xwL es f rows).length)=liftL (xwL es f rows) (clsB es)):=Lib.hid (by unfold liftL;rw[if_pos ⟨hsw.b,by rw[hcl,hsw.2.1]⟩]);have hsl:Web (xwL es f rows).length (xwL es f rows):=by rw[hsw.2.1];exact hsw
 have hcc:(clsB es).length=(xwL es f rows).length:=by rw[hcl,hsw.2.1]
 have hlb:webB (liftL (xwL es f rows) (clsB es))=true:=hlw.1.b;have C1:=Lib.hid (fun (U:World) (kU:Keep w U)=>l11Web_any U v vF vR es f rows (h.keep kU) (hf.keep kU) (hr.keep kU) hn W hlr hrw hl hb);have C2:=Lib.hid (fun (U:World) (kU:Keep w U)=>l13Web_any U v vF vR es f rows (h.keep kU) (hf.keep kU) (hr.keep kU) hn W hlr hrw hl hb);have C3:=Lib.hid (fun (U:World) (kU:Keep w U)=>specClassesOf_any U v es (h.keep kU) (by omega));clear hlw hsw hcl W hlr hrw hl hb hn;obtain⟨aF,cF,rfl,-⟩:=hf;obtain⟨aR,cR,rfl,-⟩:=hr;obtain⟨ae,ce,rfl,-⟩:=h;generalize pwL es f rows=PW at *;generalize xwL es f rows=SW at *;generalize clsB es=CL at *;go_enter Tryz.func73,Tryz.ntmps73
 go_wp2_with fail
 refine (C1.out _ ((Keep.refl w).alloc _)).mono ?_;rintro e w1 ⟨v1,rfl,o1,k1⟩;have c0:=box_cell k1 0;have c1:=box_cell k1 1;simp at c0 c1;have z0:=box_size k1;have K1:=((Keep.refl w).alloc _).trans k1;go_wp2_with fail
 refine (l3Round_any _ _ _ _ o1.row hpw).mono ?_;rintro e w2 ⟨rfl,k2⟩;have K2:=K1.trans k2;replace c0:=(k2.cell z0).trans c0;replace c1:=(k2.cell z0).trans c1;cases hq:roundB PW
 ·
  go_wp2_with fail
  refine (C2.out _ K2).mono ?_;rintro e w3 ⟨v3,rfl,o3,k3⟩;have K3:=K2.trans k3;go_wp2_with fail
  refine (C3.out _ K3).mono ?_;rintro e w4 ⟨v4,rfl,o4,k4⟩;have K4:=K3.trans k4;go_wp2_with fail
  refine (l3Lift_any _ _ _ SW CL (o3.rd.keep k4) o4.rd hsl hcc).mono ?_;rw[HL.out];rintro e w5 ⟨v5,rfl,o5,k5⟩;have K5:=K4.trans k5;go_wp2_with fail
  refine (l3Round_any _ _ _ _ o5 hlb).mono ?_;rintro e w6 ⟨rfl,k6⟩;have K6:=K5.trans k6;go_wp2;go_ret;exact⟨by rw[hq];rfl,K6⟩
 ·
  go_wp2;go_ret;exact⟨by rw[hq];rfl,K2⟩
theorem specStrictOk_any (w:World)(v vF vR:Value)(dss:List (List Dd))(f rows:List Int)(h:RdW w v dss)(hf:Rd w vF f)(hr:Rd w vR rows)(hcap:rows.length≤capZ vR)(hx:dss.length≤1048576)(hm:∀i,i<dss.length→(dss.getD i []).length≤1048576)(hfl:f.length≤1048576)(hrl:rows.length≤1048576):
  Calls Tryz.prog 30 #[v,.agg #[vF,vR]] w fun e w'=>e = .returned (.bool (strictB dss f rows))∧Keep w w':=by
 have C:=fun (W:World) (kW:Keep w W)=>specTaleOk_any W v vF vR dss f rows (h.keep kW) (hf.keep kW) (hr.keep kW) hcap hx hm hfl hrl
 have KK:Keep w ((w.alloc (.cells #[vF,vR] 27)).drew):=((Keep.refl w).alloc _).drew;have z1:w.heap.size<((w.alloc (.cells #[vF,vR] 27)).drew).heap.size:=by rw[heap_drew,heap_size];omega
 have b0:((w.alloc (.cells #[vF,vR] 27)).drew).cell? ⟨w.heap.size,0,none⟩=some vF:=box_cell (Keep.refl _) 0;have b1:((w.alloc (.cells #[vF,vR] 27)).drew).cell? ⟨w.heap.size,1,none⟩=some vR:=box_cell (Keep.refl _) 1;cases hb:taleB dss f rows
 ·
  have HE:Hid (strictB dss f rows=false):=Lib.hid (by rw[strictB,hb];rfl);rw[hb] at C;obtain⟨aF,cF,rfl,-⟩:=hf;obtain⟨aR,cR,rfl,-⟩:=hr;go_enter Tryz.func30,Tryz.ntmps30
  go_wp2;refine wp_region_held_drew (S:=(fun w'=>w'.cell? ⟨w.heap.size,0,none⟩=some (.slice aF f.length cF)∧w'.cell? ⟨w.heap.size,1,none⟩=some (.slice aR rows.length cR))) (by kernel_rfl) ?_ (fun hHeld=>?_)
  · go_keep
  refine takeQ 0 5 (v:=?_) ?_ ?_;rotate_left
  ·
   intro wx hSw;go_simp;with_reducible rfl
  refine takeQ 1 6 (v:=?_) ?_ ?_;rotate_left
  ·
   intro wx hSw;go_simp;with_reducible rfl
  simp only[Act.put,List.setIfInBounds_toArray,List.set_cons_zero,List.set_cons_succ];refine wpAnyH_ready (rs:=[2]) (by kernel_rfl) (by simp) ?_;refine AllReadyH.cons rfl (fun K hK=>?_) AllReadyH.nil;go_simp;refine (C _ KK).mono ?_;rintro e wz ⟨rfl,kk⟩;have z0:=z1;have KK:=KK.trans kk;have z1:=Nat.lt_of_lt_of_le z1 kk.size;go_wp2_with fail
  refine hK.out _ _ ?_ (fun hHeld=>?_)
  · exact⟨(kk.cell z0).trans hHeld.1,(kk.cell z0).trans hHeld.2⟩
  clear hK K;refine takeQ 3 8 (v:=?_) ?_ ?_;rotate_left
  ·
   intro wx hSw;go_simp;with_reducible rfl
  simp only[Act.put,List.setIfInBounds_toArray,List.set_cons_zero,List.set_cons_succ];refine skipH 4 9 rfl rfl (by kernel_rfl) (by kernel_rfl) (by kernel_rfl) (fun _ _ _ h=>h) (by rfl) (by assumption) ?_;simp only[Act.put,List.setIfInBounds_toArray,List.set_cons_zero,List.set_cons_succ];refine skipH 5 10 rfl rfl (by kernel_rfl) (by kernel_rfl) (by kernel_rfl) (fun _ _ _ h=>h) (by rfl) (by assumption) ?_;simp only[Act.put,List.setIfInBounds_toArray,List.set_cons_zero,List.set_cons_succ];refine skipH 6 11 rfl rfl (by kernel_rfl) (by kernel_rfl) (by kernel_rfl) (fun _ _ _ h=>h) (by rfl) (by assumption) ?_;simp only[Act.put,List.setIfInBounds_toArray,List.set_cons_zero,List.set_cons_succ];refine skipH 7 12 rfl rfl (by kernel_rfl) (by kernel_rfl) (by kernel_rfl) (fun _ _ _ h=>h) (by rfl) (by assumption) ?_;refine takeQ 8 13 (v:=?_) ?_ ?_;rotate_left
  ·
   intro wx hSw;go_simp;with_reducible rfl
  refine takeQ 9 4 (v:=?_) ?_ ?_;rotate_left
  ·
   intro wx hSw;go_simp;with_reducible rfl
  simp only[Act.put,List.setIfInBounds_toArray,List.set_cons_zero,List.set_cons_succ];refine wpAnyH_done (by kernel_rfl) ?_ _;go_wp2;go_ret;exact⟨by rw[HE.out];rfl,KK⟩
 ·
  obtain⟨⟨u1,u2⟩,e1,h12,r2,r3,r4,s1,s2,s3⟩:=tale_facts hb;have TW:=(tale_webs hb).1;rw[hb] at C;have CL:=fun (W:World) (kW:Keep w W) (v2:Value) (a2:RdE W v2 (evsW dss dss.length))=>l13Ok_any W v2 vF vR (evsW dss dss.length) f rows a2 (hf.keep kW) (hr.keep kW) h12 TW r2 r3 (by omega) (fun i hi=>s3 i (by omega))
  have HC:=Lib.hid CL;clear CL s1 TW;obtain⟨aF,cF,rfl,-⟩:=hf;obtain⟨aR,cR,rfl,-⟩:=hr;have HE0:Hid (strictB dss f rows=(!roundB (pwL (evsW dss dss.length) f rows)&&!roundB (liftL (xwL (evsW dss dss.length) f rows) (clsB (evsW dss dss.length))))):=Lib.hid (by rw[strictB,hb,e1];rfl);clear e1 hb;generalize (!roundB (pwL (evsW dss dss.length) f rows)&&!roundB (liftL (xwL (evsW dss dss.length) f rows) (clsB (evsW dss dss.length))))=AN at HE0 HC;go_enter Tryz.func30,Tryz.ntmps30
  go_wp2;refine wp_region_held_drew (S:=(fun w'=>w'.cell? ⟨w.heap.size,0,none⟩=some (.slice aF f.length cF)∧w'.cell? ⟨w.heap.size,1,none⟩=some (.slice aR rows.length cR))) (by kernel_rfl) ?_ (fun hHeld=>?_)
  · go_keep
  refine takeQ 0 5 (v:=?_) ?_ ?_;rotate_left
  ·
   intro wx hSw;go_simp;with_reducible rfl
  refine takeQ 1 6 (v:=?_) ?_ ?_;rotate_left
  ·
   intro wx hSw;go_simp;with_reducible rfl
  simp only[Act.put,List.setIfInBounds_toArray,List.set_cons_zero,List.set_cons_succ];refine wpAnyH_ready (rs:=[2]) (by kernel_rfl) (by simp) ?_;refine AllReadyH.cons rfl (fun K hK=>?_) AllReadyH.nil;go_simp;refine (C _ KK).mono ?_;rintro e wz ⟨rfl,kk⟩;have z0:=z1;have KK:=KK.trans kk;have z1:=Nat.lt_of_lt_of_le z1 kk.size;go_wp2_with fail
  refine hK.out _ _ ?_ (fun hHeld=>?_)
  · exact⟨(kk.cell z0).trans hHeld.1,(kk.cell z0).trans hHeld.2⟩
  clear hK K;refine takeQ 3 8 (v:=?_) ?_ ?_;rotate_left
  ·
   intro wx hSw;go_simp;with_reducible rfl
  refine takeQ 4 9 (v:=?_) ?_ ?_;rotate_left
  ·
   intro wx hSw;go_simp;with_reducible rfl
  refine takeQ 6 11 (v:=?_) ?_ ?_;rotate_left
  ·
   intro wx hSw;go_simp;with_reducible rfl
  simp only[Act.put,List.setIfInBounds_toArray,List.set_cons_zero,List.set_cons_succ];refine wpAnyH_ready (rs:=[5]) (by kernel_rfl) (by simp) ?_;refine AllReadyH.cons rfl (fun K hK=>?_) AllReadyH.nil;go_simp;refine (l6Events_any _ _ _ (h.keep KK) u1 u2).mono ?_;rintro e wz2 ⟨v2,rfl,a2,kk⟩;have z0:=z1;have KK:=KK.trans kk;have z1:=Nat.lt_of_lt_of_le z1 kk.size;have a2r:=a2.rd;obtain⟨ae,ce,rfl,-⟩:=id a2r;go_wp2_with fail
  refine hK.out _ _ ?_ (fun hHeld=>?_)
  · exact⟨(kk.cell z0).trans hHeld.1,(kk.cell z0).trans hHeld.2⟩
  clear hK K;refine wpAnyH_ready (rs:=[7]) (by kernel_rfl) (by simp) ?_;refine AllReadyH.cons rfl (fun K hK=>?_) AllReadyH.nil;go_simp;refine (HC.out _ KK _ a2r).mono ?_;rintro e wz3 ⟨rfl,kk⟩;have z0:=z1;have KK:=KK.trans kk;have z1:=Nat.lt_of_lt_of_le z1 kk.size;go_wp2_with fail
  refine hK.out _ _ ?_ (fun hHeld=>?_)
  · exact⟨(kk.cell z0).trans hHeld.1,(kk.cell z0).trans hHeld.2⟩
  clear hK K;refine takeQ 8 13 (v:=?_) ?_ ?_;rotate_left
  ·
   intro wx hSw;go_simp;with_reducible rfl
  refine takeQ 9 4 (v:=?_) ?_ ?_;rotate_left
  ·
   intro wx hSw;go_simp;with_reducible rfl
  simp only[Act.put,List.setIfInBounds_toArray,List.set_cons_zero,List.set_cons_succ];refine wpAnyH_done (by kernel_rfl) ?_ _;go_wp2;go_ret;exact⟨by rw[HE0.out];rfl,KK⟩
theorem drawStrictOk_any (w:World)(a:Option Addr)(cap:Nat)(zs:List Int)(hb:RdB w w.heap.size a zs):
  Calls Tryz.prog 27 #[.slice a zs.length cap] w fun e w'=>∃v vF vR dss f r bs N,e = .returned (.tuple #[v,.agg #[vF,vR]])∧RdXN w' bs N v dss∧(dss.length≤6∧∀i,i<dss.length→(dss.getD i []).length≤7)∧Own w' N vF f∧Own w' N vR r∧(f.length≤13∧r.length≤36)∧(w.heap.size<bs∧bs≤N)∧Keep w w':=by
 have k0:Keep w (w.alloc (taleC nilV nilV)):=(Keep.refl w).alloc _;have s0:(w.alloc (taleC nilV nilV)).heap.size=w.heap.size+1:=heap_size _ _;have H0:(w.alloc (taleC nilV nilV)).heap[w.heap.size]? = some (taleC nilV nilV):=heap_alloc_new w _;have hb0:RdB (w.alloc (taleC nilV nilV)) (w.alloc (taleC nilV nilV)).heap.size a zs:=RdB.up hb k0;go_enter Tryz.func27,Tryz.ntmps27
 go_wp2_with fail
 refine (drawTaleOk_any _ a cap zs hb0).mono ?_;rintro e w2 ⟨v,vF,vR,dss,f,r,bs,N,rfl,hR,hs,hF,hO,hl,hbs,k2⟩;have H2:=blk_kept H0 k2.grownBy (by simp);have K2:=k0.trans k2;rw[s0] at hbs;obtain⟨aF,cF,rfl⟩:=hF.shp;obtain⟨aR,cR,rfl⟩:=hO.shp;have S6:StT w2 w2 w.heap.size nilV nilV:=⟨H2,grown_drewN w2 0 _⟩;obtain⟨r0,r1⟩:=S6.cells;have g0:=S6.free 0;have g1:=S6.free 1;have hZ:=(S6.set0 (.slice aF f.length cF)).set1 (.slice aR r.length cR);have HR:=Lib.hid (hR.kept hZ.2 (by intro g hg;simp at hg;omega));have HF:=Lib.hid (own_kept hF hZ.2 (by intro g hg;simp at hg;omega));have HO:=Lib.hid (own_kept hO hZ.2 (by intro g hg;simp at hg;omega));have HK:=Lib.hid (K2.grown hZ.2 (by intro g hg;simp at hg;omega));have HS:=Lib.hid hs;have HL:=Lib.hid hl;have HB:=Lib.hid hbs;have HZ:=Lib.hid hZ.1;clear hR hs hF hO k2 H0 H2 K2 k0 s0 hb0 hl hbs hZ S6;go_wp2;refine bodyPost_ret (results_tmp_row (by rfl) _ _ w.heap.size _ _ (0,0) _ v rfl HZ.out rfl Tryz.underlying27 rfl (by kernel_rfl)) rfl ?_;exact⟨v,_,_,dss,f,r,bs,N,rfl,HR.out,HS.out,HF.out,HO.out,HL.out,⟨by have:=HB.out.1;omega,HB.out.2⟩,HK.out⟩
end Go.Proofs.YtgikcfdckddgpaaGreat
