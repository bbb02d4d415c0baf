/- Gathered texts. -/
import Derived.Test.YtgikcfdckddgpaaGreatMR
import Derived.Test.YtgikcfdckddgpaaGreatMO
set_option maxRecDepth 100000
set_option maxHeartbeats 8000000
namespace Go.Proofs.YtgikcfdckddgpaaGreat
open Go.ChangeShapes Go.WideShapes Go.ChangeAt Go.RowKit
theorem specFromOthers_any (w:World)(v vf:Value)(dss:List (List Dd))(f:List Int)(h:RdW w v dss)(hf:Rd w vf f)(hx:dss.length≤1048576)(hm:∀i,i<dss.length→(dss.getD i []).length≤1048576)(hfl:f.length≤1048576):
  Calls Tryz.prog 18 #[v,vf] w fun e w'=>∃v',e = .returned v'∧Row w' w.heap.size v' (owB dss f)∧Keep w w':=by
 cases hs:sourceB dss f
 ·
  have HE:Hid (owB dss f=[]):=Lib.hid (by rw[owB,hs];rfl);have C:=specSourceOk_any w v vf dss f h hf hx hm hfl;rw[hs] at C;go_enter Tryz.func18,Tryz.ntmps18
  go_wp2_with fail
  refine C.mono ?_;rintro e w1 ⟨rfl,k1⟩;have s1:=k1.size;go_wp2;go_ret;exact⟨_,rfl,by rw[HE.out];exact (row_empty w1 _).base_le s1,k1.alloc _⟩
 ·
  have hs2:=hs;rw[sourceB,Bool.and_eq_true] at hs2;obtain⟨hb,hs2⟩:=hs2;rw[eventsB,if_pos hb] at hs2;have HE:Hid (owB dss f=owL (evsW dss dss.length) f):=Lib.hid (by rw[owB,if_pos hs,eventsB,if_pos hb]);obtain⟨u1,u2⟩:=workB_useQ hb;have h12:=(events_law hb).1;obtain⟨sl,su⟩:=src_use h12 hs2
  have g3:3≤(evsW dss dss.length).length:=by
   obtain⟨⟨t,ht⟩,_⟩:=evs_good u2 dss.length (Nat.le_refl _);rw[ht,List.length_append];exact Nat.le_add_right _ _
  have HW:Hid (Web (evsW dss dss.length).length (fwL (evsW dss dss.length) f)):=Lib.hid (fw_line (n:=(evsW dss dss.length).length) (rs:=idxB rdE (evsW dss dss.length)) (f:=f) h12 (idxB rdE (evsW dss dss.length)).length (fun i hi=>rd_in h12 hi) (fun i hi=>(su i hi).1)).1;have C:=specSourceOk_any w v vf dss f h hf hx hm hfl;rw[hs] at C;go_enter Tryz.func18,Tryz.ntmps18
  go_wp2_with fail
  refine C.mono ?_;rintro e w1 ⟨rfl,k1⟩;have s1:=k1.size;go_wp2_with fail
  refine (l6Events_any _ _ _ (h.keep k1) u1 u2).mono ?_;rintro e w2 ⟨v2,rfl,a2,k2⟩;have s2:=k2.size;go_wp2_with fail
  refine (l12Others_any _ _ _ _ _ a2.rd (hf.keep (k1.trans k2)) g3 h12 HW.out (by omega) (fun i hi=>(su i hi).1)).mono ?_;rintro e w3 ⟨v3,rfl,r3,k3⟩;go_wp2;go_ret;exact⟨_,rfl,by rw[HE.out];exact r3.base_le (by omega),(k1.trans k2).trans k3⟩
theorem specEachOk_any (w:World)(v vF vR:Value)(dss:List (List Dd))(f rows:List Int)(h:RdW w v dss)(hf:Rd w vF f)(hr:Rd w vR rows)(hcap:rows.length≤capZ vR)(hx:dss.length≤1048576)(hm:∀i,i<dss.length→(dss.getD i []).length≤1048576)(hfl:f.length≤1048576)(hrl:rows.length≤1048576):
  Calls Tryz.prog 23 #[v,.agg #[vF,vR]] w fun e w'=>e = .returned (.bool (eachB dss f rows))∧Keep w w':=by
 have C:=fun (W:World) (kW:Keep w W)=>specTaleOk_any W v vF vR dss f rows (h.keep kW) (hf.keep kW) (hr.keep kW) hcap hx hm hfl hrl
 have KK:Keep w ((w.alloc (.cells #[vF,vR] 27)).drew):=((Keep.refl w).alloc _).drew;have z1:w.heap.size<((w.alloc (.cells #[vF,vR] 27)).drew).heap.size:=by rw[heap_drew,heap_size];omega
 have b0:((w.alloc (.cells #[vF,vR] 27)).drew).cell? ⟨w.heap.size,0,none⟩=some vF:=box_cell (Keep.refl _) 0;have b1:((w.alloc (.cells #[vF,vR] 27)).drew).cell? ⟨w.heap.size,1,none⟩=some vR:=box_cell (Keep.refl _) 1;cases hb:taleB dss f rows
 ·
  have HE:Hid (eachB dss f rows=false):=Lib.hid (by rw[eachB,hb];rfl);rw[hb] at C;obtain⟨aF,cF,rfl,-⟩:=hf;obtain⟨aR,cR,rfl,-⟩:=hr;go_enter Tryz.func23,Tryz.ntmps23
  go_wp2;refine wp_region_held_drew (S:=(fun w'=>w'.cell? ⟨w.heap.size,0,none⟩=some (.slice aF f.length cF)∧w'.cell? ⟨w.heap.size,1,none⟩=some (.slice aR rows.length cR))) (by kernel_rfl) ?_ (fun hHeld=>?_)
  · go_keep
  refine takeQ 0 5 (v:=?_) ?_ ?_;rotate_left
  ·
   intro wx hSw;go_simp;with_reducible rfl
  refine takeQ 1 6 (v:=?_) ?_ ?_;rotate_left
  ·
   intro wx hSw;go_simp;with_reducible rfl
  simp only[Act.put,List.setIfInBounds_toArray,List.set_cons_zero,List.set_cons_succ];refine wpAnyH_ready (rs:=[2]) (by kernel_rfl) (by simp) ?_;refine AllReadyH.cons rfl (fun K hK=>?_) AllReadyH.nil;go_simp;refine (C _ KK).mono ?_;rintro e wz ⟨rfl,kk⟩;have z0:=z1;have KK:=KK.trans kk;have z1:=Nat.lt_of_lt_of_le z1 kk.size;go_wp2_with fail
  refine hK.out _ _ ?_ (fun hHeld=>?_)
  · exact⟨(kk.cell z0).trans hHeld.1,(kk.cell z0).trans hHeld.2⟩
  clear hK K;refine takeQ 3 8 (v:=?_) ?_ ?_;rotate_left
  ·
   intro wx hSw;go_simp;with_reducible rfl
  simp only[Act.put,List.setIfInBounds_toArray,List.set_cons_zero,List.set_cons_succ];refine skipH 4 9 rfl rfl (by kernel_rfl) (by kernel_rfl) (by kernel_rfl) (fun _ _ _ h=>h) (by rfl) (by assumption) ?_;simp only[Act.put,List.setIfInBounds_toArray,List.set_cons_zero,List.set_cons_succ];refine skipH 5 10 rfl rfl (by kernel_rfl) (by kernel_rfl) (by kernel_rfl) (fun _ _ _ h=>h) (by rfl) (by assumption) ?_;simp only[Act.put,List.setIfInBounds_toArray,List.set_cons_zero,List.set_cons_succ];refine skipH 6 11 rfl rfl (by kernel_rfl) (by kernel_rfl) (by kernel_rfl) (fun _ _ _ h=>h) (by rfl) (by assumption) ?_;simp only[Act.put,List.setIfInBounds_toArray,List.set_cons_zero,List.set_cons_succ];refine skipH 7 12 rfl rfl (by kernel_rfl) (by kernel_rfl) (by kernel_rfl) (fun _ _ _ h=>h) (by rfl) (by assumption) ?_;simp only[Act.put,List.setIfInBounds_toArray,List.set_cons_zero,List.set_cons_succ];refine skipH 8 13 rfl rfl (by kernel_rfl) (by kernel_rfl) (by kernel_rfl) (fun _ _ _ h=>h) (by rfl) (by assumption) ?_;simp only[Act.put,List.setIfInBounds_toArray,List.set_cons_zero,List.set_cons_succ];refine skipH 9 14 rfl rfl (by kernel_rfl) (by kernel_rfl) (by kernel_rfl) (fun _ _ _ h=>h) (by rfl) (by assumption) ?_;refine takeQ 10 15 (v:=?_) ?_ ?_;rotate_left
  ·
   intro wx hSw;go_simp;with_reducible rfl
  refine takeQ 11 4 (v:=?_) ?_ ?_;rotate_left
  ·
   intro wx hSw;go_simp;with_reducible rfl
  simp only[Act.put,List.setIfInBounds_toArray,List.set_cons_zero,List.set_cons_succ];refine wpAnyH_done (by kernel_rfl) ?_ _;go_wp2;go_ret;exact⟨by rw[HE.out];rfl,KK⟩
 ·
  obtain⟨⟨u1,u2⟩,e1,h12,r2,r3,r4,s1,s2,s3⟩:=tale_facts hb;obtain⟨TW,hpw⟩:=tale_webs hb;rw[hb] at C;have CL:=fun (W:World) (kW:Keep w W) (v2:Value) (a2:RdE W v2 (evsW dss dss.length))=>l11Web_any W v2 vF vR (evsW dss dss.length) f rows a2 (hf.keep kW) (hr.keep kW) h12 TW r2 r3 (by omega) (fun i hi=>s3 i (by omega))
  have HC:=Lib.hid CL;clear CL s1;obtain⟨aF,cF,rfl,-⟩:=hf;obtain⟨aR,cR,rfl,-⟩:=hr;have HE0:Hid (eachB dss f rows=!roundB (pwL (evsW dss dss.length) f rows)):=Lib.hid (by rw[eachB,hb,e1];rfl);clear e1 hb TW;cases hq:roundB (pwL (evsW dss dss.length) f rows)
  ·
   have HE:Hid (eachB dss f rows=true):=Lib.hid (by rw[HE0.out,hq];rfl);clear HE0;go_enter Tryz.func23,Tryz.ntmps23
   go_wp2;refine wp_region_held_drew (S:=(fun w'=>w'.cell? ⟨w.heap.size,0,none⟩=some (.slice aF f.length cF)∧w'.cell? ⟨w.heap.size,1,none⟩=some (.slice aR rows.length cR))) (by kernel_rfl) ?_ (fun hHeld=>?_)
   · go_keep
   refine takeQ 0 5 (v:=?_) ?_ ?_;rotate_left
   ·
    intro wx hSw;go_simp;with_reducible rfl
   refine takeQ 1 6 (v:=?_) ?_ ?_;rotate_left
   ·
    intro wx hSw;go_simp;with_reducible rfl
   simp only[Act.put,List.setIfInBounds_toArray,List.set_cons_zero,List.set_cons_succ];refine wpAnyH_ready (rs:=[2]) (by kernel_rfl) (by simp) ?_;refine AllReadyH.cons rfl (fun K hK=>?_) AllReadyH.nil;go_simp;refine (C _ KK).mono ?_;rintro e wz ⟨rfl,kk⟩;have z0:=z1;have KK:=KK.trans kk;have z1:=Nat.lt_of_lt_of_le z1 kk.size;go_wp2_with fail
   refine hK.out _ _ ?_ (fun hHeld=>?_)
   · exact⟨(kk.cell z0).trans hHeld.1,(kk.cell z0).trans hHeld.2⟩
   clear hK K;refine takeQ 3 8 (v:=?_) ?_ ?_;rotate_left
   ·
    intro wx hSw;go_simp;with_reducible rfl
   refine takeQ 4 9 (v:=?_) ?_ ?_;rotate_left
   ·
    intro wx hSw;go_simp;with_reducible rfl
   refine takeQ 6 11 (v:=?_) ?_ ?_;rotate_left
   ·
    intro wx hSw;go_simp;with_reducible rfl
   simp only[Act.put,List.setIfInBounds_toArray,List.set_cons_zero,List.set_cons_succ];refine wpAnyH_ready (rs:=[5]) (by kernel_rfl) (by simp) ?_;refine AllReadyH.cons rfl (fun K hK=>?_) AllReadyH.nil;go_simp;refine (l6Events_any _ _ _ (h.keep KK) u1 u2).mono ?_;rintro e wz2 ⟨v2,rfl,a2,kk⟩;have z0:=z1;have KK:=KK.trans kk;have z1:=Nat.lt_of_lt_of_le z1 kk.size;have a2r:=a2.rd;obtain⟨ae,ce,rfl,-⟩:=id a2r;go_wp2_with fail
   refine hK.out _ _ ?_ (fun hHeld=>?_)
   · exact⟨(kk.cell z0).trans hHeld.1,(kk.cell z0).trans hHeld.2⟩
   clear hK K;refine wpAnyH_ready (rs:=[7]) (by kernel_rfl) (by simp) ?_;refine AllReadyH.cons rfl (fun K hK=>?_) AllReadyH.nil;go_simp;refine (HC.out _ KK _ a2r).mono ?_;rintro e wz3 ⟨v3,rfl,o3,kk⟩;have z0:=z1;have KK:=KK.trans kk;have z1:=Nat.lt_of_lt_of_le z1 kk.size;go_wp2_with fail
   refine hK.out _ _ ?_ (fun hHeld=>?_)
   · exact⟨(kk.cell z0).trans hHeld.1,(kk.cell z0).trans hHeld.2⟩
   clear hK K;refine wpAnyH_ready (rs:=[8]) (by kernel_rfl) (by simp) ?_;refine AllReadyH.cons rfl (fun K hK=>?_) AllReadyH.nil;go_simp;refine (l3Round_any _ _ _ _ o3.row hpw).mono ?_;rw[hq];rintro e wz4 ⟨rfl,kk⟩;have z0:=z1;have KK:=KK.trans kk;have z1:=Nat.lt_of_lt_of_le z1 kk.size;go_wp2_with fail
   refine hK.out _ _ ?_ (fun hHeld=>?_)
   · exact⟨(kk.cell z0).trans hHeld.1,(kk.cell z0).trans hHeld.2⟩
   clear hK K;refine takeQ 9 14 (v:=?_) ?_ ?_;rotate_left
   ·
    intro wx hSw;go_simp;with_reducible rfl
   refine takeQ 10 15 (v:=?_) ?_ ?_;rotate_left
   ·
    intro wx hSw;go_simp;with_reducible rfl
   refine takeQ 11 4 (v:=?_) ?_ ?_;rotate_left
   ·
    intro wx hSw;go_simp;with_reducible rfl
   simp only[Act.put,List.setIfInBounds_toArray,List.set_cons_zero,List.set_cons_succ];refine wpAnyH_done (by kernel_rfl) ?_ _;go_wp2;go_ret;exact⟨by rw[HE.out];rfl,KK⟩
  ·
   have HE:Hid (eachB dss f rows=false):=Lib.hid (by rw[HE0.out,hq];rfl);clear HE0;go_enter Tryz.func23,Tryz.ntmps23
   go_wp2;refine wp_region_held_drew (S:=(fun w'=>w'.cell? ⟨w.heap.size,0,none⟩=some (.slice aF f.length cF)∧w'.cell? ⟨w.heap.size,1,none⟩=some (.slice aR rows.length cR))) (by kernel_rfl) ?_ (fun hHeld=>?_)
   · go_keep
   refine takeQ 0 5 (v:=?_) ?_ ?_;rotate_left
   ·
    intro wx hSw;go_simp;with_reducible rfl
   refine takeQ 1 6 (v:=?_) ?_ ?_;rotate_left
   ·
    intro wx hSw;go_simp;with_reducible rfl
   simp only[Act.put,List.setIfInBounds_toArray,List.set_cons_zero,List.set_cons_succ];refine wpAnyH_ready (rs:=[2]) (by kernel_rfl) (by simp) ?_;refine AllReadyH.cons rfl (fun K hK=>?_) AllReadyH.nil;go_simp;refine (C _ KK).mono ?_;rintro e wz ⟨rfl,kk⟩;have z0:=z1;have KK:=KK.trans kk;have z1:=Nat.lt_of_lt_of_le z1 kk.size;go_wp2_with fail
   refine hK.out _ _ ?_ (fun hHeld=>?_)
   · exact⟨(kk.cell z0).trans hHeld.1,(kk.cell z0).trans hHeld.2⟩
   clear hK K;refine takeQ 3 8 (v:=?_) ?_ ?_;rotate_left
   ·
    intro wx hSw;go_simp;with_reducible rfl
   refine takeQ 4 9 (v:=?_) ?_ ?_;rotate_left
   ·
    intro wx hSw;go_simp;with_reducible rfl
   refine takeQ 6 11 (v:=?_) ?_ ?_;rotate_left
   ·
    intro wx hSw;go_simp;with_reducible rfl
   simp only[Act.put,List.setIfInBounds_toArray,List.set_cons_zero,List.set_cons_succ];refine wpAnyH_ready (rs:=[5]) (by kernel_rfl) (by simp) ?_;refine AllReadyH.cons rfl (fun K hK=>?_) AllReadyH.nil;go_simp;refine (l6Events_any _ _ _ (h.keep KK) u1 u2).mono ?_;rintro e wz2 ⟨v2,rfl,a2,kk⟩;have z0:=z1;have KK:=KK.trans kk;have z1:=Nat.lt_of_lt_of_le z1 kk.size;have a2r:=a2.rd;obtain⟨ae,ce,rfl,-⟩:=id a2r;go_wp2_with fail
   refine hK.out _ _ ?_ (fun hHeld=>?_)
   · exact⟨(kk.cell z0).trans hHeld.1,(kk.cell z0).trans hHeld.2⟩
   clear hK K;refine wpAnyH_ready (rs:=[7]) (by kernel_rfl) (by simp) ?_;refine AllReadyH.cons rfl (fun K hK=>?_) AllReadyH.nil;go_simp;refine (HC.out _ KK _ a2r).mono ?_;rintro e wz3 ⟨v3,rfl,o3,kk⟩;have z0:=z1;have KK:=KK.trans kk;have z1:=Nat.lt_of_lt_of_le z1 kk.size;go_wp2_with fail
   refine hK.out _ _ ?_ (fun hHeld=>?_)
   · exact⟨(kk.cell z0).trans hHeld.1,(kk.cell z0).trans hHeld.2⟩
   clear hK K;refine wpAnyH_ready (rs:=[8]) (by kernel_rfl) (by simp) ?_;refine AllReadyH.cons rfl (fun K hK=>?_) AllReadyH.nil;go_simp;refine (l3Round_any _ _ _ _ o3.row hpw).mono ?_;rw[hq];rintro e wz4 ⟨rfl,kk⟩;have z0:=z1;have KK:=KK.trans kk;have z1:=Nat.lt_of_lt_of_le z1 kk.size;go_wp2_with fail
   refine hK.out _ _ ?_ (fun hHeld=>?_)
   · exact⟨(kk.cell z0).trans hHeld.1,(kk.cell z0).trans hHeld.2⟩
   clear hK K;refine takeQ 9 14 (v:=?_) ?_ ?_;rotate_left
   ·
    intro wx hSw;go_simp;with_reducible rfl
   refine takeQ 10 15 (v:=?_) ?_ ?_;rotate_left
   ·
    intro wx hSw;go_simp;with_reducible rfl
   refine takeQ 11 4 (v:=?_) ?_ ?_;rotate_left
   ·
    intro wx hSw;go_simp;with_reducible rfl
   simp only[Act.put,List.setIfInBounds_toArray,List.set_cons_zero,List.set_cons_succ];refine wpAnyH_done (by kernel_rfl) ?_ _;go_wp2;go_ret;exact⟨by rw[HE.out];rfl,KK⟩
theorem specFromWeb_any (w:World)(v vf:Value)(dss:List (List Dd))(f:List Int)(h:RdW w v dss)(hf:Rd w vf f)(hx:dss.length≤1048576)(hm:∀i,i<dss.length→(dss.getD i []).length≤1048576)(hfl:f.length≤1048576):
  Calls Tryz.prog 19 #[v,vf] w fun e w'=>∃v',e = .returned v'∧Row w' w.heap.size v' (fwB dss f)∧Keep w w':=by
 cases hs:sourceB dss f
 ·
  have HE:Hid (fwB dss f=[]):=Lib.hid (by rw[fwB,hs];rfl);have C:=specSourceOk_any w v vf dss f h hf hx hm hfl;rw[hs] at C;go_enter Tryz.func19,Tryz.ntmps19
  go_wp2_with fail
  refine C.mono ?_;rintro e w1 ⟨rfl,k1⟩;have s1:=k1.size;go_wp2;go_ret;exact⟨_,rfl,by rw[HE.out];exact (row_empty w1 _).base_le s1,k1.alloc _⟩
 ·
  have hs2:=hs;rw[sourceB,Bool.and_eq_true] at hs2;obtain⟨hb,hs2⟩:=hs2;rw[eventsB,if_pos hb] at hs2;have HE:Hid (fwB dss f=fwL (evsW dss dss.length) f):=Lib.hid (by rw[fwB,if_pos hs,eventsB,if_pos hb]);obtain⟨u1,u2⟩:=workB_useQ hb;have h12:=(events_law hb).1;obtain⟨sl,su⟩:=src_use h12 hs2;have C:=specSourceOk_any w v vf dss f h hf hx hm hfl;rw[hs] at C;go_enter Tryz.func19,Tryz.ntmps19
  go_wp2_with fail
  refine C.mono ?_;rintro e w1 ⟨rfl,k1⟩;have s1:=k1.size;go_wp2_with fail
  refine (l6Events_any _ _ _ (h.keep k1) u1 u2).mono ?_;rintro e w2 ⟨v2,rfl,a2,k2⟩;have s2:=k2.size;go_wp2_with fail
  refine (l8Web_any _ _ _ _ _ a2.rd (hf.keep (k1.trans k2)) h12 (by omega) (fun i hi=>(su i hi).1)).mono ?_;rintro e w3 ⟨v3,rfl,r3,k3⟩;go_wp2;go_ret;exact⟨_,rfl,by rw[HE.out];exact r3.base_le (by omega),(k1.trans k2).trans k3⟩
theorem l8Draw_any (w:World)(B c:Nat)(hc:Cur w B c):
  Calls Tryz.prog 102 #[.pointer (some ⟨c,0,none⟩)] w fun e w'=>∃v u dss f,e = .returned (.tuple #[v,u])∧RdW w' v dss∧(dss.length≤6∧∀i,i<dss.length→(dss.getD i []).length≤7)∧Rd w' u f∧f.length≤13∧Dr w w' B c:=by
 have hcl:=hc.lt;have hB:=hc.1;obtain⟨i0,hi,hz0,hz1,hz2⟩:=info_parts Tryz.infoI;go_enter Tryz.func102,Tryz.ntmps102
 go_wp2_with fail
 refine (l5DrawAny_any _ B c hc).mono ?_;rintro e w1 ⟨v,dss,rfl,hR,hS,D1⟩;have l1:dss.length≤1048576:=by have:=hS.1;omega
 have l2:∀i,i<dss.length→(dss.getD i []).length≤1048576:=fun i hi=>by have:=hS.2 i hi;omega
 have HS:=Lib.hid hS;have L2:=Lib.hid l2;clear hS l2;have hcb:=cntB_in dss;have hal:=atB_len dss;have s1:=D1.2.size;go_wp2_with fail
 refine (specSourcesCount_any _ _ _ hR.rd l1 L2.out).mono ?_;rintro e w2 ⟨rfl,k2⟩;have R2:=hR.keep k2;have D2:=D1.keepQ k2;have s2:=k2.size;clear hR D1 k2;generalize cntB dss=m at hcb;go_wp2_with fail
 refine (l1Max_any _ _ _).mono ?_;rintro e w3 ⟨rfl,rfl⟩;generalize hM:max 1 m=M;have M0:0<M:=by omega
 have M1:M≤8916100448256:=by omega
 clear hM hcb;go_wp2_with fail
 refine (below_any _ B c _ D2.1 (by omega)).mono ?_;rintro e w4 ⟨x,rfl,x0,x1,c4,g4⟩;have R4:=R2.kept g4 hcl;have D4:=D2.step c4 g4;have s4:=g4.size;clear R2 D2 c4 g4;go_wp2_with fail
 refine (specSourceAt_own _ _ _ x R4.rd l1 L2.out).mono ?_;rintro e w5 ⟨u,rfl,o5,k5⟩;have G5:w4.grownBy w5 (some c):=grown_any k5.grownBy _;have D5:=D4.keepQ k5;have hL:=hal x;clear D4 k5 hal;generalize atB dss x=L at o5 hL;have hN:c<w4.heap.size:=by omega
 obtain⟨a5,c5,rfl,-⟩:=o5.rd;go_upto_region 4 with fail
 go_cut [23] from 17 (fun s23 wx=>∃b:Bool,s23 = .bool b∧(b=true→0<L.length)∧Own wx w4.heap.size (.slice a5 L.length c5) L∧w4.grownBy wx (some c)∧Dr w wx B c)
 case first=>
  by_cases h0:0<L.length
  ·
   have i0:(0:Int)<(L.length:Int):=by omega
   go_wp2_with fail
   refine (once_any _ B c _ D5.1 (by omega)).mono ?_;rintro e w6 ⟨b,rfl,c6,g6⟩;go_wp2;go_meet;case rel=>exact⟨b,rfl,fun _=>h0,o5.keptC g6 hN,grown_trans G5 g6,D5.step c6 g6⟩
  ·
   have i0:(L.length:Int)≤0:=by omega
   go_wp2;go_meet;case rel=>exact⟨false,rfl,by simp,o5,G5,D5⟩
 case rest=>
  clear o5 G5 D5;obtain⟨b,rfl,hb0,o5,G5,D5⟩:=hcut;go_upto_if 23 with fail
  go_cut [] from 17 (fun wx=>∃L':List Int,L'.length=L.length∧Own wx w4.heap.size (.slice a5 L.length c5) L'∧w4.grownBy wx (some c)∧Dr w wx B c)
  case first=>
   cases b
   ·
    go_wp2;go_meet;case rel=>exact⟨L,rfl,o5,G5,D5⟩
   ·
    have h0:=hb0 rfl;have i0:(0:Int)<(L.length:Int):=by omega
    go_wp2_with fail
    refine (from_any _ B c _ _ D5.1 (by omega) (by omega) (by omega)).mono ?_;rintro e w6 ⟨y,rfl,-,-,c6,g6⟩;have o6:=o5.keptC g6 hN;have G6:=grown_trans G5 g6;have D6:=D5.step c6 g6;clear o5 G5 D5 c6 g6
    obtain⟨g,hg⟩:∃g,a5=some ⟨g,0,none⟩:=by
     rcases o6.2 with ⟨e,hz⟩|⟨g,cap,cur,e,_⟩
     · omega
     ·
      simp only[Value.slice.injEq] at e;exact⟨g,e.1⟩
    subst hg;have hge:w4.heap.size≤g:=o6.ge g rfl;have hR:=o6.rowAt;have fr:=hR.free 0;have hgl:=hR.lt;have cl:=hR.cell (j:=0) h0;go_wp2;go_meet;case rel=>exact⟨L.set 0 y,by simp,o6.setAt 0 y,grown_far G6 (grown_set w6 g 0 _) (by intro j hj;simp at hj;omega),D6.set (by omega) hcl hB 0 _⟩
  case rest=>
   clear o5 G5 D5 hb0;obtain⟨L',hL',o5,G5,D5⟩:=hcut;go_wp2_with fail
   refine (once_any _ B c _ D5.1 (by omega)).mono ?_;rintro e w6 ⟨b2,rfl,c6,g6⟩;have o6:=o5.keptC g6 hN;have G6:=grown_trans G5 g6;have D6:=D5.step c6 g6;clear o5 G5 D5 c6 g6;cases b2
   ·
    have HR:=Lib.hid (R4.kept G6 hcl).rd;go_wp2;go_ret2
    exact⟨_,_,dss,L',rfl,HR.out,HS.out,o6.rd,by omega,D6⟩
   ·
    have G7:=grown_trans G6 (World.grownBy_alloc w6 (.cells #[.int .i64 0] 2) (some c));have D7:=D6.alloc (.cells #[.int .i64 0] 2);have hge:∀j,(Value.slice a5 L.length c5).ownBlock=some j→w4.heap.size≤j:=o6.ge;rw[←hL'] at o6 hge hL ⊢;clear hL';go_wp2_with (at_builtin;refine wpList_append_own _ rfl _ _ 25 rfl w4.heap.size 2 i0 (.int .i64 0) 1 8 Tryz.underlying25 hi hz0 hz1 hz2 rfl (by decide) _ _ _ rfl (World.ownsRow.alloc o6 _) ⟨_,0,none⟩ 1 1 [.int .i64 0] rfl rfl ?c1 ?c2 ?c3 ?c4 ?c5 ?_)
    case c1=>
     intro j u hj
     match j,hj with
     | 0,hj=>simp at hj;subst hj;simp[Addr.add]
    case c2=>intro u hu;simp at hu;subst hu;rfl
    case c3=>unfold maxLen;omega
    case c4=>omega
    case c5=>have:=G7.size;omega
    intro v' w8 hown' hgrow _;have o8:Own w8 w4.heap.size v' (L'++[0]):=own_hit hown';have G8:=grown_far G7 hgrow hge;have D8:=D7.grow hgrow (fun k hk=>by have:=hge k hk;omega) hcl hB;have HR:=Lib.hid (R4.kept G8 hcl).rd;clear hgrow hown';go_wp2;go_ret2
    exact⟨_,_,dss,L'++[0],rfl,HR.out,HS.out,o8.rd,by rw[List.length_append];simp;omega,D8⟩
theorem drawSourceOk_any (w:World)(a:Option Addr)(cap:Nat)(zs:List Int)(hb:RdB w w.heap.size a zs):
  Calls Tryz.prog 53 #[.slice a zs.length cap] w fun e w'=>∃v u dss f,e = .returned (.tuple #[v,u])∧RdW w' v dss∧(dss.length≤6∧∀i,i<dss.length→(dss.getD i []).length≤7)∧Rd w' u f∧f.length≤13∧Keep w w':=by
 go_enter Tryz.func53,Tryz.ntmps53
 go_wp2_with fail
 refine (new_any _ a cap zs hb).mono ?_;rintro e w1 ⟨rfl,c1,k1⟩;go_wp2_with fail
 refine (l8Draw_any _ _ _ c1).mono ?_;rintro e w2 ⟨v,u,dss,f,rfl,hR,hs,hf,hl,D2⟩;have K2:=D2.newQ k1 (Nat.le_refl _);have HR:=Lib.hid hR;have HS:=Lib.hid hs;have HF:=Lib.hid hf;clear hR hs hf D2;go_wp2;go_ret2
 exact⟨_,_,_,_,rfl,HR.out,HS.out,HF.out,hl,K2⟩
theorem drawFromOthers_any (w:World)(a:Option Addr)(cap:Nat)(zs:List Int)(hb:RdB w w.heap.size a zs):
  Calls Tryz.prog 13 #[.slice a zs.length cap] w fun e w'=>∃v u dss f,e = .returned (.tuple #[v,u])∧RdW w' v dss∧(dss.length≤6∧∀i,i<dss.length→(dss.getD i []).length≤7)∧Rd w' u f∧f.length≤13∧Keep w w':=by
 go_enter Tryz.func13,Tryz.ntmps13
 go_wp2_with fail
 refine (drawSourceOk_any _ a cap zs hb).mono ?_;rintro e w2 ⟨v,u,dss,f,rfl,hR,hs,hf,hl,K2⟩;have HR:=Lib.hid hR;have HS:=Lib.hid hs;have HF:=Lib.hid hf;clear hR hs hf;go_wp2;go_ret2
 exact⟨_,_,_,_,rfl,HR.out,HS.out,HF.out,hl,K2⟩
end Go.Proofs.YtgikcfdckddgpaaGreat
