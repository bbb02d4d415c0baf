/- Gathered texts. -/
import Derived.Test.YtgikcfdckddgpabGreatMO
set_option maxRecDepth 100000
set_option maxHeartbeats 8000000
namespace Go.Proofs.YtgikcfdckddgpabGreat
open Go.ChangeShapes Go.WideShapes Go.ChangeAt Go.RowKit
theorem specStrictWeb_any (w:World)(v vF vR:Value)(dss:List (List Dd))(f rows:List Int)(h:RdW w v dss)(hf:Rd w vF f)(hr:Rd w vR rows)(hcap:rows.length≤capZ vR)(hx:dss.length≤1048576)(hm:∀i,i<dss.length→(dss.getD i []).length≤1048576)(hfl:f.length≤1048576)(hrl:rows.length≤1048576):
  Calls Tryz.prog 14 #[v,.agg #[vF,vR]] w fun e w'=>∃v',e = .returned v'∧Row w' w.heap.size v' (xwB dss f rows)∧Keep w w':=by
 have C:=fun (W:World) (kW:Keep w W)=>specTaleOk_any W v vF vR dss f rows (h.keep kW) (hf.keep kW) (hr.keep kW) hcap hx hm hfl hrl
 have b0:(w.alloc (.cells #[vF,vR] 31)).cell? ⟨w.heap.size,0,none⟩=some vF:=box_cell (Keep.refl _) 0;have b1:(w.alloc (.cells #[vF,vR] 31)).cell? ⟨w.heap.size,1,none⟩=some vR:=box_cell (Keep.refl _) 1;cases hb:taleB dss f rows
 ·
  have HE:Hid (xwB dss f rows=[]):=Lib.hid (by rw[xwB,hb];rfl);rw[hb] at C;obtain⟨aF,cF,rfl,-⟩:=hf;obtain⟨aR,cR,rfl,-⟩:=hr;go_enter Tryz.func14,Tryz.ntmps14
  go_wp2_with fail
  refine (C _ ((Keep.refl w).alloc _)).mono ?_;rintro e w1 ⟨rfl,k1⟩;have s1:=k1.size;rw[heap_size] at s1;go_wp2;go_ret;exact⟨_,rfl,by rw[HE.out];exact (row_empty w1 _).base_le (by omega),(((Keep.refl w).alloc _).trans k1).alloc _⟩
 ·
  obtain⟨⟨u1,u2⟩,e1,h12,r2,r3,r4,s1,s2,s3⟩:=tale_facts hb;have HE:Hid (xwB dss f rows=xwL (evsW dss dss.length) f rows):=Lib.hid (by rw[xwB,if_pos hb,e1]);have TW:=(tale_webs hb).1;rw[hb] at C;have CL:=fun (W:World) (kW:Keep w W) (v2:Value) (a2:RdE W v2 (evsW dss dss.length))=>l13Web_any W v2 vF vR (evsW dss dss.length) f rows a2 (hf.keep kW) (hr.keep kW) h12 TW r2 r3 (by omega) (fun i hi=>s3 i (by omega))
  have HC:=Lib.hid CL;have HS1:=Lib.hid s1;clear CL s1 e1 hb TW;obtain⟨aF,cF,rfl,-⟩:=hf;obtain⟨aR,cR,rfl,-⟩:=hr;go_enter Tryz.func14,Tryz.ntmps14
  go_wp2_with fail
  refine (C _ ((Keep.refl w).alloc _)).mono ?_;rintro e w1 ⟨rfl,k1⟩;have K1:=((Keep.refl w).alloc _).trans k1;have c0:=box_cell k1 0;have c1:=box_cell k1 1;simp at c0 c1;have z0:=box_size k1;have z1:w.heap.size<w1.drew.heap.size:=z0;have sz:=K1.size;clear k1 b0 b1 C;go_wp2_with fail
  go_region_held3 (fun w'=>w'.cell? ⟨w.heap.size,0,none⟩=some (.slice aF f.length cF)∧w'.cell? ⟨w.heap.size,1,none⟩=some (.slice aR rows.length cR))
   (first|go_keep|(go_split_ands;refine⟨?_,?_⟩<;>(rw[kk.cell (by assumption)];assumption)))
   ((first
    | (go_at_call 27;refine (l6Events_any _ _ _ (h.keep K1.drew) u1 u2).mono ?_;rintro e wz ⟨v2,rfl,a2,kk⟩;have z2:w.heap.size<wz.heap.size:=Nat.lt_of_lt_of_le z1 kk.size;have K2:=K1.drew.trans kk)
    | (go_at_call 32;refine (HC.out _ K2 _ a2.rd).mono ?_;clear kk;rintro e wy ⟨v3,rfl,o3,kk⟩)))
  all_goals
   go_wp2;go_ret;exact⟨_,rfl,by rw[HE.out];exact (o3.base_le (by have:=K2.size;omega)).row,K2.trans kk⟩
theorem row_only {w w':World}{base lo hi:Nat}{v:Value}{zs:List Int}(h:Row w base v zs)(k:Only lo hi w w')(hb:hi≤base):Row w' base v zs:=by
 rcases h with h|⟨g,cap,hv,hg,hr⟩
 · exact .inl h
 ·
  have hlt:=hr.lt;obtain⟨cur,e,hh,ht⟩:=hr;exact .inr ⟨g,cap,hv,hg,cur,e,(k.block g hlt (.inr (Nat.le_trans hb hg))).trans hh,ht⟩
theorem cell_only {w w':World}{lo hi X i:Nat}(k:Only lo hi w w')(hlt:X<w.heap.size)(hb:hi≤X):w'.cell? ⟨X,i,none⟩=w.cell? ⟨X,i,none⟩:=by
 have e:=k.block X hlt (.inr hb);simp only[World.cell?,e]
end Go.Proofs.YtgikcfdckddgpabGreat
