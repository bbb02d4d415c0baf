/- Gathered texts. -/
import Derived.Test.YtgikcfdckddgpabGreatMP
import Derived.Test.YtgikcfdckddgpabGreatMN
set_option maxRecDepth 100000
set_option maxHeartbeats 8000000
namespace Go.Proofs.YtgikcfdckddgpabGreat
open Go.ChangeShapes Go.WideShapes Go.ChangeAt Go.RowKit
theorem strict_all (dss:List (List Dd))(f rows:List Int):strictB dss f rows=(eachB dss f rows&&!roundB (liftL (xwB dss f rows) (clsB (eventsB dss)))):=by
 cases h:taleB dss f rows with
 |true=>rw[strictB,eachB,xwB,h,if_pos rfl];rfl
 |false=>rw[strictB,eachB,h];rfl
theorem quickTold_any (w:World)(v vF vR:Value)(dss:List (List Dd))(f rows:List Int)(h:RdW w v dss)(hf:Rd w vF f)(hr:Rd w vR rows)(hcap:rows.length≤capZ vR)(hx:dss.length≤1048576)(hm:∀i,i<dss.length→(dss.getD i []).length≤1048576)(hfl:f.length≤1048576)(hrl:rows.length≤1048576):
  Calls Tryz.prog 30 #[.iface 55 (.agg #[]),v,.agg #[vF,vR]] w fun e w'=>e = .returned (.bool (strictB dss f rows))∧Keep w w':=by
 have C:=fun (W:World) (kW:Keep w W)=>implEachOk_any W v vF vR dss f rows (h.keep kW) (hf.keep kW) (hr.keep kW) hcap hx hm hfl hrl
 have CS:=fun (W:World) (kW:Keep w W)=>quickWeb_any W v vF vR dss f rows (h.keep kW) (hf.keep kW) (hr.keep kW) hcap hx hm hfl hrl
 have CE:=fun (W:World) (kW:Keep w W)=>implEventsOf_any W v dss (h.keep kW) hx hm
 have lS:(xwB dss f rows).length≤1048576:=by have:=xwB_len dss f rows;omega
 have lE:(eventsB dss).length≤1048576:=by have:=eventsB_len9 dss;omega
 have lC:(clsB (eventsB dss)).length≤1048576:=by have:=clsB_len (eventsB dss);omega
 have lL:(liftL (xwB dss f rows) (clsB (eventsB dss))).length≤1048576:=by have:=liftL_len (xwB dss f rows) (clsB (eventsB dss));omega
 have HE:=Lib.hid (strict_all dss f rows);clear h hcap hx hm hfl hrl;obtain⟨aF,cF,rfl,-⟩:=hf;obtain⟨aR,cR,rfl,-⟩:=hr;generalize strictB dss f rows=T at *;cases hb:eachB dss f rows
 ·
  rw[hb] at C HE;clear CS CE lS lE lC lL hb;go_enter Tryz.func30,Tryz.ntmps30
  go_wp2_with fail
  refine (C _ ((Keep.refl w).alloc _)).mono ?_;rintro e w1 ⟨rfl,k1⟩;have K1:=((Keep.refl w).alloc _).trans k1;go_wp2;go_ret;exact⟨ret_bool (by rw[HE.out];rfl),K1⟩
 ·
  rw[hb] at C HE;clear hb;generalize xwB dss f rows=L at *;generalize eventsB dss=es at *;go_enter Tryz.func30,Tryz.ntmps30
  go_wp2_with fail
  refine (C _ ((Keep.refl w).alloc _)).mono ?_;rintro e w1 ⟨rfl,k1⟩;have K1:=((Keep.refl w).alloc _).trans k1;have b0:=box_cell k1 0;have b1:=box_cell k1 1;simp at b0 b1;clear k1 C;go_wp2_with fail
  refine (CS _ K1).mono ?_;rintro e w2 ⟨v2,rfl,o2,k2⟩;have K2:=K1.trans k2;have r2:=o2.rd;clear CS b0 b1 o2 k2 K1;go_wp2_with fail
  refine (CE _ K2).mono ?_;rintro e w3 ⟨v3,rfl,o3,k3⟩;have K3:=K2.trans k3;have r3:=o3.rd;replace r2:=r2.keep k3;clear CE o3 k3 K2;go_wp2_with fail
  refine (implClassesOf_any _ _ _ r3 lE).mono ?_;rintro e w4 ⟨v4,rfl,o4,k4⟩;have K4:=K3.trans k4;have r4:=o4.rd;replace r2:=r2.keep k4;clear r3 o4 k4 K3;generalize clsB es=M at *;go_wp2_with fail
  refine (implLifted_any _ _ _ _ _ r2 r4 lS lC).mono ?_;rintro e w5 ⟨v5,rfl,o5,k5⟩;have K5:=K4.trans k5;have r5:=o5.rd;clear r2 r4 o5 k5 K4;generalize liftL L M=P at *;go_wp2_with fail
  refine (implRound_any _ _ _ r5 lL).mono ?_;rintro e w6 ⟨rfl,k6⟩;have K6:=K5.trans k6;generalize roundB P=R at *;go_wp2;go_ret;exact⟨ret_bool (by rw[HE.out];rfl),K6⟩
theorem implStrictOk_any (w:World)(v vF vR:Value)(dss:List (List Dd))(f rows:List Int)(h:RdW w v dss)(hf:Rd w vF f)(hr:Rd w vR rows)(hcap:rows.length≤capZ vR)(hx:dss.length≤1048576)(hm:∀i,i<dss.length→(dss.getD i []).length≤1048576)(hfl:f.length≤1048576)(hrl:rows.length≤1048576):
  Calls Tryz.prog 22 #[v,.agg #[vF,vR]] w fun e w'=>e = .returned (.bool (strictB dss f rows))∧Keep w w':=by
 have C:=fun (W:World) (kW:Keep w W)=>quickTold_any W v vF vR dss f rows (h.keep kW) (hf.keep kW) (hr.keep kW) hcap hx hm hfl hrl
 clear h hf hr hcap hx hm hfl hrl;generalize strictB dss f rows=T at *;go_enter Tryz.func22,Tryz.ntmps22
 go_wp2_with fail
 refine (C _ ((Keep.refl w).alloc _)).mono ?_;rintro e w1 ⟨rfl,k⟩;have K:=((Keep.refl w).alloc _).trans k;go_wp2;go_ret;exact⟨rfl,K⟩
end Go.Proofs.YtgikcfdckddgpabGreat
