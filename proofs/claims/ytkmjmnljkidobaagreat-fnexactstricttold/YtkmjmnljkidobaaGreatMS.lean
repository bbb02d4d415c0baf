/- Gathered texts. -/
import Derived.Test.YtkmjmnljkidobaaGreatMR
import Derived.BigRegion
import Derived.Lib.Hide
import Derived.Deep.Cut
import Derived.RegionTactic
import Derived.Deep.AppendLies
set_option maxRecDepth 100000
set_option maxHeartbeats 8000000
namespace Go.Proofs.YtkmjmnljkidobaaGreat
open Go.ChangeShapes Go.WideShapes Go.ChangeAt Go.RowKit
open Go.ChangeShapes Go.WideShapes Go.ChangeAt Go.RowKit Go.Shelf Go.Sort
theorem joining_any (w:World)(a:Option Addr)(n c:Nat):
  Calls Tryz.prog 258 #[.slice a n c] w fun e w'=>e = .returned (.func (Fn.func 286) #[] #[.pointer (some ⟨w.heap.size,0,none⟩)])∧w'=w.alloc (.cells #[.slice a n c] 50):=by
 go_enter Tryz.func258,Tryz.ntmps258
 go_wp2;go_ret;exact⟨rfl,rfl⟩
theorem joins_any (w:World)(g:Nat)(u v:Value)(xs ys:List Int)(hg:w.heap[g]? = some (.cells #[u] 50 (0,0)))(h1:Rd w u xs)(h2:Rd w v ys)(n1:xs.length≤1048576)(n2:ys.length≤1048576):
  Calls Tryz.prog 286 #[v,.pointer (some ⟨g,0,none⟩)] w fun e w'=>∃v',e = .returned v'∧Row w' w.heap.size v' (mixL orI xs ys)∧w'.heap[g]? = some (.cells #[v'] 50 (0,0))∧w.grownBy w' (some g):=by
 have hgl:g<w.heap.size:=(Array.getElem?_eq_some_iff.1 hg).1;have c0:w.cell? ⟨g,0,none⟩=some u:=by rw[cell_of_row w g 0 _ _ _ hg];rfl
 have C:=implJoined_any w u v xs ys h1 h2 n1 n2;obtain⟨a1,c1,rfl,-⟩:=h1;obtain⟨a2,c2,rfl,-⟩:=h2;go_enter Tryz.func286,Tryz.ntmps286
 go_wp2_with fail
 refine C.mono ?_;rintro e w1 ⟨v',rfl,o,k⟩;have hg1:=(Below.block k g hgl).trans hg;have f1:w1.frozen? ⟨g,0,none⟩=false:=frozen_of_row w1 g 0 _ _ hg1;have HS:=Lib.hid (heap_setCell_same w1 g 0 _ _ v' hg1);have HG:=Lib.hid (grown_set w1 g 0 v');have d0:w1.cell? ⟨g,0,none⟩=some (.slice a1 xs.length c1):=(k.cell hgl).trans c0
 have HO:Row (w1.setCell ⟨g,0,none⟩ v') w.heap.size v' (mixL orI xs ys):=o.kept HG.out (by
  cases hv:v'.ownBlock with
  |none=>exact .inl rfl
  |some q=>exact .inr (fun e=>by have:=o.ge q hv;have:=Option.some.inj e;omega))
 have HW:w.grownBy (w1.setCell ⟨g,0,none⟩ v') (some g):=grown_trans ⟨Below.os k,Below.tape k,Below.output k,Below.size k,fun i hi _=>Below.block k i hi⟩ HG.out;have HE:=Lib.hid HW;clear HW hg1 C;obtain⟨a3,c3,rfl,-⟩:=o.rd;go_wp2;go_ret;exact⟨_,rfl,HO,HS.out,HE.out⟩
theorem Keep.box {a w w':World}{g:Nat}(h:Keep a w)(hg:w.grownBy w' (some g))(hl:a.heap.size≤g):Keep a w':=h.grown hg (fun k hk=>by have:=Option.some.inj hk;omega)
theorem implPlaceWeb_any (w:World)(v vF vR:Value)(dss:List (List Dd))(f rows:List Int)(h:RdW w v dss)(hf:Rd w vF f)(hr:Rd w vR rows)(hcap:rows.length≤capZ vR)(hx:dss.length≤1048576)(hm:∀i,i<dss.length→(dss.getD i []).length≤1048576)(hfl:f.length≤1048576)(hrl:rows.length≤1048576):
  Calls Tryz.prog 211 #[v,.agg #[vF,vR]] w fun e w'=>∃v',e = .returned v'∧Row w' w.heap.size v' (pwB dss f rows)∧Keep w w':=by
 have CA:=fun (W:World) (kW:Keep w W)=>implAtOnePlace_any W v dss (h.keep kW) hx hm
 have CF:=fun (W:World) (kW:Keep w W)=>implFromWeb_any W v vF dss f (h.keep kW) (hf.keep kW) hx hm hfl
 have CR:=fun (W:World) (kW:Keep w W)=>implRowWeb_any W v vR dss rows (h.keep kW) (hr.keep kW) hcap hx hm hrl
 have CG:=fun (W:World) (kW:Keep w W)=>implAgainstWeb_any W v vF vR dss f rows (h.keep kW) (hf.keep kW) (hr.keep kW) hcap hx hm hfl hrl
 have HE:=Lib.hid (pw_chain dss f rows)
 have lA:(plcL (eventsB dss)).length≤1048576:=by
  have h9:=eventsB_len9 dss;have:=(plc_line (es:=eventsB dss) (by omega)).1.2.1;omega
 have lF:(fwB dss f).length≤1048576:=by have:=fwB_len dss f;omega
 have lR:(rwB dss rows).length≤1048576:=by have:=rwB_len dss rows;omega
 have lG:(agB dss f rows).length≤1048576:=by have:=agB_len dss f rows;omega
 have l1:=fun (a b:List Int)=>(show (mixL orI a b).length≤1048576 by have:=mixL_len orI a b;omega)
 unfold chnL at HE;generalize pwB dss f rows=L at *;generalize plcL (eventsB dss)=LA at *;generalize fwB dss f=LF at *;generalize rwB dss rows=LR at *;generalize agB dss f rows=LG at *;obtain⟨aF,cF,rfl,-⟩:=hf;obtain⟨aR,cR,rfl,-⟩:=hr;go_enter Tryz.func211,Tryz.ntmps211
 go_wp2_with fail
 refine (CA _ ((Keep.refl w).alloc _)).mono ?_;rintro e w1 ⟨v1,rfl,o1,k1⟩;have K1:=((Keep.refl w).alloc _).trans k1;have s1:=box_size k1;have hb1:=box_heap k1;obtain⟨a1,c1,rfl,-⟩:=o1.rd;clear k1 CA;go_wp2_with fail
 refine (joining_any _ _ _ _).mono ?_;rintro e w2 ⟨rfl,rfl⟩;have k2:Keep w1 (w1.alloc (.cells #[.slice a1 LA.length c1] 50)):=(Keep.refl w1).alloc _;have hg2:(w1.alloc (.cells #[.slice a1 LA.length c1] 50)).heap[w1.heap.size]? = some (.cells #[.slice a1 LA.length c1] 50 (0,0)):=heap_alloc_new w1 _;have K2:=K1.trans k2;have hb2:=(Below.block k2 w.heap.size s1).trans hb1;have r2:=o1.rd.keep k2;have s2:w1.heap.size<(w1.alloc (.cells #[.slice a1 LA.length c1] 50)).heap.size:=by rw[heap_size];omega
 generalize w1.alloc (.cells #[.slice a1 LA.length c1] 50)=w2 at *;clear k2 hb1;have c20:w2.cell? ⟨w.heap.size,0,none⟩=some (.slice aF f.length cF):=by rw[cell_of_row w2 _ 0 _ _ _ hb2];rfl
 go_wp2_with fail
 refine (CF _ K2).mono ?_;rintro e w3 ⟨v3,rfl,o3,k3⟩;clear CF c20;have hg3:=(Below.block k3 w1.heap.size s2).trans hg2;have hb3:=(Below.block k3 w.heap.size (by omega)).trans hb2;have K3:=K2.trans k3;have s3:=k3.size;go_wp2_with fail
 refine (joins_any _ _ _ _ _ _ hg3 (r2.keep k3) o3.rd lA lF).mono ?_;rintro e w4 ⟨v4,rfl,o4,hg4,g4⟩;have K4:Keep w w4:=K3.box g4 (by omega);have hb4:=(g4.block w.heap.size (by omega) (fun e=>by have:=Option.some.inj e;omega)).trans hb3;have s4:=g4.size;have c41:w4.cell? ⟨w.heap.size,1,none⟩=some (.slice aR rows.length cR):=by rw[cell_of_row w4 _ 1 _ _ _ hb4];rfl
 clear k3 hg3 hb3 K3 hg2 hb2 K2 r2 g4 o3;go_wp2_with fail
 refine (CR _ K4).mono ?_;rintro e w5 ⟨v5,rfl,o5,k5⟩;clear CR c41;have hg5:=(Below.block k5 w1.heap.size (by omega)).trans hg4;have hb5:=(Below.block k5 w.heap.size (by omega)).trans hb4;have K5:=K4.trans k5;have s5:=k5.size;go_wp2_with fail
 refine (joins_any _ _ _ _ _ _ hg5 (o4.rd.keep k5) o5.rd (l1 _ _) lR).mono ?_;rintro e w6 ⟨v6,rfl,o6,hg6,g6⟩;have K6:Keep w w6:=K5.box g6 (by omega);have hb6:=(g6.block w.heap.size (by omega) (fun e=>by have:=Option.some.inj e;omega)).trans hb5;have s6:=g6.size;have c60:w6.cell? ⟨w.heap.size,0,none⟩=some (.slice aF f.length cF):=by rw[cell_of_row w6 _ 0 _ _ _ hb6];rfl
 have c61:w6.cell? ⟨w.heap.size,1,none⟩=some (.slice aR rows.length cR):=by rw[cell_of_row w6 _ 1 _ _ _ hb6];rfl
 clear k5 hg5 hb5 K5 hg4 hb4 K4 g6 o5 o4;go_wp2_with fail
 refine (CG _ K6).mono ?_;rintro e w7 ⟨v7,rfl,o7,k7⟩;clear CG c60 c61;have hg7:=(Below.block k7 w1.heap.size (by omega)).trans hg6;have K7:=K6.trans k7;have s7:=k7.size;go_wp2_with fail
 refine (joins_any _ _ _ _ _ _ hg7 (o6.rd.keep k7) o7.rd (l1 _ _) lG).mono ?_;rintro e w8 ⟨v8,rfl,o8,-,g8⟩;have K8:Keep w w8:=K7.box g8 (by omega);clear k7 hg7 hg6 K6 g8 o7 o6;have HO:Row w8 w.heap.size v8 L:=by rw[←HE.out];exact o8.base_le (by omega)
 clear HE o8;go_wp2;go_ret;exact⟨_,rfl,HO,K8⟩
theorem implTaleOk_any (w:World)(v vF vR:Value)(dss:List (List Dd))(f rows:List Int)(h:RdW w v dss)(hf:Rd w vF f)(hr:Rd w vR rows)(hcap:rows.length≤capZ vR)(hx:dss.length≤1048576)(hm:∀i,i<dss.length→(dss.getD i []).length≤1048576)(hfl:f.length≤1048576)(hrl:rows.length≤1048576):
  Calls Tryz.prog 74 #[v,.agg #[vF,vR]] w fun e w'=>e = .returned (.bool (taleB dss f rows))∧Keep w w':=by
 have C:=fun (W:World) (kW:Keep w W)=>pageOf_any W v vF vR dss f rows (h.keep kW) (hf.keep kW) (hr.keep kW) hcap hx hm hfl hrl
 have CB:=fun (W:World)=>isBlank_any W (pageB dss f rows) (pageB_len dss f rows)
 have HB:Hid (blankB (pageB dss f rows)=!taleB dss f rows):=Lib.hid (page_blank dss f rows);obtain⟨aF,cF,rfl,-⟩:=hf;obtain⟨aR,cR,rfl,-⟩:=hr;rw[HB.out] at CB;generalize taleB dss f rows=T at CB ⊢;generalize pgV (pageB dss f rows)=P at C CB;clear HB;go_enter Tryz.func74,Tryz.ntmps74
 go_wp2_with fail
 refine (C _ ((Keep.refl w).alloc _)).mono ?_;rintro e w1 ⟨rfl,k1⟩;go_wp2_with fail
 refine (CB _).mono ?_;rintro e w2 ⟨rfl,k2⟩;go_wp2;go_ret;exact⟨by simp,(((Keep.refl w).alloc _).trans k1).trans k2⟩
theorem implEachOk_any (w:World)(v vF vR:Value)(dss:List (List Dd))(f rows:List Int)(h:RdW w v dss)(hf:Rd w vF f)(hr:Rd w vR rows)(hcap:rows.length≤capZ vR)(hx:dss.length≤1048576)(hm:∀i,i<dss.length→(dss.getD i []).length≤1048576)(hfl:f.length≤1048576)(hrl:rows.length≤1048576):
  Calls Tryz.prog 151 #[v,.agg #[vF,vR]] w fun e w'=>e = .returned (.bool (eachB dss f rows))∧Keep w w':=by
 have C:=fun (W:World) (kW:Keep w W)=>implTaleOk_any W v vF vR dss f rows (h.keep kW) (hf.keep kW) (hr.keep kW) hcap hx hm hfl hrl
 have CP:=fun (W:World) (kW:Keep w W)=>implPlaceWeb_any W v vF vR dss f rows (h.keep kW) (hf.keep kW) (hr.keep kW) hcap hx hm hfl hrl
 have lP:(pwB dss f rows).length≤1048576:=by have:=pwB_len dss f rows;omega
 obtain⟨aF,cF,rfl,-⟩:=hf;obtain⟨aR,cR,rfl,-⟩:=hr;cases hb:taleB dss f rows
 ·
  have HE:Hid (eachB dss f rows=false):=Lib.hid (by rw[eachB,hb];rfl);rw[hb] at C;clear CP lP hb;generalize eachB dss f rows=T at *;go_enter Tryz.func151,Tryz.ntmps151
  go_wp2_with fail
  refine (C _ ((Keep.refl w).alloc _)).mono ?_;rintro e w1 ⟨rfl,k1⟩;have K1:=((Keep.refl w).alloc _).trans k1;go_wp2;go_ret;exact⟨ret_bool (by rw[HE.out]),K1⟩
 ·
  have HE:Hid (eachB dss f rows=!roundB (pwB dss f rows)):=Lib.hid (by rw[eachB,pwB,hb];rfl);rw[hb] at C;clear hb;generalize eachB dss f rows=T at *;generalize pwB dss f rows=L at *;go_enter Tryz.func151,Tryz.ntmps151
  go_wp2_with fail
  refine (C _ ((Keep.refl w).alloc _)).mono ?_;rintro e w1 ⟨rfl,k1⟩;have K1:=((Keep.refl w).alloc _).trans k1;have b0:=box_cell k1 0;have b1:=box_cell k1 1;simp at b0 b1;clear k1 C;go_wp2_with fail
  refine (CP _ K1).mono ?_;rintro e w2 ⟨v2,rfl,o2,k2⟩;clear CP b0 b1;go_wp2_with fail
  refine (implRound_any _ _ _ o2.rd lP).mono ?_;rintro e w3 ⟨rfl,k3⟩;have K3:=(K1.trans k2).trans k3;generalize roundB L=R at *;go_wp2;go_ret;exact⟨ret_bool (by rw[HE.out]),K3⟩
theorem implClassesOf_any (w:World)(v:Value)(es:List Ev)(h:RdE w v es)(hx:es.length≤1048576):
  Calls Tryz.prog 155 #[v] w fun e w'=>∃v',e = .returned v'∧Own w' w.heap.size v' (clsB es)∧Keep w w':=by
 have hown0:Own (w.alloc (.cells #[] 2)) w.heap.size (.slice (some ⟨w.heap.size,0,none⟩) 0 0) []:=World.ownsRow_lit w #[] 0 (Nat.le_refl _) (by decide) rfl;obtain⟨a,cap,rfl,h⟩:=h;by_cases hl:12<es.length
 ·
  have HE:Hid (clsB es=[]):=Lib.hid (by unfold clsB;rw[if_neg (by omega)]);have l1:(12:Int)<(es.length:Int):=by omega
  go_enter Tryz.func155,Tryz.ntmps155
  go_wp2;go_ret;exact⟨_,rfl,by rw[HE.out];exact hown0,(Keep.refl _).alloc _⟩
 have l1:es.length≤12:=by omega
 clear hl;have HE:Hid (clsB es=clsK es es.length):=Lib.hid (by unfold clsB;rw[if_pos l1];exact (clsK_all es).symm);obtain⟨i0,hi,hz0,hz1,hz2⟩:=info_parts Tryz.infoI;go_enter Tryz.func155,Tryz.ntmps155
 go_wp2;go_loopw [3,13] (fun v i wr=>∃k:Nat,k≤es.length∧i = .int .i64 k∧Own wr w.heap.size v (clsK es k)∧Keep w wr) (fun _ i _=>es.length-(intOf i).toNat)
 case atStart=>exact⟨0,Nat.zero_le _,rfl,hown0,(Keep.refl _).alloc _⟩
 case round=>
  obtain⟨k,hk,rfl,ho,hK⟩:=hrel;clear hown0;by_cases hlt:k<es.length
  ·
   rcases h with h|⟨b,off,rfl,hb,hc⟩
   · exfalso;rw[h] at hlt;simp at hlt
   have AT:=(hc k _ (evs_get hlt)).keep hb hK;have hbw:b<wr.heap.size:=Nat.lt_of_lt_of_le hb hK.size;clear hc;have hml:(clsK es k).length≤k:=by rw[clsK_len];omega
   have hsz:=hK.size;have i1:(0:Int)≤(k:Int):=Int.natCast_nonneg _;have i2:(k:Int)<(es.length:Int):=by omega
   have l2:(es.length:Int)≤12:=by omega
   have HP:Hid (clsK es (k+1)=clsK es k++[csE (es.getD k zE)]):=Lib.hid rfl;obtain⟨e,he⟩:∃e,e=es.getD k zE:=⟨_,rfl⟩;rw[←he] at AT HP;clear he;obtain⟨x0,x1,x2,x3,x4,x5⟩:=e;obtain⟨A0,A1,A2,A3,A4,A5⟩:=atE AT;clear AT;have HM:Hid (clsK es (k+1)=clsK es k++[x5]):=Lib.hid (by rw[HP.out];rfl);clear HP;go_wp2_with (at_builtin;refine wpList_append_own _ rfl _ _ 50 rfl w.heap.size 2 i0 (.int .i64 0) 1 8 Tryz.underlying50 hi hz0 hz1 hz2 rfl (by decide) _ _ _ rfl (World.ownsRow.alloc (World.ownsRow.alloc ho _) _) ⟨_,0,none⟩ 1 1 [.int .i64 x5] rfl rfl ?c1 ?c2 ?c3 ?c4 ?c5 ?_)
   case c1=>
    intro j u hj
    match j,hj with
    | 0,hj=>simp at hj;subst hj;simp[Addr.add]
   case c2=>intro u hu;simp at hu;subst hu;rfl
   case c3=>unfold maxLen;omega
   case c4=>omega
   case c5=>simp;omega
   intro v' w1 hown' hgrow _;have hK1:Keep w w1:=((hK.alloc _).alloc _).grown hgrow ho.ge;clear hgrow;go_wp2;go_roundw;case rel=>exact⟨k+1,by omega,by go_num,by rw[HM.out];exact own_hit hown',hK1⟩
   case measure=>simp[intOf];omega
  ·
   obtain rfl:k=es.length:=by omega
   go_wp2;go_ret;exact⟨_,rfl,by rw[HE.out];exact ho,hK⟩
theorem strict_all (dss:List (List Dd))(f rows:List Int):strictB dss f rows=(eachB dss f rows&&!roundB (liftL (xwB dss f rows) (clsB (eventsB dss)))):=by
 cases h:taleB dss f rows with
 |true=>rw[strictB,eachB,xwB,h,if_pos rfl];rfl
 |false=>rw[strictB,eachB,h];rfl
theorem quickTold_any (w:World)(v vF vR:Value)(dss:List (List Dd))(f rows:List Int)(h:RdW w v dss)(hf:Rd w vF f)(hr:Rd w vR rows)(hcap:rows.length≤capZ vR)(hx:dss.length≤1048576)(hm:∀i,i<dss.length→(dss.getD i []).length≤1048576)(hfl:f.length≤1048576)(hrl:rows.length≤1048576):
  Calls Tryz.prog 73 #[.iface 129 (.agg #[]),v,.agg #[vF,vR]] w fun e w'=>e = .returned (.bool (strictB dss f rows))∧Keep w w':=by
 have C:=fun (W:World) (kW:Keep w W)=>implEachOk_any W v vF vR dss f rows (h.keep kW) (hf.keep kW) (hr.keep kW) hcap hx hm hfl hrl
 have CS:=fun (W:World) (kW:Keep w W)=>quickWeb_any W v vF vR dss f rows (h.keep kW) (hf.keep kW) (hr.keep kW) hcap hx hm hfl hrl
 have CE:=fun (W:World) (kW:Keep w W)=>implEventsOf_any W v dss (h.keep kW) hx hm
 have lS:(xwB dss f rows).length≤1048576:=by have:=xwB_len dss f rows;omega
 have lE:(eventsB dss).length≤1048576:=by have:=eventsB_len9 dss;omega
 have lC:(clsB (eventsB dss)).length≤1048576:=by have:=clsB_len (eventsB dss);omega
 have lL:(liftL (xwB dss f rows) (clsB (eventsB dss))).length≤1048576:=by have:=liftL_len (xwB dss f rows) (clsB (eventsB dss));omega
 have HE:=Lib.hid (strict_all dss f rows);clear h hcap hx hm hfl hrl;obtain⟨aF,cF,rfl,-⟩:=hf;obtain⟨aR,cR,rfl,-⟩:=hr;generalize strictB dss f rows=T at *;cases hb:eachB dss f rows
 ·
  rw[hb] at C HE;clear CS CE lS lE lC lL hb;go_enter Tryz.func73,Tryz.ntmps73
  go_wp2_with fail
  refine (C _ ((Keep.refl w).alloc _)).mono ?_;rintro e w1 ⟨rfl,k1⟩;have K1:=((Keep.refl w).alloc _).trans k1;go_wp2;go_ret;exact⟨ret_bool (by rw[HE.out];rfl),K1⟩
 ·
  rw[hb] at C HE;clear hb;generalize xwB dss f rows=L at *;generalize eventsB dss=es at *;go_enter Tryz.func73,Tryz.ntmps73
  go_wp2_with fail
  refine (C _ ((Keep.refl w).alloc _)).mono ?_;rintro e w1 ⟨rfl,k1⟩;have K1:=((Keep.refl w).alloc _).trans k1;have b0:=box_cell k1 0;have b1:=box_cell k1 1;simp at b0 b1;clear k1 C;go_wp2_with fail
  refine (CS _ K1).mono ?_;rintro e w2 ⟨v2,rfl,o2,k2⟩;have K2:=K1.trans k2;have r2:=o2.rd;clear CS b0 b1 o2 k2 K1;go_wp2_with fail
  refine (CE _ K2).mono ?_;rintro e w3 ⟨v3,rfl,o3,k3⟩;have K3:=K2.trans k3;have r3:=o3.rd;replace r2:=r2.keep k3;clear CE o3 k3 K2;go_wp2_with fail
  refine (implClassesOf_any _ _ _ r3 lE).mono ?_;rintro e w4 ⟨v4,rfl,o4,k4⟩;have K4:=K3.trans k4;have r4:=o4.rd;replace r2:=r2.keep k4;clear r3 o4 k4 K3;generalize clsB es=M at *;go_wp2_with fail
  refine (implLifted_any _ _ _ _ _ r2 r4 lS lC).mono ?_;rintro e w5 ⟨v5,rfl,o5,k5⟩;have K5:=K4.trans k5;have r5:=o5.rd;clear r2 r4 o5 k5 K4;generalize liftL L M=P at *;go_wp2_with fail
  refine (implRound_any _ _ _ r5 lL).mono ?_;rintro e w6 ⟨rfl,k6⟩;have K6:=K5.trans k6;generalize roundB P=R at *;go_wp2;go_ret;exact⟨ret_bool (by rw[HE.out];rfl),K6⟩
theorem implStrictOk_any (w:World)(v vF vR:Value)(dss:List (List Dd))(f rows:List Int)(h:RdW w v dss)(hf:Rd w vF f)(hr:Rd w vR rows)(hcap:rows.length≤capZ vR)(hx:dss.length≤1048576)(hm:∀i,i<dss.length→(dss.getD i []).length≤1048576)(hfl:f.length≤1048576)(hrl:rows.length≤1048576):
  Calls Tryz.prog 49 #[v,.agg #[vF,vR]] w fun e w'=>e = .returned (.bool (strictB dss f rows))∧Keep w w':=by
 have C:=fun (W:World) (kW:Keep w W)=>quickTold_any W v vF vR dss f rows (h.keep kW) (hf.keep kW) (hr.keep kW) hcap hx hm hfl hrl
 clear h hf hr hcap hx hm hfl hrl;generalize strictB dss f rows=T at *;go_enter Tryz.func49,Tryz.ntmps49
 go_wp2_with fail
 refine (C _ ((Keep.refl w).alloc _)).mono ?_;rintro e w1 ⟨rfl,k⟩;have K:=((Keep.refl w).alloc _).trans k;go_wp2;go_ret;exact⟨rfl,K⟩
theorem implOutcomeOf_own (w:World)(v vF vR:Value)(dss:List (List Dd))(f rows:List Int)(h:RdW w v dss)(hf:Rd w vF f)(hr:Rd w vR rows)(hcap:rows.length≤capZ vR)(hx:dss.length≤1048576)(hm:∀i,i<dss.length→(dss.getD i []).length≤1048576)(hfl:f.length≤1048576)(hrl:rows.length≤1048576):
  Calls Tryz.prog 38 #[v,.agg #[vF,vR]] w fun e w'=>∃v',e = .returned v'∧Own w' w.heap.size v' (ocB dss f rows)∧Keep w w':=by
 have C:=fun (W:World) (kW:Keep w W)=>implTaleOk_any W v vF vR dss f rows (h.keep kW) (hf.keep kW) (hr.keep kW) hcap hx hm hfl hrl
 have HF:=Lib.hid hf;have HR:=Lib.hid hr;obtain⟨aF,cF,rfl,-⟩:=hf;obtain⟨aR,cR,rfl,-⟩:=hr;obtain⟨i0,hi,hz0,hz1,hz2⟩:=info_parts Tryz.infoI;have BH:Hid (∀W:World,Keep (w.alloc (taleC (.slice aF f.length cF) (.slice aR rows.length cR))) W→w.heap.size<W.heap.size∧W.cell? ⟨w.heap.size,0,none⟩=some (.slice aF f.length cF)∧W.cell? ⟨w.heap.size,1,none⟩=some (.slice aR rows.length cR)):=Lib.hid (fun W k=>⟨box_size k,box_cell k 0,box_cell k 1⟩);cases hb:taleB dss f rows
 ·
  have HE:Hid (ocB dss f rows=[]):=Lib.hid (by rw[ocB,hb];rfl);rw[hb] at C;go_enter Tryz.func38,Tryz.ntmps38
  go_wp2_with fail
  refine (C _ ((Keep.refl w).alloc _)).mono ?_;rintro e w1 ⟨rfl,k1⟩;have K1:=((Keep.refl w).alloc _).trans k1;have s1:=K1.size;go_wp2;go_ret;exact⟨_,rfl,by rw[HE.out];exact Own.base_le (base:=w1.heap.size) (World.ownsRow_lit w1 #[] 0 (Nat.le_refl _) (by decide) rfl) s1,K1.alloc _⟩
 ·
  obtain⟨h12,sl,f12,r36,-,-,ru,fu,-⟩:=page_use hb;have pin:=fun i hi=>plW_in h12 (tale_use hb).2.2 (i:=i) hi
  have HL:Hid (ocB dss f rows=ocK (eventsB dss) f f.length++lastK (eventsB dss) rows rows.length):=Lib.hid (by rw[ocB,if_pos hb];rfl);have HB:=Lib.hid (fun i hi=>(fu i hi).1);have HRW:=Lib.hid ru;have HPL:=Lib.hid pin;rw[hb] at C;clear fu ru pin sl hb;go_enter Tryz.func38,Tryz.ntmps38
  go_wp2_with fail
  refine (C _ ((Keep.refl w).alloc _)).mono ?_;rintro e w1 ⟨rfl,k1⟩;have K1:=((Keep.refl w).alloc _).trans k1;have s1:=K1.size;go_wp2_with fail
  refine (implEventsOf_any _ _ _ (h.keep K1) hx hm).mono ?_;rintro e wB ⟨v3,rfl,a3,k3⟩;obtain⟨lB,b0,b1⟩:=BH.out _ (k1.trans k3);have kB:=K1.trans k3;have h:=a3.rd;have s3:=kB.size;clear BH k1 k3 K1 C a3 s1;generalize eventsB dss=es at *;obtain⟨a,c,rfl,h⟩:=h;have hown0:Own (wB.alloc (.cells #[] 2)) wB.heap.size (.slice (some ⟨wB.heap.size,0,none⟩) 0 0) []:=World.ownsRow_lit wB #[] 0 (Nat.le_refl _) (by decide) rfl;have d6:(wB.alloc (.cells #[] 2)).cell? ⟨w.heap.size,0,none⟩=some (.slice aF f.length cF):=(((Keep.refl wB).alloc _).cell lB).trans b0;go_wp2;clear d6;go_loopw [6,23] (fun v0 i wr=>∃(k:Nat) (v:Value),v=v0∧k≤f.length∧i = .int .i64 k∧Own wr wB.heap.size v (ocK es f k)∧Keep wB wr) (fun _ i _=>f.length-(intOf i).toNat)
  case atStart=>exact⟨0,_,rfl,Nat.zero_le _,rfl,hown0,(Keep.refl _).alloc _⟩
  case round=>
   obtain⟨k,v,rfl,hk,rfl,ho,hK⟩:=hrel;clear hown0;by_cases hlt:k<f.length
   ·
    obtain⟨t,ht0⟩:=Int.eq_ofNat_of_zero_le (HB.out k hlt).1;have hte:t<es.length:=by have:=(HB.out k hlt).2;omega
    rcases h with h0|⟨b,off,rfl,hb,hc⟩
    · exfalso;rw[h0] at hte;simp at hte
    have HM:Hid (ocK es f (k+1)=ocK es f k++[(es.getD t zE).2.2.2.2.1]):=Lib.hid (by
     rw[ocK,vlE,ht0,Int.toNat_natCast])
    have AT:=(hc t _ (evs_get hte)).keep hb hK;obtain⟨e,he⟩:∃e,e=es.getD t zE:=⟨_,rfl⟩;rw[←he] at AT HM;clear he;obtain⟨x0,x1,x2,x3,x4,x5⟩:=e;obtain⟨-,-,-,-,A4,-⟩:=atE AT;clear AT hc;simp only at HM;have hF:=(HF.out.keep kB).keep hK;obtain⟨a2,c2,he2,hF'⟩:=hF;simp only[Value.slice.injEq,true_and] at he2;obtain⟨rfl,rfl⟩:=he2;rcases hF' with h0|⟨bf,of',rfl,hbf,hcf⟩
    · exfalso;rw[h0] at hlt;simp at hlt
    have d4:=hcf k hlt;rw[ht0] at d4;clear hcf ht0;have hml:(ocK es f k).length≤k:=by rw[ocK_len];omega
    have hsz:=hK.size;have i1:(0:Int)≤(k:Int):=Int.natCast_nonneg _;have i2:(k:Int)<(f.length:Int):=by omega
    have j1:(0:Int)≤(t:Int):=Int.natCast_nonneg _;have j2:(t:Int)<(es.length:Int):=by omega
    have l2:(es.length:Int)≤12:=by omega
    have l3:(f.length:Int)≤12:=by omega
    go_wp2_with (at_builtin;refine wpList_append_own _ rfl _ _ 50 rfl wB.heap.size 2 i0 (.int .i64 0) 1 8 Tryz.underlying50 hi hz0 hz1 hz2 rfl (by decide) _ _ _ rfl (World.ownsRow.alloc ho _) ⟨_,0,none⟩ 1 1 [.int .i64 x4] rfl rfl ?c1 ?c2 ?c3 ?c4 ?c5 ?_)
    case c1=>
     intro j u hj
     match j,hj with
     | 0,hj=>simp at hj;subst hj;simp[Addr.add]
    case c2=>intro u hu;simp at hu;subst hu;rfl
    case c3=>unfold maxLen;omega
    case c4=>omega
    case c5=>simp;omega
    intro v' w1 hown' hgrow _;have hK1:Keep wB w1:=(hK.alloc _).grown hgrow ho.ge;clear hgrow;go_wp2;go_roundw;case rel=>exact⟨k+1,_,rfl,by omega,by go_num,by rw[HM.out];exact own_hit hown',hK1⟩
    case measure=>simp[intOf];omega
   ·
    obtain rfl:k=f.length:=by omega
    obtain⟨wq,hwq⟩:∃W:World,W=wr:=⟨_,rfl⟩;subst hwq;have rb:RowAt (wq.alloc (.cells #[.int .i64 0,.int .i64 0,.int .i64 0] 86)) wq.heap.size (lastK es rows 0):=⟨_,_,heap_alloc_new _ _,rfl⟩;have k1:Keep wq (wq.alloc (.cells #[.int .i64 0,.int .i64 0,.int .i64 0] 86)):=(Keep.refl _).alloc _;have hml:(ocK es f f.length).length≤12:=by rw[ocK_len];omega
    have NO:v.ownBlock=none∨v.ownBlock≠some wq.heap.size:=by
     cases hu:v.ownBlock with
     |none=>exact .inl rfl
     |some k=>exact .inr (fun e=>by have:=(World.ownsRow.lt ho k hu).2;have:=Option.some.inj e;omega)
    have ho1:=ho.keep k1;have K1:=hK.trans k1;have sq:=hK.size;have d6:=(K1.cell lB).trans b1;generalize ocK es f f.length=OC at HL ho1 hml;clear ho k1;go_wp2;clear d6;go_loopw [39] (fun i wr=>∃k:Nat,k≤rows.length∧i = .int .i64 k∧RowAt wr wq.heap.size (lastK es rows k)∧Own wr wB.heap.size v OC∧Keep wB wr) (fun i _=>rows.length-(intOf i).toNat)
    case atStart=>exact⟨0,Nat.zero_le _,rfl,rb,ho1,K1⟩
    case round=>
     clear rb ho1 K1 hK;obtain⟨k,hk,rfl,hr,ho,hK⟩:=hrel;by_cases hlt:k<rows.length
     ·
      obtain⟨x,hx0⟩:=Int.eq_ofNat_of_zero_le (HRW.out k hlt).1;have hxe:x<es.length:=by have:=(HRW.out k hlt).2;omega
      obtain⟨p,hp0⟩:=Int.eq_ofNat_of_zero_le (HPL.out k hlt).1;have hp2:p<3:=by have:=(HPL.out k hlt).2;omega
      rcases h with h0|⟨b,off,rfl,hb,hc⟩
      · exfalso;rw[h0] at hxe;simp at hxe
      have HM:Hid (lastK es rows (k+1)=(lastK es rows k).set p (es.getD x zE).2.2.2.2.1):=Lib.hid (by
       rw[lastK,hp0,Int.toNat_natCast,vlE,hx0,Int.toNat_natCast])
      have HP:(es.getD x zE).2.2.2.1=(p:Int):=by
       rw[←hp0,plE,hx0,Int.toNat_natCast]
      have AT:=(hc x _ (evs_get hxe)).keep hb hK;obtain⟨e,he⟩:∃e,e=es.getD x zE:=⟨_,rfl⟩;rw[←he] at AT HM HP;clear he;obtain⟨x0,x1,x2,x3,x4,x5⟩:=e;simp only at HM HP;subst HP;obtain⟨-,-,-,A3,A4,-⟩:=atE AT;clear AT hc hp0;have hF:=(HR.out.keep kB).keep hK;obtain⟨a2,c2,he2,hF'⟩:=hF;simp only[Value.slice.injEq,true_and] at he2;obtain⟨rfl,rfl⟩:=he2;rcases hF' with h0|⟨bf,of',rfl,hbf,hcf⟩
      · exfalso;rw[h0] at hlt;simp at hlt
      have d4:=hcf k hlt;rw[hx0] at d4;clear hcf hx0;have d2:=hr.free p;have d7:=hr.cell (j:=p) (by rw[lastK_len];exact hp2);have hsz:=hK.size;have i1:(0:Int)≤(k:Int):=Int.natCast_nonneg _;have i2:(k:Int)<(rows.length:Int):=by omega
      have j1:(0:Int)≤(x:Int):=Int.natCast_nonneg _;have j2:(x:Int)<(es.length:Int):=by omega
      have j3:(0:Int)≤(p:Int):=Int.natCast_nonneg _;have j4:(p:Int)<3:=by omega
      have l2:(es.length:Int)≤12:=by omega
      have l3:(rows.length:Int)≤36:=by omega
      go_wp2;go_region
      all_goals
       go_wp2;go_roundw
       case rel=>
        refine⟨k+1,by omega,by go_num,?_,?_,?_⟩
        · rw[HM.out];exact hr.drew.set p _
        · exact (ho.kept (grown_drew wr (some wq.heap.size)) NO).kept (grown_set _ wq.heap.size p _) NO
        · exact (hK.drew).grown (grown_set _ wq.heap.size p _) (by simp;omega)
       case measure=>simp[intOf];omega
     ·
      obtain rfl:k=rows.length:=by omega
      have CC:=rd_cells (w:=wr) (b:=wq.heap.size) (off:=0) (zs:=lastK es rows rows.length) (fun i hi=>by rw[Nat.zero_add];exact hr.cell hi);have hll:=lastK_len es rows rows.length;have hsz:=hK.size;go_wp2_with (at_builtin;refine wpList_append_own _ rfl _ _ 50 rfl wB.heap.size 2 i0 (.int .i64 0) 1 8 Tryz.underlying50 hi hz0 hz1 hz2 rfl (by decide) _ _ _ rfl ho ⟨wq.heap.size,0,none⟩ 3 3 ((lastK es rows rows.length).map (Value.int .i64)) rfl (by rw[List.length_map,hll]) ?e1 ?e2 ?e3 ?e4 ?e5 ?_)
      case e1=>exact CC
      case e2=>exact ints_one _
      case e3=>unfold maxLen;omega
      case e4=>omega
      case e5=>omega
      intro v' w3 hown' hgrow _;have k3:Keep wB w3:=hK.grown hgrow ho.ge;have o3:Own w3 wB.heap.size v' (OC++lastK es rows rows.length):=by unfold Own;rw[List.length_append,hll,List.map_append];exact hown'
      clear hgrow hown';go_wp2;go_ret;exact⟨_,rfl,by rw[HL.out];exact o3.base_le s3,kB.trans k3⟩
section
abbrev encH (hs:List Value)(i:Nat):Value:=hs.getD i nilS
abbrev cmpE (E:List (List Int))(i j:Nat):Int:=cmpL (E.getD i []) (E.getD j [])
theorem ltE (E:List (List Int))(i j:Nat):ltOf (cmpE E) i j=lessB (E.getD i []) (E.getD j []):=cmpL_less _ _
theorem swoE (E:List (List Int)):SWO (ltOf (cmpE E)) where
 irrefl x:=by rw[ltE];exact less_irrefl _
 trans x y z h1 h2:=by rw[ltE] at *;exact less_trans _ _ _ h1 h2
 ntrans x y z h1 h2:=by
  rw[ltE] at *
  cases h:lessB (E.getD x []) (E.getD z []) with
  |false=>rfl
  |true=>
   rcases less_total (E.getD y []) (E.getD z []) with e|e|e
   · rw[e] at h1;rw[h] at h1;cases h1
   · rw[e] at h2;cases h2
   · rw[less_trans _ _ _ h e] at h1;cases h1
theorem sort_block {α:Type}[Inhabited α](enc:α→Value)(w:World)(g m:Nat)(d:Array α)(os:Array Obj):w.grownBy (sortWorld enc w g 0 m d os) (some g):=by
 unfold sortWorld;refine⟨rfl,rfl,rfl,?_,fun i hi hne=>?_⟩
 ·
  show w.heap.size≤((putRow enc (Sort.ahead w m) g 0 d).heap++os).size;rw[Array.size_append,size_putRow];exact Nat.le_add_right _ _
 ·
  show ((putRow enc (Sort.ahead w m) g 0 d).heap++os)[i]? = _;rw[Array.getElem?_append_left (by rw[size_putRow];exact hi)];show ((Sort.ahead w m).heap.modify g (onCells (putCells enc 0 d)))[i]? = _;rw[Array.getElem?_modify,if_neg (fun e=>hne (by rw[e]))];rfl
theorem take_put {α:Type}[Inhabited α](enc:α→Value)(cur:Array Value)(d:Array α)(h:d.size≤cur.size):(putCells enc 0 d cur).toList.take d.size=d.toList.map enc:=by
 apply List.ext_getElem?;intro i;rw[List.getElem?_take,List.getElem?_map];by_cases hi:i<d.size
 ·
  rw[if_pos hi];unfold putCells;rw[Array.getElem?_toList,Array.getElem?_mapIdx,Array.getElem?_eq_getElem (by omega),Array.getElem?_toList,Array.getElem?_eq_getElem hi];simp[hi]
 ·
  rw[if_neg hi,Array.getElem?_toList,Array.getElem?_eq_none (by omega)];rfl
theorem sort_row {α:Type}[Inhabited α](enc:α→Value)(w:World)(g m:Nat)(d:Array α)(os:Array Obj)(cur:Array Value)(t:TypeId)(h:w.heap[g]? = some (.cells cur t (0,0))):(sortWorld enc w g 0 m d os).heap[g]? = some (.cells (putCells enc 0 d cur) t (0,0)):=by
 have hl:=(Array.getElem?_eq_some_iff.1 h).1;unfold sortWorld;show ((putRow enc (Sort.ahead w m) g 0 d).heap++os)[g]? = _;rw[Array.getElem?_append_left (by rw[size_putRow];exact hl)];show ((Sort.ahead w m).heap.modify g (onCells (putCells enc 0 d)))[g]? = _;rw[Array.getElem?_modify,if_pos rfl];show Option.map _ (w.heap[g]?)=_;rw[h];rfl
theorem take_putL {α:Type}[Inhabited α](enc:α→Value)(cur:Array Value)(d:Array α)(h:d.size≤cur.size)(n:Nat)(hn:n≤d.size):(putCells enc 0 d cur).toList.take n=(d.toList.take n).map enc:=by
 have e:=congrArg (List.take n) (take_put enc cur d h)
 rwa [List.take_take,Nat.min_eq_left hn,←List.map_take] at e
theorem OwnLL.parts {w:World}{m:Nat}{v:Value}{hs:List Value}{E:List (List Int)}(h:OwnLL 50 ivR w m v hs E)(hz:v≠.slice none 0 0):∃g cap cur,v = .slice (some ⟨g,0,none⟩) hs.length cap∧m≤g∧w.heap[g]? = some (.cells cur 50 (0,0))∧hs.length≤cap∧cap≤maxLen∧cur.size=cap*1∧cur.toList.take hs.length=hs∧hs.length≤cur.size:=by
 rcases (h.fam.own none trivial).2 with ⟨q,_⟩|⟨g,cap,cur,q,hb,hh,hc,hmx,hsz,ht⟩
 · exact absurd q hz
 have ht:cur.toList.take (hs.length*1)=hs:=ht;rw[Nat.mul_one] at ht;refine⟨g,cap,cur,q,hb,hh,hc,hmx,hsz,ht,?_⟩;have:=congrArg List.length ht;rw[List.length_take,Array.length_toList] at this;exact Nat.le_trans (Nat.le_of_eq this.symm) (Nat.min_le_right _ _)
section
variable {w W:World} {m g cap:Nat} {hs:List Value} {E:List (List Int)} (h:OwnLL 50 ivR w m (.slice (some ⟨g,0,none⟩) hs.length cap) hs E)
include h
theorem OwnLL.ne:∀i,i<hs.length→∀b,(hs.getD i nilS).ownBlock=some b→b≠g:=fun i hi b hb e=>by
 rcases h.fam.apart (some i) none hi trivial (by simp) with h1|h1
 · rw[show (llR 50 ivR (.slice (some ⟨g,0,none⟩) hs.length cap) hs E (some i)).v=hs.getD i nilS from rfl,hb] at h1;cases h1
 ·
  apply h1;rw[show (llR 50 ivR (.slice (some ⟨g,0,none⟩) hs.length cap) hs E (some i)).v=hs.getD i nilS from rfl,hb,e];rfl
theorem OwnLL.ownAt (hW:w.grownBy W (some g)):∀i,i<hs.length→(ivR (E.getD i []) (hs.getD i nilS)).own W m:=fun i hi=>own_same (h.fam.own (some i) hi) (fun b hb=>hW.block b (h.fam.lt (i:=some i) hi b hb).2 (fun e=>h.ne i hi b hb (Option.some.inj e)))
theorem OwnLL.rdAt (hW:w.grownBy W (some g))(i:Nat):Rd W (hs.getD i nilS) (E.getD i []):=by
 by_cases hi:i<hs.length
 · exact Own.rd (h.ownAt hW i hi)
 ·
  have:=h.len;rw[List.getD_eq_getElem?_getD,List.getElem?_eq_none (by omega),List.getD_eq_getElem?_getD,List.getElem?_eq_none (by omega)];exact⟨none,0,rfl,.inl rfl⟩
theorem OwnLL.pick (hW:w.grownBy W (some g)){cur:Array Value}(hb:m≤g)(hmx:cap≤maxLen)(hsz:cur.size=cap*1)(hrow:W.heap[g]? = some (.cells cur 50 (0,0)))(is:List Nat)(hc:is.length≤cap)(ht:cur.toList.take is.length=is.map (encH hs))(hlt:∀i,i∈is→i<hs.length)(nd:is.Nodup):
  OwnLL 50 ivR W m (.slice (some ⟨g,0,none⟩) is.length cap) (is.map (encH hs)) (is.map (fun i=>E.getD i [])):=by
 have hl:=h.len;have hg:(Value.slice (some ⟨g,0,none⟩) is.length cap).ownBlock=some g:=rfl;have dlt:∀i,i<is.length→is.getD i 0<hs.length:=fun i hi=>hlt _ (by rw[List.getD_eq_getElem?_getD,List.getElem?_eq_getElem hi];exact List.getElem_mem _)
 have getH:∀i,i<is.length→(is.map (encH hs)).getD i nilS=hs.getD (is.getD i 0) nilS:=fun i hi=>by
  rw[List.getD_eq_getElem?_getD,List.getElem?_map,List.getElem?_eq_getElem hi,List.getD_eq_getElem?_getD (l:=is),List.getElem?_eq_getElem hi];rfl
 have getE:∀i,i<is.length→(is.map (fun i=>E.getD i [])).getD i []=E.getD (is.getD i 0) []:=fun i hi=>by
  rw[List.getD_eq_getElem?_getD,List.getElem?_map,List.getElem?_eq_getElem hi,List.getD_eq_getElem?_getD (l:=is),List.getElem?_eq_getElem hi];rfl
 have lv:∀i,llLive (is.map (encH hs)).length (some i)→i<is.length:=fun i ho=>by
  have:i<(is.map (encH hs)).length:=ho
  rwa [List.length_map] at this
 refine⟨⟨fun o ho=>?_,fun o o' ho ho' hne=>?_⟩,by rw[List.length_map,List.length_map]⟩
 ·
  cases o with
  |none=>
   refine⟨by show (is.map (encH hs)).length=_;exact (Nat.mul_one _).symm,.inr ⟨g,cap,cur,?_,hb,hrow,?_,hmx,hsz,?_⟩⟩
   ·
    show Value.slice (some ⟨g,0,none⟩) is.length cap = .slice _ (is.map (encH hs)).length cap;rw[List.length_map]
   ·
    show (is.map (encH hs)).length≤cap;rw[List.length_map];exact hc
   ·
    show cur.toList.take ((is.map (encH hs)).length*1)=is.map (encH hs);rw[Nat.mul_one,List.length_map];exact ht
  |some i=>
   have hi:=lv i ho;show (ivR ((is.map (fun i=>E.getD i [])).getD i []) ((is.map (encH hs)).getD i nilS)).own _ m;rw[getH i hi,getE i hi];exact h.ownAt hW _ (dlt i hi)
 ·
  cases o with
  |none=>
   cases o' with
   |none=>exact absurd rfl hne
   |some j=>
    have hj:=lv j ho';refine .inr (fun e=>?_);have e:(Value.slice (some ⟨g,0,none⟩) is.length cap).ownBlock=((is.map (encH hs)).getD j nilS).ownBlock:=e;rw[getH j hj,hg] at e;exact h.ne _ (dlt j hj) g e.symm rfl
  |some i=>
   have hi:=lv i ho
   cases o' with
   |none=>
    show ((is.map (encH hs)).getD i nilS).ownBlock=none∨((is.map (encH hs)).getD i nilS).ownBlock≠(Value.slice (some ⟨g,0,none⟩) is.length cap).ownBlock;rw[getH i hi,hg]
    cases hq:(hs.getD (is.getD i 0) nilS).ownBlock with
    |none=>exact .inl rfl
    |some b=>exact .inr (fun e=>h.ne _ (dlt i hi) b hq (Option.some.inj e))
   |some j=>
    have hj:=lv j ho';show ((is.map (encH hs)).getD i nilS).ownBlock=none∨((is.map (encH hs)).getD i nilS).ownBlock≠((is.map (encH hs)).getD j nilS).ownBlock;rw[getH i hi,getH j hj]
    have hd:is.getD i 0≠is.getD j 0:=fun e=>by
     rw[List.getD_eq_getElem?_getD,List.getD_eq_getElem?_getD,List.getElem?_eq_getElem hi,List.getElem?_eq_getElem hj] at e;exact hne (by rw[(List.getElem_inj nd).1 e])
    exact h.fam.apart (some _) (some _) (dlt i hi) (dlt j hj) (by simpa using hd)
theorem OwnLL.one:OneCell (encH hs):=fun i=>by
 obtain⟨a,c,e,_⟩:=h.rdAt (World.grownBy.refl _ _) i;show (hs.getD i nilS).oneCell'=true;rw[e];rfl
theorem OwnLL.holds {cur:Array Value}(hh:w.heap[g]? = some (.cells cur 50 (0,0)))(ht:cur.toList.take hs.length=hs):Holds (encH hs) w g 0 (Array.range hs.length):=fun j hj=>by
 have _:=h.len;rw[Array.size_range] at hj;refine⟨?_,frozen_of_row w g (0+j) _ _ hh⟩;rw[cell_of_row w g (0+j) _ _ _ hh,Nat.zero_add,getElem!_pos _ j (by rw[Array.size_range];exact hj),Array.getElem_range];have e1:(cur.toList.take hs.length)[j]? = hs[j]?:=by rw[ht]
 rw[List.getElem?_take,if_pos hj,Array.getElem?_toList] at e1;rw[e1,List.getElem?_eq_getElem hj];show _=some (hs.getD j nilS);rw[List.getD_eq_getElem?_getD,List.getElem?_eq_getElem hj];rfl
end
theorem sortEnds_any (w:World)(m:Nat)(v:Value)(hs:List Value)(E:List (List Int))(h:OwnLL 50 ivR w m v hs E)(hz:v≠.slice none 0 0)(hn:E.length≤1099511627776)(hm:∀i,i<E.length→(E.getD i []).length≤1048576):
  Calls Tryz.prog 86 #[v,.func (Fn.func 87) #[] #[]] w fun e w'=>e = .returned (.tuple #[])∧∃hs' E',OwnLL 50 ivR w' m v hs' E'∧E'.Perm E∧(∀i j,i<j→j<E'.length→lessB (E'.getD j []) (E'.getD i [])=false)∧w.grownBy w' v.ownBlock:=by
 obtain⟨g,cap,cur,rfl,hb,hh,hc,hmx,hsz,ht,hcur⟩:=h.parts hz;have hl:=h.len
 have hm':∀i,(E.getD i []).length≤1048576:=fun i=>by
  by_cases hi:i<hs.length
  · exact hm i (by omega)
  · rw[List.getD_eq_getElem?_getD,List.getElem?_eq_none (by omega)];simp
 have dsz:(Array.range hs.length).size=hs.length:=Array.size_range;have hold:=h.holds hh ht
 have lays:CmpLays1 Tryz.prog 87 #[] (encH hs) (cmpE E) g 0 (Array.range hs.length).size w:=fun mm os dk _ x y=>by
  have hW:=sort_block (encH hs) w g mm dk os;refine (cmpS_any _ _ _ (E.getD x []) (E.getD y []) (h.rdAt hW x) (h.rdAt hW y) (hm' x) (hm' y)).mono ?_;rintro e w' ⟨rfl,rfl⟩;exact⟨rfl,0,#[],by rw[grow_empty];rfl⟩
 have eg:∀args w,(callFunc 87 args).run Tryz.prog w = .ok (.enter 87 args) w:=enters_of Tryz.func87 (by kernel_rfl) rfl;have C:=Any.slices_SortFunc Tryz.srt (encH hs) h.one (cmpE E) (swoE E) 87 #[] g 0 cap (Array.range hs.length) w eg lays hold (Array.getElem?_eq_some_iff.1 hh).1 (by rw[dsz];omega);rw[dsz] at C;refine Calls.mono C ?_;rintro e w' ⟨rfl,d',mm,os,hp,hs',rfl⟩;obtain⟨p1,-,p3⟩:=hp;rw[dsz] at p1;have hW:=sort_block (encH hs) w g mm d' os;have hrow:=sort_row (encH hs) w g mm d' os cur _ hh
 have hperm:d'.toList.Perm (List.range hs.length):=by
  have e1:(d'.extract 0 hs.length).toList=d'.toList:=by rw[←p1,Array.extract_size]
  have e2:((Array.range hs.length).extract 0 hs.length).toList=List.range hs.length:=by
   have:(Array.range hs.length).extract 0 hs.length=Array.range hs.length:=by
    have q:=Array.extract_size (xs:=Array.range hs.length)
    rwa [dsz] at q
   rw[this,Array.toList_range]
  rw[e1,e2] at p3;exact p3
 have dlen:d'.toList.length=hs.length:=by rw[Array.length_toList,p1]
 have P:=h.pick hW hb hmx (cur:=putCells (encH hs) 0 d' cur) (by unfold putCells;rw[Array.size_mapIdx];exact hsz) hrow d'.toList (by omega) (by rw[Array.length_toList];exact take_put (encH hs) cur d' (by omega)) (fun i hi=>List.mem_range.1 (hperm.mem_iff.1 hi)) (hperm.nodup_iff.2 List.nodup_range);rw[dlen] at P;refine⟨rfl,_,_,P,?_,fun i j hij hj=>?_,hW⟩
 ·
  have e1:(List.range hs.length).map (fun i=>E.getD i [])=E:=by
   apply List.ext_getElem (by simp[hl]);intro i h1 h2;rw[List.getElem_map,List.getElem_range,List.getD_eq_getElem?_getD,List.getElem?_eq_getElem h2];rfl
  have:=hperm.map (fun i=>E.getD i [])
  rwa [e1] at this
 ·
  have hj':j<hs.length:=by rwa [List.length_map,dlen] at hj
  have q:=hs' i j (Nat.zero_le _) hij hj';rw[ltE] at q
  have gd:∀k,k<hs.length→(d'.toList.map (fun i=>E.getD i [])).getD k []=E.getD (d'[k]!) []:=fun k hk=>by
   rw[List.getD_eq_getElem?_getD,List.getElem?_map,List.getElem?_eq_getElem (by omega),getElem!_pos _ k (by omega)];rfl
  rw[gd j hj',gd i (by omega)];exact q
end
theorem put_block (enc:Nat→Value)(w:World)(g q:Nat)(d:Array Nat):w.grownBy (putRow enc (Sort.ahead w q) g 0 d) (some g):=by
 refine⟨rfl,rfl,rfl,by rw[size_putRow];exact Nat.le_refl _,fun i hi hne=>?_⟩;show ((Sort.ahead w q).heap.modify g (onCells (putCells enc 0 d)))[i]? = _;rw[Array.getElem?_modify,if_neg (fun e=>hne (by rw[e]))];rfl
theorem put_row (enc:Nat→Value)(w:World)(g q:Nat)(d:Array Nat)(cur:Array Value)(t:TypeId)(h:w.heap[g]? = some (.cells cur t (0,0))):(putRow enc (Sort.ahead w q) g 0 d).heap[g]? = some (.cells (putCells enc 0 d cur) t (0,0)):=by
 show ((Sort.ahead w q).heap.modify g (onCells (putCells enc 0 d)))[g]? = _;rw[Array.getElem?_modify,if_pos rfl];show Option.map _ (w.heap[g]?)=_;rw[h];rfl
theorem compact_any (w:World)(m g cap:Nat)(hs:List Value)(E:List (List Int))(h:OwnLL 50 ivR w m (.slice (some ⟨g,0,none⟩) hs.length cap) hs E)(hn:hs.length≤1099511627776)(hm:∀i,i<E.length→(E.getD i []).length≤1048576):
  Calls Tryz.prog 88 #[.slice (some ⟨g,0,none⟩) hs.length cap,.func (Fn.func 89) #[] #[]] w fun e w'=>e = .returned (.slice (some ⟨g,0,none⟩) (sqz E).length cap)∧(∃hs',OwnLL 50 ivR w' m (.slice (some ⟨g,0,none⟩) (sqz E).length cap) hs' (sqz E))∧w.grownBy w' (some g):=by
 obtain⟨g',cap',cur,e,hb,hh,hc,hmx,hsz,ht,hcur⟩:=h.parts (by simp);simp only[Value.slice.injEq,Option.some.injEq,Addr.mk.injEq,and_true,true_and] at e;obtain⟨rfl,rfl⟩:=e;have hl:=h.len
 have hm':∀i,(E.getD i []).length≤1048576:=fun i=>by
  by_cases hi:i<E.length
  · exact hm i hi
  · rw[List.getD_eq_getElem?_getD,List.getElem?_eq_none (by omega)];simp
 refine (cmpct_core w g 0 cap hs.length (encH hs) E (h.holds hh ht) hn hc (by show hs.getD hs.length nilS=_;rw[List.getD_eq_getElem?_getD,List.getElem?_eq_none (by omega)];rfl) (fun q dk i _=>h.rdAt (put_block (encH hs) w g q dk) i) hm').mono ?_;rintro e w' ⟨rfl,q,rfl⟩;have hk:=kp_len E hs.length;have hS:(sqz E).length=(kp E hs.length).length:=by unfold sqz;rw[List.length_map,hl]
 have dsz:((kp E hs.length++List.replicate (hs.length-(kp E hs.length).length) hs.length).toArray).size=hs.length:=by
  rw[List.size_toArray,List.length_append,List.length_replicate];omega
 have P:=h.pick (put_block (encH hs) w g q _) hb hmx (cur:=putCells (encH hs) 0 (kp E hs.length++List.replicate (hs.length-(kp E hs.length).length) hs.length).toArray cur) (by unfold putCells;rw[Array.size_mapIdx];exact hsz) (put_row (encH hs) w g q _ cur _ hh) (kp E hs.length) (by omega)
  (by rw[take_putL (encH hs) cur _ (by omega) _ (by omega)];show ((kp E hs.length++_).take _).map _=_;rw[List.take_append_of_le_length (Nat.le_refl _),List.take_length]) (fun i hi=>kp_lt hi) (kp_nodup E _)
 refine⟨by rw[hS],⟨(kp E hs.length).map (encH hs),?_⟩,put_block (encH hs) w g q _⟩;rw[hS];have e2:sqz E=(kp E hs.length).map (fun i=>E.getD i []):=by unfold sqz;rw[hl]
 rw[e2];exact P
theorem asOut_any (w:World)(m:Nat)(v:Value)(hs:List Value)(E:List (List Int))(h:OwnLL 50 ivR w m v hs E)(hz:v≠.slice none 0 0)(hn:E.length≤1099511627776)(hm:∀i,i<E.length→(E.getD i []).length≤1048576):
  Calls Tryz.prog 40 #[v] w fun e w'=>∃v' hs' l,e = .returned v'∧OwnLL 50 ivR w' m v' hs' l∧Ord l∧(∀x,x∈l↔x∈E)∧w.grownBy w' v.ownBlock:=by
 have CS:=sortEnds_any w m v hs E h hz hn hm;obtain⟨g,cap,cur,rfl,-⟩:=h.parts hz;have hl:=h.len
 have CC:Hid (∀(w1:World) (hs1:List Value) (E1:List (List Int)),OwnLL 50 ivR w1 m (.slice (some ⟨g,0,none⟩) hs.length cap) hs1 E1→E1.Perm E→Calls Tryz.prog 88 #[.slice (some ⟨g,0,none⟩) hs.length cap,.func (Fn.func 89) #[] #[]] w1 fun e w'=>e = .returned (.slice (some ⟨g,0,none⟩) (sqz E1).length cap)∧(∃hs',OwnLL 50 ivR w' m (.slice (some ⟨g,0,none⟩) (sqz E1).length cap) hs' (sqz E1))∧w1.grownBy w' (some g)):=Lib.hid (fun w1 hs1 E1 h1 hp=>by
  have e:hs.length=hs1.length:=by rw[h1.len,hp.length_eq,hl]
  rw[e] at h1 ⊢;refine compact_any w1 m g cap hs1 E1 h1 (by omega) (fun i hi=>?_);have hx:E1.getD i []∈E:=hp.mem_iff.1 (by rw[List.getD_eq_getElem?_getD,List.getElem?_eq_getElem hi];exact List.getElem_mem _);obtain⟨j,hj,e⟩:=List.getElem_of_mem hx;have:=hm j hj;rw[List.getD_eq_getElem?_getD,List.getElem?_eq_getElem hj] at this
  rw[←e];exact this)
 clear h hz hn hm hl;generalize hs.length=n at CS CC;go_enter Tryz.func40,Tryz.ntmps40
 go_wp2_with fail
 refine CS.mono ?_;rintro e w1 ⟨rfl,hs1,E1,O1,hp,hso,g1⟩;have C2:=CC.out w1 hs1 E1 O1 hp;have XO:=Lib.hid (sqz_ord hso);have XM:=Lib.hid (fun x=>(sqz_mem E1 x).trans hp.mem_iff);have XG:=Lib.hid g1;clear CS CC O1 hp hso g1;go_wp2_with fail
 refine C2.mono ?_;rintro e w2 ⟨rfl,⟨hs2,O2⟩,g2⟩;have XP:=Lib.hid (And.intro O2 g2);clear C2 O2 g2;go_wp2;go_ret;exact⟨_,hs2,sqz E1,rfl,XP.out.1,XO.out,XM.out,grown_trans XG.out XP.out.2⟩
theorem tlI_sz (dss:List (List Dd))(strict:Bool)(k i:Nat):((tlI dss strict k).getD i []).length≤1048576:=by
 by_cases h:i<(tlI dss strict k).length
 ·
  have hm:(tlI dss strict k).getD i []∈tlI dss strict k:=by rw[List.getD_eq_getElem?_getD,List.getElem?_eq_getElem h];exact List.getElem_mem _
  generalize (tlI dss strict k).getD i []=x at hm ⊢;unfold tlI at hm;obtain⟨n,_,e⟩:=List.mem_map.1 hm;rw[←e];have:=ocB_len dss (tfB dss n) (trB dss n);unfold ocT;omega
 · rw[List.getD_eq_getElem?_getD,List.getElem?_eq_none (by omega)];simp
theorem tale_lens (dss:List (List Dd))(n:Int):(tfB dss n).length≤1048576∧(trB dss n).length≤1048576:=⟨by have:(tfB dss n).length≤12:=(by unfold tfB;split;exact atB_len _ _;simp);omega,by have:(trB dss n).length≤36:=(by unfold trB;split;exact ratB_len _ _;simp);omega⟩
theorem implStrictTold_any (w:World)(v:Value)(dss:List (List Dd))(h:RdW w v dss)(hx:dss.length≤1048576)(hm:∀i,i<dss.length→(dss.getD i []).length≤1048576):
  Calls Tryz.prog 17 #[v] w fun e w'=>∃v' l,e = .returned v'∧FreeL w' w.heap.size w'.heap.size v' l∧EndsOf dss true l∧Keep w w':=by
 have CT:=Lib.hid (fun (W:World) (kW:Keep w W)=>implTalesCount_any W v dss (h.keep kW) hx hm);have CA:=Lib.hid (fun (W:World) (kW:Keep w W) (n:Int)=>implTaleAt_any W v dss n (h.keep kW) hx hm);have CX:=Lib.hid (fun (W:World) (kW:Keep w W) (vF vR:Value) (f rows:List Int)=>fun a b c d e=>implStrictOk_any W v vF vR dss f rows (h.keep kW) a b c hx hm d e);have CO:=Lib.hid (fun (W:World) (kW:Keep w W) (vF vR:Value) (f rows:List Int)=>fun a b c d e=>implOutcomeOf_own W v vF vR dss f rows (h.keep kW) a b c hx hm d e);have HE:=Lib.hid (fun (l:List (List Int)) (ho:Ord l) hm=>tld_ends (dss:=dss) (strict:=true) ho hm);obtain⟨av,cv,rfl,-⟩:=h;have hc:=tcB_few dss;have hc1:=(tcB_in dss).1;obtain⟨c,hce⟩:∃c,c=tcB dss:=⟨_,rfl⟩;rw[←hce] at hc hc1;have XC:=Lib.hid hce;obtain⟨w1,hw1⟩:∃W:World,W=w.alloc (.cells #[] 50):=⟨_,rfl⟩;have K1:Keep w w1:=by rw[hw1];exact (Keep.refl w).alloc _
 have O1:OwnLL 50 ivR w1 w.heap.size (.slice (some ⟨w.heap.size,0,none⟩) 0 0) [] []:=by rw[hw1];exact ownLL_new w
 have CT1:=CT.out w1 K1;rw[←hce] at CT1;clear hm hx hce;go_enter Tryz.func17,Tryz.ntmps17
 go_upto_region 2 with fail
 rw[←hw1];clear hw1;go_wp2_with fail
 refine CT1.mono ?_;rintro e w2 ⟨rfl,k2⟩;have K2:=K1.trans k2;have O2:=O1.keep k2;clear CT1 K1 O1 k2;go_wp2;go_loopw [3,10] (fun s3 i wr=>∃(k:Nat) (ve:Value) (hs:List Value),ve=s3∧(k:Int)≤max c 0∧i = .int .i64 k∧Hid (OwnLL 50 ivR wr w.heap.size ve hs (tlI dss true k)∧ve≠.slice none 0 0∧Keep w wr)) (fun _ i _=>c.toNat-(intOf i).toNat)
 case atStart=>exact⟨0,_,[],rfl,by omega,rfl,Lib.hid ⟨O2,by simp,K2⟩⟩
 case round=>
  clear O2 K2;obtain⟨k,ve,hs,rfl,hk,rfl,X⟩:=hrel;have i1:(0:Int)≤(k:Int):=Int.natCast_nonneg _;by_cases hlt:(k:Int)<c
  ·
   have CA1:=CA.out wr X.out.2.2 (k:Int);go_wp2_with fail
   refine CA1.mono ?_;rintro e w3 ⟨vF,vR,rfl,rF,rR,cap,-,k3⟩;obtain⟨lF,lR⟩:=tale_lens dss (k:Int);obtain⟨aF,cF,hF,-⟩:=id rF.rd;obtain⟨aR,cR,hR,-⟩:=id rR.rd;subst hF;subst hR;have T2:=StT.start (w1:=w3) (.slice aF (tfB dss (k:Int)).length cF) (.slice aR (trB dss (k:Int)).length cR);obtain⟨w4,hw4⟩:∃W:World,W=w3.alloc (taleC (.slice aF (tfB dss (k:Int)).length cF) (.slice aR (trB dss (k:Int)).length cR)):=⟨_,rfl⟩;rw[←hw4] at T2;have k4:=T2.keep1;have K4:=(X.out.2.2.trans k3).trans k4;have CX1:=CX.out w4 K4 _ _ _ _ (rF.rd.keep k4) (rR.rd.keep k4) cap lF lR;have CO1:=Lib.hid (fun (W:World) (kW:Keep w4 W)=>CO.out W (K4.trans kW) _ _ _ _ ((rF.rd.keep k4).keep kW) ((rR.rd.keep k4).keep kW) cap lF lR);obtain⟨t0,t1⟩:=T2.cells;have XT:=Lib.hid T2;have XS:=Lib.hid (tlI_succ dss true k);have XL:=Lib.hid (X.out.1.keep (k3.trans k4));have XZ:=Lib.hid X.out.2.1;have XK:=Lib.hid K4;have XH:=Lib.hid HE;have XLn:=Lib.hid (tlI_len dss true k);obtain⟨hb,hbe⟩:∃b,b=strictB dss (tfB dss (k:Int)) (trB dss (k:Int)):=⟨_,rfl⟩;rw[←hbe] at CX1;clear X CA1 rF rR T2 k3 k4 K4 cap lF lR;go_upto_region 6 with fail
   rw[show w3.alloc (.cells #[.slice aF (tfB dss (k:Int)).length cF,.slice aR (trB dss (k:Int)).length cR] 52)=w4 from hw4.symm];clear hw4;go_wp2_with fail
   refine CX1.mono ?_;rintro e w5 ⟨rfl,k5⟩;replace t0:=(k5.cell XT.out.size).trans t0;replace t1:=(k5.cell XT.out.size).trans t1;have XB:=Lib.hid hbe;have K5:=Lib.hid (XK.out.trans k5);have X5:=Lib.hid (XL.out.keep k5);have K45:=Lib.hid k5;clear CX1 k5 hbe;cases hb
   ·
    clear CO1;go_wp2;go_roundw
    case rel=>
     have e:tlI dss true (k+1)=tlI dss true k:=by
      rw[XS.out,if_neg (by unfold mayT mayB';rw[if_pos rfl,←XB.out];exact Bool.false_ne_true),List.append_nil]
     exact⟨k+1,ve,hs,rfl,by omega,by go_num,Lib.hid ⟨by rw[e];exact X5.out,XZ.out,K5.out⟩⟩
    case measure=>simp[intOf];omega
   ·
    have e:Hid (tlI dss true (k+1)=tlI dss true k++[ocT dss k]):=Lib.hid (by
     rw[XS.out,if_pos (by unfold mayT mayB';rw[if_pos rfl,←XB.out])])
    have CO2:=CO1.out w5 K45.out;clear CO1;go_wp2_with fail
    refine CO2.mono ?_;rintro e w6 ⟨u,rfl,o6,k6⟩
    obtain⟨au,cu,hu⟩:∃a c,u = .slice a (ocT dss k).length c:=by
     obtain⟨a,c,q,-⟩:=o6.rd;exact⟨a,c,q⟩
    have k7:Keep w6 (w6.alloc (.cells #[.slice au (ocT dss k).length cu] 50)):=(Keep.refl w6).alloc _;have hN:=heap_alloc_new w6 (.cells #[.slice au (ocT dss k).length cu] 50);have OU:(ivR (ocT dss k) u).own w6 w5.heap.size:=o6;subst hu;obtain⟨w7,hw7⟩:∃W:World,W=w6.alloc (.cells #[.slice au (ocT dss k).length cu] 50):=⟨_,rfl⟩;rw[←hw7] at hN k7;have s7:w7.heap.size=w6.heap.size+1:=by rw[hw7,heap_size]
    have k57:=k6.trans k7;have X7:=Lib.hid (X5.out.keep k57);have hrow:w7.ownsRow w.heap.size 50 1 ve hs.length hs:=X7.out.fam.own none trivial;have hlen:hs.length≤382637520:=by have:=X7.out.len;have:=XLn.out;omega
    have hbs:w.heap.size≤w7.heap.size:=Nat.le_trans K5.out.size k57.size;obtain⟨i0,hi,hz0,hz1,hz2⟩:=info_parts Tryz.infoIl;go_wp2_with ((at_builtin;rw[←hw7];refine wpList_append_own_at _ rfl _ _ 26 rfl w.heap.size 50 i0 (.slice none 0 0) 1 24 Tryz.underlying26 hi hz0 hz1 hz2 rfl (by decide) _ _ _ rfl hrow ⟨w6.heap.size,0,none⟩ 1 1 [.slice au (ocT dss k).length cu] rfl rfl (World.news_of_block (cs:=#[.slice au (ocT dss k).length cu]) (t:=50) (fr:=(0,0)) hN) (by simp[Value.oneCell']) ?e3 ?e4 ?e5 ?_))
    case e3=>unfold maxLen;omega
    case e4=>omega
    case e5=>exact hbs
    intro v8 w8 hown8 hgrow8 hnil hblk8;rw[←hw7] at hgrow8;have XP:=Lib.hid (X5.out.push (xs:=ocT dss k) (fun _ _=>rfl) k57 (own_base (World.ownsRow.kept OU k7.grownBy (Classical.em _)) (Nat.le_trans K5.out.size (Nat.le_refl _))) (fun q hq=>(World.ownsRow.lt OU q hq).1) hgrow8 (by rw[s7];exact hblk8) (by show World.ownsRow _ _ _ _ _ (hs++[Value.slice au (ocT dss k).length cu]).length _;rw[List.length_append];exact hown8));have G7:=Lib.hid (Keep.grown (XK.out.trans (K45.out.trans k57)) hgrow8 (fun q hq=>(World.ownsRow.lt hrow q hq).1));have XN:=Lib.hid hnil;clear hown8 hgrow8 hnil hblk8 hrow hN hw7 k57 k6 k7 OU o6 CO2 t0 t1;go_wp2;go_roundw;case rel=>exact⟨k+1,_,_,rfl,by omega,by go_num,Lib.hid ⟨by rw[e.out];exact XP.out,XN.out,G7.out⟩⟩
    case measure=>simp[intOf];omega
  ·
   have hkc:k=c.toNat:=by omega
   have XE:=Lib.hid (tlI_len dss true k);have XF:=Lib.hid (asOut_any wr w.heap.size ve hs (tlI dss true k) X.out.1 X.out.2.1 (by have:=XE.out;omega) (fun i _=>tlI_sz dss true k i));go_upto_region 9 with fail
   go_wp2_with fail
   refine XF.out.mono ?_;rintro e w9 ⟨v9,hs9,l,rfl,o9,ord9,mem9,g9⟩;have XR:Hid (FreeL w9 w.heap.size w9.heap.size v9 l∧EndsOf dss true l∧Keep w w9):=Lib.hid ⟨o9.free,HE.out l ord9 (fun x=>by rw[mem9 x,hkc,XC.out]),Keep.grown X.out.2.2 g9 (fun q hq=>(X.out.1.fam.lt (i:=none) trivial q hq).1)⟩;clear o9 ord9 mem9 g9 XF;go_wp2;go_ret;exact⟨_,l,rfl,XR.out⟩
end Go.Proofs.YtkmjmnljkidobaaGreat
