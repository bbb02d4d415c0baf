/- Gathered texts. -/
import Derived.Test.YtgikcfdckddgpabGreatMI
import Derived.Test.YtgikcfdckddgpabGreatML
import Derived.Test.YtgikcfdckddgpabGreatMM
import Derived.BigRegion
import Derived.Lib.Hide
set_option maxRecDepth 100000
set_option maxHeartbeats 8000000
namespace Go.Proofs.YtgikcfdckddgpabGreat
open Go.ChangeShapes Go.WideShapes Go.ChangeAt Go.RowKit
theorem pass_at (w:World)(g:Nat)(x0 x1:Int)(x2:Bool)(x3 x4 x5 y0 y1:Int)(y2:Bool)(y3 y4 y5:Int)(hg:w.cell? ⟨g,0,none⟩=some (.func (Fn.func 88) #[] #[])):
  Calls Tryz.prog 138 #[eA x0 x1 x2 x3 x4 x5,eA y0 y1 y2 y3 y4 y5,.slice (some ⟨g,0,none⟩) 1 1] w fun e w'=>e = .returned (.bool (onpE (x0,x1,x2,x3,x4,x5) (y0,y1,y2,y3,y4,y5)))∧Keep w w':=by
 have hgl:=block_lt hg;have C:=fun (w1:World) (_:Keep w w1)=>areAt_any w1 x0 x1 x2 x3 x4 x5 y0 y1 y2 y3 y4 y5
 generalize onpE (x0,x1,x2,x3,x4,x5) (y0,y1,y2,y3,y4,y5)=B at C ⊢;have C2:=C _ (((Keep.refl w).alloc (.cells #[.int .i64 x0,.int .i64 x1,.bool x2,.int .i64 x3,.int .i64 x4,.int .i64 x5] 64)).alloc (.cells #[.int .i64 y0,.int .i64 y1,.bool y2,.int .i64 y3,.int .i64 y4,.int .i64 y5] 64));clear C;go_enter Tryz.func138,Tryz.ntmps138
 go_wp2_with fail
 refine wp_loop_rounds 2 ?_;rw[rounds_succ];go_wp2_with fail
 refine C2.mono ?_;rintro e w1 ⟨rfl,k1⟩;have K:=(((Keep.refl w).alloc _).alloc _).trans k1;cases B
 ·
  go_wp2;go_ret;exact⟨rfl,K⟩
 ·
  go_wp2;rw[rounds_succ];go_wp2;go_ret;exact⟨rfl,K⟩
theorem col_plc (dss:List (List Dd)):colAll (tQ onpE (eventsB dss)) (eventsB dss).length (eventsB dss).length=plcL (eventsB dss):=by
 cases hb:workB dss with
 |false=>rw[eventsB,hb];rfl
 |true=>rw[eventsB,if_pos hb,←plc_same hb]
theorem implAtOnePlace_any (w:World)(v:Value)(dss:List (List Dd))(h:RdW w v dss)(hx:dss.length≤1048576)(hm:∀i,i<dss.length→(dss.getD i []).length≤1048576):
  Calls Tryz.prog 106 #[v] w fun e w'=>∃v',e = .returned v'∧Row w' w.heap.size v' (plcL (eventsB dss))∧Keep w w':=by
 have C:=fun (w0:World) (k0:Keep w w0) (g:Nat) (hg:w0.cell? ⟨g,0,none⟩=some (.func (Fn.func 88) #[] #[]))=>
  linesOf_any w0 v (.slice (some ⟨g,0,none⟩) 1 1) dss onpE (h.keep k0) hx hm (fun i j _ _ x0 x1 x2 x3 x4 x5 y0 y1 y2 y3 y4 y5 _ _ _ w1 k1=>pass_at w1 g x0 x1 x2 x3 x4 x5 y0 y1 y2 y3 y4 y5 ((k1.cell (block_lt hg)).trans hg))
 rw[col_plc] at C;go_enter Tryz.func106,Tryz.ntmps106
 go_wp2_with fail
 refine (C _ ((Keep.refl w).alloc _) _ ?_).mono ?_
 · simp
 rintro e w1 ⟨v1,rfl,r1,k1⟩;go_wp2;go_ret;exact⟨_,rfl,r1.base_le (by rw[heap_size];omega),((Keep.refl w).alloc _).trans k1⟩
theorem joining_any (w:World)(a:Option Addr)(n c:Nat):
  Calls Tryz.prog 105 #[.slice a n c] w fun e w'=>e = .returned (.func (Fn.func 125) #[] #[.pointer (some ⟨w.heap.size,0,none⟩)])∧w'=w.alloc (.cells #[.slice a n c] 23):=by
 go_enter Tryz.func105,Tryz.ntmps105
 go_wp2;go_ret;exact⟨rfl,rfl⟩
theorem joins_any (w:World)(g:Nat)(u v:Value)(xs ys:List Int)(hg:w.heap[g]? = some (.cells #[u] 23 (0,0)))(h1:Rd w u xs)(h2:Rd w v ys)(n1:xs.length≤1048576)(n2:ys.length≤1048576):
  Calls Tryz.prog 125 #[v,.pointer (some ⟨g,0,none⟩)] w fun e w'=>∃v',e = .returned v'∧Row w' w.heap.size v' (mixL orI xs ys)∧w'.heap[g]? = some (.cells #[v'] 23 (0,0))∧w.grownBy w' (some g):=by
 have hgl:g<w.heap.size:=(Array.getElem?_eq_some_iff.1 hg).1;have c0:w.cell? ⟨g,0,none⟩=some u:=by rw[cell_of_row w g 0 _ _ _ hg];rfl
 have C:=implJoined_any w u v xs ys h1 h2 n1 n2;obtain⟨a1,c1,rfl,-⟩:=h1;obtain⟨a2,c2,rfl,-⟩:=h2;go_enter Tryz.func125,Tryz.ntmps125
 go_wp2_with fail
 refine C.mono ?_;rintro e w1 ⟨v',rfl,o,k⟩;have hg1:=(Below.block k g hgl).trans hg;have f1:w1.frozen? ⟨g,0,none⟩=false:=frozen_of_row w1 g 0 _ _ hg1;have HS:=Lib.hid (heap_setCell_same w1 g 0 _ _ v' hg1);have HG:=Lib.hid (grown_set w1 g 0 v');have d0:w1.cell? ⟨g,0,none⟩=some (.slice a1 xs.length c1):=(k.cell hgl).trans c0
 have HO:Row (w1.setCell ⟨g,0,none⟩ v') w.heap.size v' (mixL orI xs ys):=o.kept HG.out (by
  cases hv:v'.ownBlock with
  |none=>exact .inl rfl
  |some q=>exact .inr (fun e=>by have:=o.ge q hv;have:=Option.some.inj e;omega))
 have HW:w.grownBy (w1.setCell ⟨g,0,none⟩ v') (some g):=grown_trans ⟨Below.os k,Below.tape k,Below.output k,Below.size k,fun i hi _=>Below.block k i hi⟩ HG.out;have HE:=Lib.hid HW;clear HW hg1 C;obtain⟨a3,c3,rfl,-⟩:=o.rd;go_wp2;go_ret;exact⟨_,rfl,HO,HS.out,HE.out⟩
theorem Keep.box {a w w':World}{g:Nat}(h:Keep a w)(hg:w.grownBy w' (some g))(hl:a.heap.size≤g):Keep a w':=h.grown hg (fun k hk=>by have:=Option.some.inj hk;omega)
theorem implPlaceWeb_any (w:World)(v vF vR:Value)(dss:List (List Dd))(f rows:List Int)(h:RdW w v dss)(hf:Rd w vF f)(hr:Rd w vR rows)(hcap:rows.length≤capZ vR)(hx:dss.length≤1048576)(hm:∀i,i<dss.length→(dss.getD i []).length≤1048576)(hfl:f.length≤1048576)(hrl:rows.length≤1048576):
  Calls Tryz.prog 70 #[v,.agg #[vF,vR]] w fun e w'=>∃v',e = .returned v'∧Row w' w.heap.size v' (pwB dss f rows)∧Keep w w':=by
 have CA:=fun (W:World) (kW:Keep w W)=>implAtOnePlace_any W v dss (h.keep kW) hx hm
 have CF:=fun (W:World) (kW:Keep w W)=>implFromWeb_any W v vF dss f (h.keep kW) (hf.keep kW) hx hm hfl
 have CR:=fun (W:World) (kW:Keep w W)=>implRowWeb_any W v vR dss rows (h.keep kW) (hr.keep kW) hcap hx hm hrl
 have CG:=fun (W:World) (kW:Keep w W)=>implAgainstWeb_any W v vF vR dss f rows (h.keep kW) (hf.keep kW) (hr.keep kW) hcap hx hm hfl hrl
 have HE:=Lib.hid (pw_chain dss f rows)
 have lA:(plcL (eventsB dss)).length≤1048576:=by
  have h9:=eventsB_len9 dss;have:=(plc_line (es:=eventsB dss) (by omega)).1.2.1;omega
 have lF:(fwB dss f).length≤1048576:=by have:=fwB_len dss f;omega
 have lR:(rwB dss rows).length≤1048576:=by have:=rwB_len dss rows;omega
 have lG:(agB dss f rows).length≤1048576:=by have:=agB_len dss f rows;omega
 have l1:=fun (a b:List Int)=>(show (mixL orI a b).length≤1048576 by have:=mixL_len orI a b;omega)
 unfold chnL at HE;generalize pwB dss f rows=L at *;generalize plcL (eventsB dss)=LA at *;generalize fwB dss f=LF at *;generalize rwB dss rows=LR at *;generalize agB dss f rows=LG at *;obtain⟨aF,cF,rfl,-⟩:=hf;obtain⟨aR,cR,rfl,-⟩:=hr;go_enter Tryz.func70,Tryz.ntmps70
 go_wp2_with fail
 refine (CA _ ((Keep.refl w).alloc _)).mono ?_;rintro e w1 ⟨v1,rfl,o1,k1⟩;have K1:=((Keep.refl w).alloc _).trans k1;have s1:=box_size k1;have hb1:=box_heap k1;obtain⟨a1,c1,rfl,-⟩:=o1.rd;clear k1 CA;go_wp2_with fail
 refine (joining_any _ _ _ _).mono ?_;rintro e w2 ⟨rfl,rfl⟩;have k2:Keep w1 (w1.alloc (.cells #[.slice a1 LA.length c1] 23)):=(Keep.refl w1).alloc _;have hg2:(w1.alloc (.cells #[.slice a1 LA.length c1] 23)).heap[w1.heap.size]? = some (.cells #[.slice a1 LA.length c1] 23 (0,0)):=heap_alloc_new w1 _;have K2:=K1.trans k2;have hb2:=(Below.block k2 w.heap.size s1).trans hb1;have r2:=o1.rd.keep k2;have s2:w1.heap.size<(w1.alloc (.cells #[.slice a1 LA.length c1] 23)).heap.size:=by rw[heap_size];omega
 generalize w1.alloc (.cells #[.slice a1 LA.length c1] 23)=w2 at *;clear k2 hb1;have c20:w2.cell? ⟨w.heap.size,0,none⟩=some (.slice aF f.length cF):=by rw[cell_of_row w2 _ 0 _ _ _ hb2];rfl
 go_wp2_with fail
 refine (CF _ K2).mono ?_;rintro e w3 ⟨v3,rfl,o3,k3⟩;clear CF c20;have hg3:=(Below.block k3 w1.heap.size s2).trans hg2;have hb3:=(Below.block k3 w.heap.size (by omega)).trans hb2;have K3:=K2.trans k3;have s3:=k3.size;go_wp2_with fail
 refine (joins_any _ _ _ _ _ _ hg3 (r2.keep k3) o3.rd lA lF).mono ?_;rintro e w4 ⟨v4,rfl,o4,hg4,g4⟩;have K4:Keep w w4:=K3.box g4 (by omega);have hb4:=(g4.block w.heap.size (by omega) (fun e=>by have:=Option.some.inj e;omega)).trans hb3;have s4:=g4.size;have c41:w4.cell? ⟨w.heap.size,1,none⟩=some (.slice aR rows.length cR):=by rw[cell_of_row w4 _ 1 _ _ _ hb4];rfl
 clear k3 hg3 hb3 K3 hg2 hb2 K2 r2 g4 o3;go_wp2_with fail
 refine (CR _ K4).mono ?_;rintro e w5 ⟨v5,rfl,o5,k5⟩;clear CR c41;have hg5:=(Below.block k5 w1.heap.size (by omega)).trans hg4;have hb5:=(Below.block k5 w.heap.size (by omega)).trans hb4;have K5:=K4.trans k5;have s5:=k5.size;go_wp2_with fail
 refine (joins_any _ _ _ _ _ _ hg5 (o4.rd.keep k5) o5.rd (l1 _ _) lR).mono ?_;rintro e w6 ⟨v6,rfl,o6,hg6,g6⟩;have K6:Keep w w6:=K5.box g6 (by omega);have hb6:=(g6.block w.heap.size (by omega) (fun e=>by have:=Option.some.inj e;omega)).trans hb5;have s6:=g6.size;have c60:w6.cell? ⟨w.heap.size,0,none⟩=some (.slice aF f.length cF):=by rw[cell_of_row w6 _ 0 _ _ _ hb6];rfl
 have c61:w6.cell? ⟨w.heap.size,1,none⟩=some (.slice aR rows.length cR):=by rw[cell_of_row w6 _ 1 _ _ _ hb6];rfl
 clear k5 hg5 hb5 K5 hg4 hb4 K4 g6 o5 o4;go_wp2_with fail
 refine (CG _ K6).mono ?_;rintro e w7 ⟨v7,rfl,o7,k7⟩;clear CG c60 c61;have hg7:=(Below.block k7 w1.heap.size (by omega)).trans hg6;have K7:=K6.trans k7;have s7:=k7.size;go_wp2_with fail
 refine (joins_any _ _ _ _ _ _ hg7 (o6.rd.keep k7) o7.rd (l1 _ _) lG).mono ?_;rintro e w8 ⟨v8,rfl,o8,-,g8⟩;have K8:Keep w w8:=K7.box g8 (by omega);clear k7 hg7 hg6 K6 g8 o7 o6;have HO:Row w8 w.heap.size v8 L:=by rw[←HE.out];exact o8.base_le (by omega)
 clear HE o8;go_wp2;go_ret;exact⟨_,rfl,HO,K8⟩
theorem implTaleOk_any (w:World)(v vF vR:Value)(dss:List (List Dd))(f rows:List Int)(h:RdW w v dss)(hf:Rd w vF f)(hr:Rd w vR rows)(hcap:rows.length≤capZ vR)(hx:dss.length≤1048576)(hm:∀i,i<dss.length→(dss.getD i []).length≤1048576)(hfl:f.length≤1048576)(hrl:rows.length≤1048576):
  Calls Tryz.prog 69 #[v,.agg #[vF,vR]] w fun e w'=>e = .returned (.bool (taleB dss f rows))∧Keep w w':=by
 have C:=fun (W:World) (kW:Keep w W)=>pageOf_any W v vF vR dss f rows (h.keep kW) (hf.keep kW) (hr.keep kW) hcap hx hm hfl hrl
 have CB:=fun (W:World)=>isBlank_any W (pageB dss f rows) (pageB_len dss f rows)
 have HB:Hid (blankB (pageB dss f rows)=!taleB dss f rows):=Lib.hid (page_blank dss f rows);obtain⟨aF,cF,rfl,-⟩:=hf;obtain⟨aR,cR,rfl,-⟩:=hr;rw[HB.out] at CB;generalize taleB dss f rows=T at CB ⊢;generalize pgV (pageB dss f rows)=P at C CB;clear HB;go_enter Tryz.func69,Tryz.ntmps69
 go_wp2_with fail
 refine (C _ ((Keep.refl w).alloc _)).mono ?_;rintro e w1 ⟨rfl,k1⟩;go_wp2_with fail
 refine (CB _).mono ?_;rintro e w2 ⟨rfl,k2⟩;go_wp2;go_ret;exact⟨by simp,(((Keep.refl w).alloc _).trans k1).trans k2⟩
theorem implEachOk_any (w:World)(v vF vR:Value)(dss:List (List Dd))(f rows:List Int)(h:RdW w v dss)(hf:Rd w vF f)(hr:Rd w vR rows)(hcap:rows.length≤capZ vR)(hx:dss.length≤1048576)(hm:∀i,i<dss.length→(dss.getD i []).length≤1048576)(hfl:f.length≤1048576)(hrl:rows.length≤1048576):
  Calls Tryz.prog 44 #[v,.agg #[vF,vR]] w fun e w'=>e = .returned (.bool (eachB dss f rows))∧Keep w w':=by
 have C:=fun (W:World) (kW:Keep w W)=>implTaleOk_any W v vF vR dss f rows (h.keep kW) (hf.keep kW) (hr.keep kW) hcap hx hm hfl hrl
 have CP:=fun (W:World) (kW:Keep w W)=>implPlaceWeb_any W v vF vR dss f rows (h.keep kW) (hf.keep kW) (hr.keep kW) hcap hx hm hfl hrl
 have lP:(pwB dss f rows).length≤1048576:=by have:=pwB_len dss f rows;omega
 obtain⟨aF,cF,rfl,-⟩:=hf;obtain⟨aR,cR,rfl,-⟩:=hr;cases hb:taleB dss f rows
 ·
  have HE:Hid (eachB dss f rows=false):=Lib.hid (by rw[eachB,hb];rfl);rw[hb] at C;clear CP lP hb;generalize eachB dss f rows=T at *;go_enter Tryz.func44,Tryz.ntmps44
  go_wp2_with fail
  refine (C _ ((Keep.refl w).alloc _)).mono ?_;rintro e w1 ⟨rfl,k1⟩;have K1:=((Keep.refl w).alloc _).trans k1;go_wp2;go_ret;exact⟨ret_bool (by rw[HE.out]),K1⟩
 ·
  have HE:Hid (eachB dss f rows=!roundB (pwB dss f rows)):=Lib.hid (by rw[eachB,pwB,hb];rfl);rw[hb] at C;clear hb;generalize eachB dss f rows=T at *;generalize pwB dss f rows=L at *;go_enter Tryz.func44,Tryz.ntmps44
  go_wp2_with fail
  refine (C _ ((Keep.refl w).alloc _)).mono ?_;rintro e w1 ⟨rfl,k1⟩;have K1:=((Keep.refl w).alloc _).trans k1;have b0:=box_cell k1 0;have b1:=box_cell k1 1;simp at b0 b1;clear k1 C;go_wp2_with fail
  refine (CP _ K1).mono ?_;rintro e w2 ⟨v2,rfl,o2,k2⟩;clear CP b0 b1;go_wp2_with fail
  refine (implRound_any _ _ _ o2.rd lP).mono ?_;rintro e w3 ⟨rfl,k3⟩;have K3:=(K1.trans k2).trans k3;generalize roundB L=R at *;go_wp2;go_ret;exact⟨ret_bool (by rw[HE.out]),K3⟩
theorem implClassesOf_any (w:World)(v:Value)(es:List Ev)(h:RdE w v es)(hx:es.length≤1048576):
  Calls Tryz.prog 47 #[v] w fun e w'=>∃v',e = .returned v'∧Own w' w.heap.size v' (clsB es)∧Keep w w':=by
 have hown0:Own (w.alloc (.cells #[] 2)) w.heap.size (.slice (some ⟨w.heap.size,0,none⟩) 0 0) []:=World.ownsRow_lit w #[] 0 (Nat.le_refl _) (by decide) rfl;obtain⟨a,cap,rfl,h⟩:=h;by_cases hl:12<es.length
 ·
  have HE:Hid (clsB es=[]):=Lib.hid (by unfold clsB;rw[if_neg (by omega)]);have l1:(12:Int)<(es.length:Int):=by omega
  go_enter Tryz.func47,Tryz.ntmps47
  go_wp2;go_ret;exact⟨_,rfl,by rw[HE.out];exact hown0,(Keep.refl _).alloc _⟩
 have l1:es.length≤12:=by omega
 clear hl;have HE:Hid (clsB es=clsK es es.length):=Lib.hid (by unfold clsB;rw[if_pos l1];exact (clsK_all es).symm);obtain⟨i0,hi,hz0,hz1,hz2⟩:=info_parts Tryz.infoI;go_enter Tryz.func47,Tryz.ntmps47
 go_wp2;go_loopw [3,13] (fun v i wr=>∃k:Nat,k≤es.length∧i = .int .i64 k∧Own wr w.heap.size v (clsK es k)∧Keep w wr) (fun _ i _=>es.length-(intOf i).toNat)
 case atStart=>exact⟨0,Nat.zero_le _,rfl,hown0,(Keep.refl _).alloc _⟩
 case round=>
  obtain⟨k,hk,rfl,ho,hK⟩:=hrel;clear hown0;by_cases hlt:k<es.length
  ·
   rcases h with h|⟨b,off,rfl,hb,hc⟩
   · exfalso;rw[h] at hlt;simp at hlt
   have AT:=(hc k _ (evs_get hlt)).keep hb hK;have hbw:b<wr.heap.size:=Nat.lt_of_lt_of_le hb hK.size;clear hc;have hml:(clsK es k).length≤k:=by rw[clsK_len];omega
   have hsz:=hK.size;have i1:(0:Int)≤(k:Int):=Int.natCast_nonneg _;have i2:(k:Int)<(es.length:Int):=by omega
   have l2:(es.length:Int)≤12:=by omega
   have HP:Hid (clsK es (k+1)=clsK es k++[csE (es.getD k zE)]):=Lib.hid rfl;obtain⟨e,he⟩:∃e,e=es.getD k zE:=⟨_,rfl⟩;rw[←he] at AT HP;clear he;obtain⟨x0,x1,x2,x3,x4,x5⟩:=e;obtain⟨A0,A1,A2,A3,A4,A5⟩:=atE AT;clear AT;have HM:Hid (clsK es (k+1)=clsK es k++[x5]):=Lib.hid (by rw[HP.out];rfl);clear HP;go_wp2_with (at_builtin;refine wpList_append_own _ rfl _ _ 23 rfl w.heap.size 2 i0 (.int .i64 0) 1 8 Tryz.underlying23 hi hz0 hz1 hz2 rfl (by decide) _ _ _ rfl (World.ownsRow.alloc (World.ownsRow.alloc ho _) _) ⟨_,0,none⟩ 1 1 [.int .i64 x5] rfl rfl ?c1 ?c2 ?c3 ?c4 ?c5 ?_)
   case c1=>
    intro j u hj
    match j,hj with
    | 0,hj=>simp at hj;subst hj;simp[Addr.add]
   case c2=>intro u hu;simp at hu;subst hu;rfl
   case c3=>unfold maxLen;omega
   case c4=>omega
   case c5=>simp;omega
   intro v' w1 hown' hgrow _;have hK1:Keep w w1:=((hK.alloc _).alloc _).grown hgrow ho.ge;clear hgrow;go_wp2;go_roundw;case rel=>exact⟨k+1,by omega,by go_num,by rw[HM.out];exact own_hit hown',hK1⟩
   case measure=>simp[intOf];omega
  ·
   obtain rfl:k=es.length:=by omega
   go_wp2;go_ret;exact⟨_,rfl,by rw[HE.out];exact ho,hK⟩
end Go.Proofs.YtgikcfdckddgpabGreat
