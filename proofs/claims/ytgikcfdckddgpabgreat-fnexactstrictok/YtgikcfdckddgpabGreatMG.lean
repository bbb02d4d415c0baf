/- Gathered texts. -/
import Derived.Test.YtgikcfdckddgpabGreatMF
import Derived.Deep.QuietTactic
import Derived.BigQuiet
import Derived.BigRegion
import Derived.Lib.Hide
import Derived.Deep.Cut
import Derived.Test.YtgikcfdckddgpabGreatRows
import Derived.OpenShut
import Derived.Outline
import Derived.RegionTactic
import Derived.Deep.RegionHeld3
import Derived.Deep.AppendLies
import Derived.OwnWalk
import Derived.StillTactics
import Derived.Laws.Pointers
import Derived.Laws.AppendOwnNone
set_option maxRecDepth 100000
set_option maxHeartbeats 8000000
namespace Go.Proofs.YtgikcfdckddgpabGreat
open Go.ChangeShapes Go.WideShapes Go.ChangeAt Go.RowKit
open Go.RowKit
def atRk (es:List Ev):Nat→Nat
 | 0=>0
 |k+1=>atRk es k+(plcW es k).length
def okK (es:List Ev)(rows:List Int):Nat→Bool
 | 0=>true
 |k+1=>okK es rows k&&okP rows (atRk es k) (plcW es k) k
theorem rowsL_okK (es:List Ev)(rows:List Int):rowsL es rows=(okK es rows 3&&decide (atRk es 3=rows.length)):=by
 unfold rowsL;show _=((((true&&okP rows 0 (plcW es 0) 0)&&okP rows (0+(plcW es 0).length) (plcW es 1) 1)&&okP rows (0+(plcW es 0).length+(plcW es 1).length) (plcW es 2) 2)&&decide (0+(plcW es 0).length+(plcW es 1).length+(plcW es 2).length=rows.length));rw[Bool.true_and,Nat.zero_add]
theorem okK_false {es:List Ev}{rows:List Int}{k:Nat}(h:okK es rows k=false):∀n:Nat,k≤n→okK es rows n=false
 | 0,hn=>by
  obtain rfl:k=0:=by omega
  exact h
 |n+1,hn=>by
  by_cases e:k=n+1
  · rw[←e];exact h
  · rw[okK,okK_false h n (by omega)];rfl
theorem okK_not {es:List Ev}{rows:List Int}{k:Nat}(hk:k<3)(h:okP rows (atRk es k) (plcW es k) k=false):rowsL es rows=false:=by
 rw[rowsL_okK,okK_false (k:=k+1) (by rw[okK,h,Bool.and_false]) 3 (by omega)];rfl
theorem rd_part {w:World}{b off:Nat}{zs:List Int}(hb:b<w.heap.size)(hc:∀i,i<zs.length→w.cell? ⟨b,off+i,none⟩=some (.int .i64 (zs.getD i 0)))(at0 n c:Nat)(h:at0+n≤zs.length):
  Rd w (.slice (some ⟨b,off+at0,none⟩) n c) ((zs.drop at0).take n):=by
 have hl:((zs.drop at0).take n).length=n:=by rw[List.length_take,List.length_drop];omega
 refine⟨_,c,by rw[hl],.inr ⟨b,off+at0,rfl,hb,fun i hi=>?_⟩⟩;rw[hl] at hi;rw[show off+at0+i=off+(at0+i) by omega,hc (at0+i) (by omega),List.getD_eq_getElem?_getD,List.getD_eq_getElem?_getD,List.getElem?_take,if_pos hi,List.getElem?_drop]
theorem l9Ok_any (w:World)(v vf:Value)(es:List Ev)(rows:List Int)(h:RdE w v es)(hf:Rd w vf rows)(hcap:rows.length≤capZ vf)(hx:es.length≤12)(hrl:rows.length≤1048576)(hp:∀p,p<3→0<(plcW es p).length):
  Calls Tryz.prog 63 #[v,vf] w fun e w'=>e = .returned (.bool (rowsL es rows))∧Keep w w':=by
 have HL3:=Lib.hid (rowsL_okK es rows);go_enter Tryz.func63,Tryz.ntmps63
 go_wp2_with fail
 refine (l9Places_any _ _ _ h hx).mono ?_;rintro e w1 ⟨v1,rfl,r1,k1⟩;replace hf:=hf.keep k1;obtain⟨a,c,rfl,r1⟩:=r1;rcases r1 with h0|⟨b,o,rfl,hb,hc⟩
 · exfalso;have:=plcK_len es 3;rw[h0] at this;simp at this
 obtain⟨af,cf,rfl,hf⟩:=hf;simp only[capZ] at hcap;rw[plcK_len] at hc ⊢;have HC:=Lib.hid hc;have HFF:=Lib.hid hf;have HP:=Lib.hid hp;clear hc hf hp;go_wp2;go_loopw [6,7] (fun x i wr=>∃k:Nat,k≤3∧x = .int .i64 (atRk es k)∧i = .int .i64 k∧atRk es k≤rows.length∧Hid (okK es rows k=true)∧Keep w1 wr) (fun _ i _=>3-(intOf i).toNat)
 case atStart=>exact⟨0,Nat.zero_le _,rfl,rfl,Nat.zero_le _,Lib.hid rfl,Keep.refl _⟩
 case round=>
  obtain⟨k,hk,rfl,rfl,hat,HO,hK⟩:=hrel;by_cases hlt:k<3
  ·
   obtain⟨vi,e1,r2⟩:=HC.out k hlt;rw[plcK_get es k hlt] at r2;have d1:=(hK.cell hb).trans e1;have r3:=r2.keep hK;have hpk:=HP.out k hlt;have HN:=@okK_not es rows k hlt;have HA:Hid (atRk es (k+1)=atRk es k+(plcW es k).length):=Lib.hid rfl;have HO2:okP rows (atRk es k) (plcW es k) k=true→Hid (okK es rows (k+1)=true):=fun h=>Lib.hid (by rw[okK,HO.out,h];rfl)
   have hl12:=plcW_len hx k;clear e1 r2 HO HC;generalize atRk es k=t at *;obtain⟨p,hpe⟩:∃p,p=plcW es k:=⟨_,rfl⟩;rw[←hpe] at r3 hpk HN HA HO2 hl12;clear hpe;obtain⟨ap,cp,rfl,r3⟩:=r3;rcases r3 with h0|⟨bp,op,rfl,hbp,hcp⟩
   · exfalso;rw[h0] at hpk;simp at hpk
   have i1:(0:Int)≤(k:Int):=Int.natCast_nonneg _;have i2:(k:Int)<3:=by omega
   have n0:(0:Int)<(p.length:Int):=by omega
   have n1:(p.length:Int)≤12:=by omega
   have t1:(t:Int)≤1048576:=by omega
   by_cases hov:rows.length<t+p.length
   ·
    have HE:Hid (rowsL es rows=false):=Lib.hid (HN (by unfold okP;rw[decide_eq_false (by omega)];rfl));have j1:(rows.length:Int)<(t:Int)+(p.length:Int):=by omega
    go_wp2;go_ret;exact⟨by rw[HE.out];rfl,k1.trans hK⟩
   ·
    have j1:(t:Int)+(p.length:Int)≤(rows.length:Int):=by omega
    have j2:(t:Int)<(rows.length:Int):=by omega
    have j3:(0:Int)≤(t:Int):=Int.natCast_nonneg _;rcases HFF.out with h0|⟨bf,of',rfl,hbf,hcf⟩
    · exfalso;rw[h0] at j2;simp only[List.length_nil] at j2;omega
    have d2:=(hK.cell hbf).trans (hcf t (by omega));have hcf2:∀i,i<rows.length→wr.cell? ⟨bf,of'+i,none⟩=some (.int .i64 (rows.getD i 0)):=fun i hi=>(hK.cell hbf).trans (hcf i hi)
    have hbfw:bf<wr.heap.size:=Nat.lt_of_lt_of_le hbf hK.size;by_cases hrk:rows.getD t 0=(k:Int)
    ·
     rw[hrk] at d2
     have HOK:Hid (okP rows t p k=p.all (fun x=>isB ((rows.drop t).take p.length) x)):=Lib.hid (by
      unfold okP;rw[decide_eq_true (by omega),hrk]
      simp)
     have hne:¬(cf=t):=by omega
     obtain⟨u,hu⟩:∃u:Nat,u=t+p.length:=⟨_,rfl⟩;have ju:(t:Int)+(p.length:Int)=(u:Int):=by omega
     have j4:(u:Int)≤(cf:Int):=by omega
     have j5:(t:Int)≤(u:Int):=by omega
     have j6:(u:Int)≤(rows.length:Int):=by omega
     have j8:IntKind.i64.wrap (u:Int)=(u:Int):=by rw[IntKind.wrap_i64];omega
     have R:∀(W:World) (kW:Keep wr W),Rd W (.slice (some ⟨bf,of'+t,none⟩) (u-t) (cf-t)) ((rows.drop t).take p.length):=fun W kW=>by
      rw[show u-t=p.length by omega];exact rd_part (w:=W) (Nat.lt_of_lt_of_le hbfw kW.size) (fun i hi=>(kW.cell hbfw).trans (hcf2 i hi)) t p.length (cf-t) (by omega)
     have HU:=Lib.hid hu;clear hu j1;have hbl:((rows.drop t).take p.length).length≤1048576:=by rw[List.length_take];omega
     obtain⟨B,hB⟩:∃B,B=(rows.drop t).take p.length:=⟨_,rfl⟩;rw[←hB] at HOK R hbl;clear hB hrk hcf hcf2;have HCP:=Lib.hid hcp;clear hcp;obtain⟨wo,rfl⟩:∃wo:World,wo=wr:=⟨_,rfl⟩;go_wp2;go_loopw [9] (fun i wr=>∃q:Nat,q≤p.length∧i = .int .i64 q∧Hid (∀j,j<q→isB B (p.getD j 0)=true)∧Keep wo wr) (fun i _=>p.length-(intOf i).toNat)
     case atStart=>exact⟨0,Nat.zero_le _,rfl,Lib.hid (fun j hj=>by omega),Keep.refl _⟩
     case round=>
      obtain⟨q,hq,rfl,HQ,hKr⟩:=hrel;by_cases hql:q<p.length
      ·
       have d3:=(hKr.cell hbp).trans (HCP.out q hql);have d4:=(hKr.cell (Nat.lt_of_lt_of_le hb hK.size)).trans d1;have RQ:=R wr hKr
       have HX:isB B (p.getD q 0)=true→Hid (∀j,j<q+1→isB B (p.getD j 0)=true):=fun hh=>Lib.hid (fun j hj=>by
        by_cases e:j=q
        · subst e;exact hh
        · exact HQ.out j (by omega))
       have HY:isB B (p.getD q 0)=false→Hid (rowsL es rows=false):=fun hh=>Lib.hid (HN (by rw[HOK.out];exact all_not 0 q hql hh))
       clear HQ;generalize p.getD q 0=y at d3 HX HY;have q1:(0:Int)≤(q:Int):=Int.natCast_nonneg _;have q2:(q:Int)<(p.length:Int):=by omega
       have z1:b<wr.heap.size:=Nat.lt_of_lt_of_le (Nat.lt_of_lt_of_le hb hK.size) hKr.size;have z2:bp<wr.heap.size:=Nat.lt_of_lt_of_le hbp hKr.size;cases hi:isB B y
       ·
        have HE:=HY hi;clear HX HY;go_wp2;go_quiet ((go_at_call 62;exact Calls.quiet_of_same (l8Is_any _ _ B (RQ.keep ((Keep.refl wr).drewN _)) hbl _)))
        go_wp2;go_ret;exact⟨by rw[HE.out];rfl,((k1.trans hK).trans hKr).drewN _⟩
       ·
        have HE:=HX hi;clear HX HY;go_wp2;go_quiet ((go_at_call 62;exact Calls.quiet_of_same (l8Is_any _ _ B (RQ.keep ((Keep.refl wr).drewN _)) hbl _)))
        go_wp2;go_roundw;case rel=>exact⟨q+1,by omega,by go_num,HE,hKr.drewN _⟩
        case measure=>simp[intOf];omega
      ·
       obtain rfl:q=p.length:=by omega
       have HE:=HO2 (by rw[HOK.out];exact all_of 0 (fun i hi=>HQ.out i hi));clear HQ HO2 HN;go_wp2;go_roundw;case rel=>exact⟨k+1,by omega,by rw[HA.out,←HU.out],by go_num,by rw[HA.out];omega,HE,hK.trans hKr⟩
       case measure=>simp[intOf];omega
    ·
     have HE:Hid (rowsL es rows=false):=Lib.hid (HN (by
      unfold okP;have:(rows.getD t 0==(k:Int))=false:=by simpa using hrk
      rw[this]
      simp))
     generalize rows.getD t 0=y at d2 hrk;have yb:(y != (k:Int))=true:=by simpa using hrk
     clear HN HO2 hcf hcf2 hrk;go_wp2;go_ret;exact⟨by rw[HE.out];rfl,k1.trans hK⟩
  ·
   obtain rfl:k=3:=by omega
   have HE:Hid (rowsL es rows=decide (atRk es 3=rows.length)):=Lib.hid (by rw[HL3.out,HO.out];rfl);clear HO HL3;generalize atRk es 3=t at HE hat;by_cases ht:t=rows.length
   ·
    have tb:((t:Int)==(rows.length:Int))=true:=by simp[ht]
    have HE2:Hid (rowsL es rows=true):=Lib.hid (by rw[HE.out];exact decide_eq_true ht);clear HE ht;go_wp2;go_ret;exact⟨by rw[HE2.out];rfl,k1.trans hK⟩
   ·
    have tb:((t:Int)==(rows.length:Int))=false:=by simpa using fun e=>ht (by omega)
    have HE2:Hid (rowsL es rows=false):=Lib.hid (by rw[HE.out];exact decide_eq_false ht);clear HE ht;go_wp2;go_ret;exact⟨by rw[HE2.out];rfl,k1.trans hK⟩
theorem specRowsOk_any (w:World)(v vf:Value)(dss:List (List Dd))(f:List Int)(h:RdW w v dss)(hf:Rd w vf f)(hcap:f.length≤capZ vf)(hx:dss.length≤1048576)(hm:∀i,i<dss.length→(dss.getD i []).length≤1048576)(hfl:f.length≤1048576):
  Calls Tryz.prog 37 #[v,vf] w fun e w'=>e = .returned (.bool (rowsB dss f))∧Keep w w':=by
 cases hb:workB dss
 ·
  have HE:Hid (rowsB dss f=false):=Lib.hid (by rw[rowsB,hb];rfl);go_enter Tryz.func37,Tryz.ntmps37
  go_wp2_with fail
  refine (specWorkOk_any _ _ _ h hx hm).mono ?_;rw[hb];rintro e w1 ⟨rfl,k1⟩;go_wp2;go_ret;exact⟨by rw[HE.out];rfl,k1⟩
 ·
  have HE:Hid (rowsB dss f=rowsL (evsW dss dss.length) f):=Lib.hid (by rw[rowsB,hb,eventsB,if_pos hb];rfl);obtain⟨u1,u2⟩:=workB_useR hb;have h9:=evsW_9 hb;have hp:=plcW_pos hb;have C:=specWorkOk_any w v dss h hx hm;rw[hb] at C;go_enter Tryz.func37,Tryz.ntmps37
  go_wp2_with fail
  refine C.mono ?_;rintro e w1 ⟨rfl,k1⟩;go_wp2_with fail
  refine (l6Events_any _ _ _ (h.keep k1) u1 u2).mono ?_;rintro e w2 ⟨v2,rfl,a2,k2⟩;go_wp2_with fail
  refine (l9Ok_any _ _ _ _ _ a2.rd (hf.keep (k1.trans k2)) hcap (by omega) hfl hp).mono ?_;rintro e w3 ⟨rfl,k3⟩;generalize rowsL (evsW dss dss.length) f=R at HE;go_wp2;go_ret;exact⟨by rw[HE.out];rfl,(k1.trans k2).trans k3⟩
theorem specTaleOk_any (w:World)(v vF vR:Value)(dss:List (List Dd))(f rows:List Int)(h:RdW w v dss)(hf:Rd w vF f)(hr:Rd w vR rows)(hcap:rows.length≤capZ vR)(hx:dss.length≤1048576)(hm:∀i,i<dss.length→(dss.getD i []).length≤1048576)(hfl:f.length≤1048576)(hrl:rows.length≤1048576):
  Calls Tryz.prog 25 #[v,.agg #[vF,vR]] w fun e w'=>e = .returned (.bool (taleB dss f rows))∧Keep w w':=by
 have CS:=fun (W:World) (kW:Keep w W)=>specSourceOk_any W v vF dss f (h.keep kW) (hf.keep kW) hx hm hfl
 have CR:=fun (W:World) (kW:Keep w W)=>specRowsOk_any W v vR dss rows (h.keep kW) (hr.keep kW) hcap hx hm hrl
 obtain⟨aF,cF,rfl,-⟩:=hf;obtain⟨aR,cR,rfl,-⟩:=hr;have HE:Hid (taleB dss f rows=(sourceB dss f&&rowsB dss rows)):=Lib.hid rfl;generalize sourceB dss f=S at CS HE;generalize rowsB dss rows=R at CR HE;go_enter Tryz.func25,Tryz.ntmps25
 go_wp2_with fail
 refine (CS _ ((Keep.refl w).alloc _)).mono ?_;rintro e w1 ⟨rfl,k1⟩;have c0:=box_cell k1 0;have c1:=box_cell k1 1;simp at c0 c1;have K1:=((Keep.refl w).alloc _).trans k1;cases S
 ·
  go_wp2;go_ret;exact⟨by rw[HE.out];rfl,K1⟩
 ·
  go_wp2_with fail
  refine (CR _ K1).mono ?_;rintro e w2 ⟨rfl,k2⟩;go_wp2;go_ret;exact⟨by rw[HE.out];rfl,K1.trans k2⟩
theorem tale_facts {dss:List (List Dd)}{f rows:List Int}(h:taleB dss f rows=true):(dss.length≤3∧∀i,i<dss.length→okL (dss.getD i [])=true)∧eventsB dss=evsW dss dss.length ∧
  (evsW dss dss.length).length≤12∧rows.length≤36∧(∀j,j<rows.length→0≤rows.getD j 0∧rows.getD j 0<((evsW dss dss.length).length:Int))∧(∀j,j<rows.length→0≤plE (evsW dss dss.length) (rows.getD j 0)∧plE (evsW dss dss.length) (rows.getD j 0)≤2) ∧
  (idxB rdE (evsW dss dss.length)).length=f.length∧f.length≤12∧(∀i,i<f.length→0≤f.getD i 0∧f.getD i 0<((evsW dss dss.length).length:Int)):=by
 obtain⟨hb,hs,hr⟩:=tale_use h;have e1:eventsB dss=evsW dss dss.length:=by rw[eventsB,if_pos hb]
 have h12:=(events_law hb).1;rw[e1] at hs hr;obtain⟨s1,s2⟩:=src_use h12 hs;obtain⟨_,r2,r3⟩:=rows_use h12 hr
 have rl:(idxB rdE (evsW dss dss.length)).length≤12:=by
  unfold idxB;rw[if_pos h12];have:=idxK_len rdE (evsW dss dss.length) (evsW dss dss.length).length;omega
 exact⟨workB_useR hb,e1,h12,r2,r3,fun j hj=>plW_in h12 hr hj,s1,by omega,fun i hi=>(s2 i (by omega)).1⟩
theorem made_rw (n:Nat):(madeCells (Value.int .i64 0).cells (n*1)).toList=((List.replicate n (0:Int)).map (Value.int .i64)):=by
 rw[Nat.mul_one,List.map_replicate];exact toList_madeCells_one _ _
theorem l9Web_any (w:World)(v vf:Value)(es:List Ev)(rows:List Int)(h:RdE w v es)(hf:Rd w vf rows)(hn:es.length≤12)(hl:rows.length≤36)(hr:∀j,j<rows.length→0≤rows.getD j 0∧rows.getD j 0<(es.length:Int)):
  Calls Tryz.prog 53 #[v,vf] w fun e w'=>∃v',e = .returned v'∧Row w' w.heap.size v' (rwL es rows)∧Keep w w':=by
 obtain⟨a,c,rfl,h⟩:=h;obtain⟨af,cf,rfl,hf⟩:=hf;obtain⟨i0,hi,hz0,hz1,hz2⟩:=info_parts Tryz.infoI;go_enter Tryz.func53,Tryz.ntmps53
 go_wp2_with (at_make;refine wpList_make_full _ rfl _ _ 23 rfl w.heap.size 2 i0 (.int .i64 0) 1 Tryz.underlying23 hi hz0 hz1 .i64 .i64 _ _ es.length rfl rfl rfl rfl (by rw[hz2];omega) (by unfold maxLen;omega) (Nat.le_refl _) ?_;intro w1 hown hgrow)
 rw[made_rw] at hown;have k1:Keep w w1:=(Keep.refl w).grown hgrow (by simp)
 have rb:RowAt w1 w.heap.size (rwAll es rows 0):=by
  have o:Own w1 w.heap.size (.slice (some ⟨w.heap.size,0,none⟩) es.length es.length) (List.replicate es.length 0):=by
   unfold Own;simpa using hown
  rcases o.row with ⟨e,_⟩|⟨g,cap,e,_,hr⟩
  · cases e
  ·
   have e1:=congrArg Value.ownBlock e;simp[Value.ownBlock] at e1;rw[e1];exact hr
 clear hgrow hown hi hz0 hz1 hz2;have HR:=Lib.hid hr;clear hr;go_loopw [6] (fun i wr=>∃k:Nat,k≤rows.length∧i = .int .i64 k∧RowAt wr w.heap.size (rwAll es rows k)∧Keep w wr) (fun i _=>rows.length-(intOf i).toNat)
 case atStart=>exact⟨0,Nat.zero_le _,rfl,rb,k1⟩
 case round=>
  obtain⟨k,hk,rfl,hw,hK⟩:=hrel;clear rb k1;by_cases hlt:k<rows.length
  ·
   rcases hf with h0|⟨bf,of',rfl,hbf,hcf⟩
   · exfalso;rw[h0] at hlt;simp at hlt
   obtain⟨r0,r1⟩:=HR.out k hlt;rcases h with h0|⟨b,off,rfl,hb,hc⟩
   · exfalso;rw[h0] at r1;simp only[List.length_nil] at r1;omega
   obtain⟨x,hx⟩:=Int.eq_ofNat_of_zero_le r0;have hxl:x<es.length:=by omega
   have HW:=Lib.hid (web_rwAll hn HR.out k (by omega)).1;have HE:Hid (rwIn es rows k (rwAll es rows k) rows.length=rwAll es rows (k+1)):=Lib.hid rfl;generalize rwAll es rows k=T at *;obtain⟨wo,rfl⟩:∃wo:World,wo=wr:=⟨_,rfl⟩;have i1:(0:Int)≤(k:Int):=Int.natCast_nonneg _;have i2:(k:Int)<(rows.length:Int):=by omega
   have i0:(rows.length:Int)≤36:=by omega
   have HST:Hid (rwIn es rows k T (k+1)=T):=Lib.hid (rwIn_none T _ (fun j hj=>rwP_up (by omega)));have HC:=Lib.hid hc;have HCF:=Lib.hid hcf;have HX:=Lib.hid hx;clear hc hcf hx r0 r1;go_wp2;go_loopw [7] (fun i wr=>∃m:Nat,k+1≤m∧m≤rows.length∧i = .int .i64 m∧RowAt wr w.heap.size (rwIn es rows k T m)∧Keep w wr) (fun i _=>rows.length-(intOf i).toNat)
   case atStart=>exact⟨k+1,Nat.le_refl _,by omega,by go_num,by rw[HST.out];exact hw,hK⟩
   case round=>
    clear hw hK HST;obtain⟨m,hkm,hm,rfl,hw,hK⟩:=hrel;by_cases hml:m<rows.length
    ·
     obtain⟨y,hy⟩:=Int.eq_ofNat_of_zero_le (HR.out m hml).1;have hyl:y<es.length:=by have:=(HR.out m hml).2;omega
     have d1:=(hK.cell hbf).trans (HCF.out k hlt);have d2:=(hK.cell hbf).trans (HCF.out m hml);have hxx:=HX.out;rw[hxx] at d1;rw[hy] at d2;have AX:=(HC.out x _ (evs_get hxl)).keep hb hK;have AY:=(HC.out y _ (evs_get hyl)).keep hb hK;have hB:=(web_rwIn (es:=es) HR.out hlt HW.out m hm).1;have hrg:=okB_range (hB.2.2 x hxl);have hBl:x<(rwIn es rows k T m).length:=by rw[hB.2.1];exact hxl
     have HP:Hid (rwP es rows k m=((es.getD x zE).2.2.2.1==(es.getD y zE).2.2.2.1)):=Lib.hid (by
      unfold rwP plE
      rw[decide_eq_true (show k<m by omega),Bool.true_and,hxx,hy,Int.toNat_natCast,Int.toNat_natCast])
     have HH:rwP es rows k m=true→Hid (rwIn es rows k T (m+1)=(rwIn es rows k T m).set x (bits .or .i64 ((rwIn es rows k T m).getD x 0) (wrap64 (2 ^ (y:Int).toNat)))):=fun hp=>Lib.hid (by
      rw[rwIn_hit T hp,hxx,hy,Int.toNat_natCast,gAdd_ok _ _ hrg.1 (by unfold inB;simp;omega)])
     have HM:rwP es rows k m=false→Hid (rwIn es rows k T (m+1)=rwIn es rows k T m):=fun hp=>Lib.hid (rwIn_miss T hp)
     clear hB hxx hy;obtain⟨e,he⟩:∃e,e=es.getD x zE:=⟨_,rfl⟩;rw[←he] at AX HP;clear he;obtain⟨d,hd⟩:∃d,d=es.getD y zE:=⟨_,rfl⟩;rw[←hd] at AY HP;clear hd;obtain⟨x0,x1,x2,x3,x4,x5⟩:=e;obtain⟨y0,y1,y2,y3,y4,y5⟩:=d;obtain⟨-,-,-,A3,-,-⟩:=atE AX;obtain⟨-,-,-,B3,-,-⟩:=atE AY;clear AX AY;simp only at HP;have j1:(0:Int)≤(m:Int):=Int.natCast_nonneg _;have j2:(m:Int)<(rows.length:Int):=by omega
     have j3:(0:Int)≤(x:Int):=Int.natCast_nonneg _;have j4:(x:Int)<(es.length:Int):=by omega
     have j5:(0:Int)≤(y:Int):=Int.natCast_nonneg _;have j6:(y:Int)<(es.length:Int):=by omega
     have j7:(es.length:Int)≤12:=by omega
     have c1:=hw.cell (j:=x) hBl;have c2:=hw.free x;have hGl:=hw.lt;have hbw:b<wr.heap.size:=Nat.lt_of_lt_of_le hb hK.size;have hbfw:bf<wr.heap.size:=Nat.lt_of_lt_of_le hbf hK.size;obtain⟨S,hS⟩:∃S,S=rwIn es rows k T m:=⟨_,rfl⟩;rw[←hS] at c1 hw HH HM hrg;clear hS hBl;obtain⟨z,hz⟩:∃z,z=S.getD x 0:=⟨_,rfl⟩;rw[←hz] at c1 HH hrg;clear hz;by_cases xy:x3=y3
     ·
      subst xy;have HE1:=HH (by rw[HP.out];simp);clear HH HM HP;go_wp2;go_quiet (fail)
      go_wp2;go_region
      all_goals
       go_wp2;refine⟨⟨m+1,by omega,by omega,by go_num,?_,?_⟩,by simp[intOf];omega⟩
       ·
        rw[HE1.out];exact (hw.drewN _).set x _
       · exact (hK.grown (grown_draw wr _ none) (by simp)).grown (grown_set _ w.heap.size x _) (by simp)
     ·
      have xb:(x3==y3)=false:=by simp[xy]
      have HE1:=HM (by rw[HP.out];exact xb);clear HH HM HP xy c1 c2;go_wp2;go_quiet (fail)
      go_wp2;go_roundw;case rel=>exact⟨m+1,by omega,by omega,by go_num,by rw[HE1.out];exact hw.drewN _,hK.grown (grown_draw wr _ none) (by simp)⟩
      case measure=>simp[intOf];omega
    ·
     obtain rfl:m=rows.length:=by omega
     go_wp2;go_roundw;case rel=>exact⟨k+1,by omega,by go_num,by rw[←HE.out];exact hw,hK⟩
     case measure=>simp[intOf];omega
  ·
   obtain rfl:k=rows.length:=by omega
   have HL:=(web_rwAll hn HR.out rows.length (Nat.le_refl _)).1.2.1;go_wp2;go_ret;exact⟨_,rfl,row_new hw (Nat.le_refl _) HL,hK⟩
theorem l10Against_any (w:World)(v vF vR:Value)(es:List Ev)(f rows:List Int)(h:RdE w v es)(hf:Rd w vF f)(hr:Rd w vR rows)(hn:es.length≤12)(hlr:rows.length≤36)(hrw:∀j,j<rows.length→0≤rows.getD j 0∧rows.getD j 0<(es.length:Int))(hl:(idxB rdE es).length≤f.length)(hb:∀i,i<(idxB rdE es).length→0≤f.getD i 0∧f.getD i 0<(es.length:Int)):
  Calls Tryz.prog 54 #[v,.agg #[vF,vR]] w fun e w'=>∃v',e = .returned v'∧Row w' w.heap.size v' (agL es f rows)∧Keep w w':=by
 have hE:=h;obtain⟨a,c,rfl,-⟩:=id h;obtain⟨aF,cF,rfl,-⟩:=id hf;obtain⟨aR,cR,rfl,-⟩:=id hr;obtain⟨i0,hi,hz0,hz1,hz2⟩:=info_parts Tryz.infoI
 have rl:(idxB rdE es).length≤12:=by
  unfold idxB;rw[if_pos hn];have:=idxK_len rdE es es.length;omega
 have rin:∀i,i<(idxB rdE es).length→0≤(idxB rdE es).getD i 0∧(idxB rdE es).getD i 0<(es.length:Int):=by
  intro i hi
  have hm:(idxB rdE es).getD i 0∈idxB rdE es:=by
   rw[List.getD_eq_getElem?_getD,List.getElem?_eq_getElem hi];exact List.getElem_mem hi
  refine idxK_lt rdE es _ _ ?_;unfold idxB at hm ⊢;rw[if_pos hn] at hm ⊢;exact hm
 have HL:Hid (agL es f rows=agK es.length (idxB rdE es) f (rwL es rows) (idxB rdE es).length):=Lib.hid rfl;have HWL:Hid ((rwL es rows).length=es.length):=Lib.hid (web_rwAll hn hrw rows.length (Nat.le_refl _)).1.2.1;go_enter Tryz.func54,Tryz.ntmps54
 go_upto_region 1 with fail
 obtain⟨wB,hwB⟩:∃W:World,W=w.alloc (.cells #[.slice aF f.length cF,.slice aR rows.length cR] 31):=⟨_,rfl⟩;have kB:Keep w wB:=by rw[hwB];exact (Keep.refl w).alloc _
 have sB:wB.heap.size=w.heap.size+1:=by rw[hwB];exact heap_size _ _
 have b0:wB.cell? ⟨w.heap.size,0,none⟩=some (.slice aF f.length cF):=by rw[hwB];exact box_cell (Keep.refl _) 0
 have b1:wB.cell? ⟨w.heap.size,1,none⟩=some (.slice aR rows.length cR):=by rw[hwB];exact box_cell (Keep.refl _) 1
 rw[←hwB];clear hwB;have SB:=Lib.hid sB;have lB:w.heap.size<wB.heap.size:=by omega
 clear sB;go_wp2_with (at_make;refine wpList_make_full _ rfl _ _ 23 rfl wB.heap.size 2 i0 (.int .i64 0) 1 Tryz.underlying23 hi hz0 hz1 .i64 .i64 _ _ es.length rfl rfl rfl rfl (by rw[hz2];omega) (by unfold maxLen;omega) (Nat.le_refl _) ?_;intro w1 hown hgrow;have k1:Keep wB w1:=(Keep.refl wB).grown hgrow (by simp);have d1:=(k1.cell lB).trans b1)
 rw[made_rw] at hown
 have rb:RowAt w1 wB.heap.size (agK es.length (idxB rdE es) f (rwL es rows) 0):=by
  have o:Own w1 wB.heap.size (.slice (some ⟨wB.heap.size,0,none⟩) es.length es.length) (List.replicate es.length 0):=by
   unfold Own;simpa using hown
  rcases o.row with ⟨e,_⟩|⟨g,cap,e,_,hr⟩
  · cases e
  ·
   have e1:=congrArg Value.ownBlock e;simp[Value.ownBlock] at e1;rw[e1];exact hr
 clear hgrow hown hi hz0 hz1 hz2;have hlt1:=rb.lt;refine (l9Web_any _ _ _ _ _ (hE.keep (kB.trans k1)) (hr.keep (kB.trans k1)) hn hlr hrw).mono ?_;rintro e w2 ⟨vw,rfl,ow,k2⟩;clear d1
 have NW:vw.ownBlock=none∨vw.ownBlock≠some wB.heap.size:=by
  cases hu:vw.ownBlock with
  |none=>exact .inl rfl
  |some k=>exact .inr (fun e=>by have:=ow.ge k hu;have:=Option.some.inj e;omega)
 have K2:=k1.trans k2;go_wp2_with fail
 refine (specReadsOf_any _ _ _ (hE.keep (kB.trans K2)) (by omega)).mono ?_;rintro e w3 ⟨vr,rfl,or2,k3⟩;have hlt2:wB.heap.size<w2.heap.size:=Nat.lt_of_lt_of_le hlt1 k2.size;have W3:Rd w3 vw (rwL es rows):=ow.rd.keep k3;generalize idxB rdE es=rs at rl rin HL or2 hl hb rb;generalize rwL es rows=rw' at HL HWL W3 rb ow;have R3:Rd w3 vr rs:=or2.rd
 have NR:vr.ownBlock=none∨vr.ownBlock≠some wB.heap.size:=by
  cases hu:vr.ownBlock with
  |none=>exact .inl rfl
  |some k=>exact .inr (fun e=>by have:=or2.ge k hu;have:=Option.some.inj e;omega)
 have rb3:=(rb.keep k2).keep k3;have K3:=K2.trans k3;have RIN:=Lib.hid rin;have HB:=Lib.hid hb;have HF:=Lib.hid hf;obtain⟨ar,cr,rfl,-⟩:=id R3;obtain⟨aw,cw,rfl,-⟩:=id W3;clear rb k1 k2 k3 K2 or2 ow rin hb hlt1 hlt2 hf hr hE h;go_wp2;go_loopw [8] (fun i wr=>∃k:Nat,k≤rs.length∧i = .int .i64 k∧RowAt wr wB.heap.size (agK es.length rs f rw' k)∧Rd wr (.slice ar rs.length cr) rs∧Rd wr (.slice aw rw'.length cw) rw'∧Keep wB wr) (fun i _=>rs.length-(intOf i).toNat)
 case atStart=>exact⟨0,Nat.zero_le _,rfl,rb3,R3,W3,K3⟩
 case round=>
  obtain⟨k,hk,rfl,hr,hR,hW,hK⟩:=hrel;clear rb3 R3 W3 K3;by_cases hlt:k<rs.length
  ·
   obtain⟨r,hr0⟩:=Int.eq_ofNat_of_zero_le (RIN.out k hlt).1;obtain⟨t,ht0⟩:=Int.eq_ofNat_of_zero_le (HB.out k hlt).1;have hre:r<es.length:=by have:=(RIN.out k hlt).2;omega
   have hte:t<rw'.length:=by have:=(HB.out k hlt).2;have:=HWL.out;omega
   have HC:Hid (agK es.length rs f rw' (k+1)=(agK es.length rs f rw' k).set r (rw'.getD t 0)):=Lib.hid (by
    rw[agK,ht0,hr0,Int.toNat_natCast,Int.toNat_natCast])
   have d2:=hr.free r;have d7:=hr.cell (j:=r) (by rw[agK_len];exact hre);have d5:=(hK.cell lB).trans b0;have hR':=hR;obtain⟨a',c',he',hR'⟩:=hR';simp only[Value.slice.injEq,true_and] at he';obtain⟨rfl,rfl⟩:=he';rcases hR' with h0|⟨br,orr,rfl,hbr,hcr⟩
   · exfalso;rw[h0] at hlt;simp at hlt
   have d3:=hcr k hlt;rw[hr0] at d3;have hF:=(HF.out.keep kB).keep hK;obtain⟨a2,c2,he2,hF'⟩:=hF;simp only[Value.slice.injEq,true_and] at he2;obtain⟨rfl,rfl⟩:=he2;rcases hF' with h0|⟨bf,off,rfl,hbf,hcf⟩
   · exfalso;rw[h0] at hl;simp only[List.length_nil] at hl;omega
   have d4:=hcf k (by omega);rw[ht0] at d4;have hW':=hW;obtain⟨a3,c3,he3,hW'⟩:=hW';simp only[Value.slice.injEq,true_and] at he3;obtain⟨rfl,rfl⟩:=he3;rcases hW' with h0|⟨bw,oww,rfl,hbw,hcw⟩
   · exfalso;rw[h0] at hte;simp at hte
   have d6:=hcw t hte;clear hcr hcf hcw hr0 ht0;obtain⟨S,hS⟩:∃S,S=agK es.length rs f rw' k:=⟨_,rfl⟩;rw[←hS] at hr HC d7;clear hS;obtain⟨x,hx⟩:∃x,x=rw'.getD t 0:=⟨_,rfl⟩;rw[←hx] at d6 HC;clear hx;have i1:(0:Int)≤(k:Int):=Int.natCast_nonneg _;have i2:(k:Int)<(rs.length:Int):=by omega
   have i3:(k:Int)<(f.length:Int):=by omega
   have j1:(0:Int)≤(r:Int):=Int.natCast_nonneg _;have j2:(r:Int)<(es.length:Int):=by omega
   have j3:(0:Int)≤(t:Int):=Int.natCast_nonneg _;have j4:(t:Int)<(rw'.length:Int):=by omega
   have j5:(es.length:Int)≤12:=by omega
   go_wp2;go_region
   all_goals
    go_wp2;go_roundw
    case rel=>
     refine⟨k+1,by omega,by go_num,?_,?_,?_,?_⟩
     · rw[HC.out];exact hr.drew.set r _
     · exact (hR.keptR (grown_drew wr (some wB.heap.size)) NR).keptR (grown_set _ wB.heap.size r _) NR
     · exact (hW.keptR (grown_drew wr (some wB.heap.size)) NW).keptR (grown_set _ wB.heap.size r _) NW
     · exact (hK.drew).grown (grown_set _ wB.heap.size r _) (by simp)
    case measure=>simp[intOf];omega
  ·
   obtain rfl:k=rs.length:=by omega
   go_wp2;go_ret;refine⟨_,rfl,?_,kB.trans hK⟩;rw[HL.out];exact row_new hr (by have:=SB.out;omega) (agK_len _ _ _ _ _)
theorem made_noughtsB (n:Nat):(madeCells (Value.int .i64 0).cells (n*1)).toList=((List.replicate n (0:Int)).map (Value.int .i64)):=by
 rw[Nat.mul_one,List.map_replicate];exact toList_madeCells_one _ _
theorem l7Behind_any (w:World)(v:Value)(es:List Ev)(h:RdE w v es)(hn:es.length≤12):
  Calls Tryz.prog 51 #[v] w fun e w'=>∃v',e = .returned v'∧Row w' w.heap.size v' (behL es)∧Keep w w':=by
 obtain⟨a,c,rfl,h⟩:=h;obtain⟨i0,hi,hz0,hz1,hz2⟩:=info_parts Tryz.infoI;go_enter Tryz.func51,Tryz.ntmps51
 go_wp2_with (at_make;refine wpList_make_full _ rfl _ _ 23 rfl w.heap.size 2 i0 (.int .i64 0) 1 Tryz.underlying23 hi hz0 hz1 .i64 .i64 _ _ es.length rfl rfl rfl rfl (by rw[hz2];omega) (by unfold maxLen;omega) (Nat.le_refl _) ?_;intro w1 hown hgrow)
 rw[made_noughtsB] at hown;have k1:Keep w w1:=(Keep.refl w).grown hgrow (by simp)
 have rb:RowAt w1 w.heap.size (addAll (behP es) es.length 0):=by
  have o:Own w1 w.heap.size (.slice (some ⟨w.heap.size,0,none⟩) es.length es.length) (List.replicate es.length 0):=by
   unfold Own;simpa using hown
  rcases o.row with ⟨e,_⟩|⟨g,cap,e,_,hr⟩
  · cases e
  ·
   have e1:=congrArg Value.ownBlock e;simp[Value.ownBlock] at e1;rw[e1];exact hr
 clear hgrow hown hi hz0 hz1 hz2;go_loopw [4] (fun i wr=>∃k:Nat,k≤es.length∧i = .int .i64 k∧RowAt wr w.heap.size (addAll (behP es) es.length k)∧Keep w wr) (fun i _=>es.length-(intOf i).toNat)
 case atStart=>exact⟨0,Nat.zero_le _,rfl,rb,k1⟩
 case round=>
  obtain⟨k,hk,rfl,hr,hK⟩:=hrel;clear rb k1;by_cases hlt:k<es.length
  ·
   rcases h with h|⟨b,off,rfl,hb,hc⟩
   · exfalso;rw[h] at hlt;simp at hlt
   have AT:=hc k _ (evs_get hlt);have HW:=Lib.hid (web_addAll (p:=behP es) hn k (by omega)).1;have HE:Hid (addIn (behP es) k (addAll (behP es) es.length k) es.length=addAll (behP es) es.length (k+1)):=Lib.hid rfl;generalize addAll (behP es) es.length k=T at *;obtain⟨wo,rfl⟩:∃wo:World,wo=wr:=⟨_,rfl⟩;have i1:(0:Int)≤(k:Int):=Int.natCast_nonneg _;have i2:(k:Int)<(es.length:Int):=by omega
   have HST:Hid (addIn (behP es) k T (k+1)=T):=Lib.hid (addIn_none T _ (fun j hj=>behP_up (by omega)));go_wp2;go_loopw [5] (fun i wr=>∃m:Nat,k+1≤m∧m≤es.length∧i = .int .i64 m∧RowAt wr w.heap.size (addIn (behP es) k T m)∧Keep w wr) (fun i _=>es.length-(intOf i).toNat)
   case atStart=>exact⟨k+1,Nat.le_refl _,by omega,by go_num,by rw[HST.out];exact hr,hK⟩
   case round=>
    clear hr hK HST;obtain⟨m,hkm,hm,rfl,hr,hK⟩:=hrel;by_cases hml:m<es.length
    ·
     have AK:=AT.keep hb hK;have AM:=(hc m _ (evs_get hml)).keep hb hK;have hbw:b<wr.heap.size:=Nat.lt_of_lt_of_le hb hK.size;have hB:=(web_addIn (p:=behP es) hlt HW.out m hm).1;have hrg:=okB_range (hB.2.2 k hlt);have hBl:k<(addIn (behP es) k T m).length:=by rw[hB.2.1];exact hlt
     clear hB AT hc;have HP:Hid (behP es k m=(decide (k<m)&&((decide (k<3)&&decide (3≤m))||(decide (3≤k)&&((es.getD k zE).1==(es.getD m zE).1))))):=Lib.hid rfl;obtain⟨e,he⟩:∃e,e=es.getD k zE:=⟨_,rfl⟩;rw[←he] at AK HP;clear he;obtain⟨d,hd⟩:∃d,d=es.getD m zE:=⟨_,rfl⟩;rw[←hd] at AM HP;clear hd;obtain⟨x0,x1,x2,x3,x4,x5⟩:=e;obtain⟨y0,y1,y2,y3,y4,y5⟩:=d;obtain⟨A0,-,-,-,-,-⟩:=atE AK;obtain⟨B0,-,-,-,-,-⟩:=atE AM;clear AK AM;have j1:(0:Int)≤(m:Int):=Int.natCast_nonneg _;have j2:(m:Int)<(es.length:Int):=by omega
     have j3:(es.length:Int)≤12:=by omega
     have HH:behP es k m=true→Hid (addIn (behP es) k T (m+1)=(addIn (behP es) k T m).set k (bits .or .i64 ((addIn (behP es) k T m).getD k 0) (wrap64 (2 ^ (m:Int).toNat)))):=fun hp=>Lib.hid (by
      rw[addIn_hit T hp,gAdd_ok _ _ hrg.1 (by unfold inB;simp;omega)])
     have HM:behP es k m=false→Hid (addIn (behP es) k T (m+1)=addIn (behP es) k T m):=fun hp=>Lib.hid (addIn_miss T hp)
     have d1:=hr.cell (j:=k) hBl;have d2:=hr.free k;obtain⟨S,hS⟩:∃S,S=addIn (behP es) k T m:=⟨_,rfl⟩;rw[←hS] at d1 hr HH HM hrg;clear hS hBl;obtain⟨x,hx⟩:∃x,x=S.getD k 0:=⟨_,rfl⟩;rw[←hx] at d1 HH hrg;clear hx;by_cases k3:k<3
     ·
      have k4:(k:Int)<3:=by omega
      have k5:decide ((3:Int)≤(k:Int))=false:=decide_eq_false (by omega);by_cases m3:m<3
      ·
       have m4:decide ((3:Int)≤(m:Int))=false:=decide_eq_false (by omega);have HE1:=HM (by rw[HP.out];simp;omega);clear HH HM HP d1 d2;go_wp2;go_quiet (fail)
       go_wp2;go_roundw;case rel=>exact⟨m+1,by omega,by omega,by go_num,by rw[HE1.out];exact hr.drewN _,hK.grown (grown_draw wr _ none) (by simp)⟩
       case measure=>simp[intOf];omega
      ·
       have m4:(3:Int)≤(m:Int):=by omega
       have HE1:=HH (by rw[HP.out];simp;omega);clear HH HM HP;go_wp2;go_quiet (fail)
       go_wp2;go_roundw;case rel=>exact⟨m+1,by omega,by omega,by go_num,by rw[HE1.out];exact (hr.drewN _).set k _,(hK.grown (grown_draw wr _ none) (by simp)).grown (grown_set _ w.heap.size k _) (by simp)⟩
       case measure=>simp[intOf];omega
     ·
      have k4:(3:Int)≤(k:Int):=by omega
      have k5:decide ((k:Int)<3)=false:=decide_eq_false (by omega);by_cases xy:x0=y0
      ·
       subst xy;have HE1:=HH (by rw[HP.out];simp;omega);clear HH HM HP;go_wp2;go_quiet (fail)
       go_wp2;go_roundw;case rel=>exact⟨m+1,by omega,by omega,by go_num,by rw[HE1.out];exact (hr.drewN _).set k _,(hK.grown (grown_draw wr _ none) (by simp)).grown (grown_set _ w.heap.size k _) (by simp)⟩
       case measure=>simp[intOf];omega
      ·
       have xb:(x0==y0)=false:=by simp[xy]
       have HE1:=HM (by rw[HP.out];simp[xb];omega);clear HH HM HP d1 d2;go_wp2;go_quiet (fail)
       go_wp2;go_roundw;case rel=>exact⟨m+1,by omega,by omega,by go_num,by rw[HE1.out];exact hr.drewN _,hK.grown (grown_draw wr _ none) (by simp)⟩
       case measure=>simp[intOf];omega
    ·
     obtain rfl:m=es.length:=by omega
     go_wp2;go_roundw;case rel=>exact⟨k+1,by omega,by go_num,by rw[←HE.out];exact hr,hK⟩
     case measure=>simp[intOf];omega
  ·
   obtain rfl:k=es.length:=by omega
   have HL:=(web_addAll (p:=behP es) hn es.length (Nat.le_refl _)).1.2.1;go_wp2;go_ret;exact⟨_,rfl,row_new hr (Nat.le_refl _) HL,hK⟩
theorem l7Place_any (w:World)(v:Value)(es:List Ev)(h:RdE w v es)(hn:es.length≤12):
  Calls Tryz.prog 66 #[v] w fun e w'=>∃v',e = .returned v'∧Row w' w.heap.size v' (plcL es)∧Keep w w':=by
 have HB:=(beh_line hn).1;have r:=h;obtain⟨a,c,rfl,h⟩:=h;go_enter Tryz.func66,Tryz.ntmps66
 go_wp2_with fail
 refine (l7Behind_any _ _ _ r hn).mono ?_;rintro e w1 ⟨v1,rfl,o1,k1⟩;clear r;by_cases h0:es.length=0
 ·
  have e0:es=[]:=List.eq_nil_of_length_eq_zero h0;subst e0;go_wp2;refine wp_loop_rounds 1 ?_;rw[rounds_succ];go_wp2;go_ret;exact⟨_,rfl,o1,k1⟩
 obtain⟨G,cap,rfl,hG,hR⟩:∃g cap,v1 = .slice (some ⟨g,0,none⟩) es.length cap∧w.heap.size≤g∧RowAt w1 g (behL es):=by
  rcases o1 with ⟨_,e⟩|⟨g,cap,e,hg,hr⟩
  · exact absurd (HB.2.1.symm.trans (by rw[e];rfl)) h0
  · exact⟨g,cap,by rw[e,HB.2.1],hg,hr⟩
 clear o1 h0;have HW0:=Lib.hid HB;clear HB;go_wp2;go_loopw [4] (fun i wr=>∃k:Nat,k≤es.length∧i = .int .i64 k∧RowAt wr G (offAll (plcP es) es.length (behL es) k)∧Keep w wr) (fun i _=>es.length-(intOf i).toNat)
 case atStart=>exact⟨0,Nat.zero_le _,rfl,hR,k1⟩
 case round=>
  obtain⟨k,hk,rfl,hr,hK⟩:=hrel;clear hR k1;by_cases hlt:k<es.length
  ·
   rcases h with h|⟨b,off,rfl,hb,hc⟩
   · exfalso;rw[h] at hlt;simp at hlt
   have AT:=hc k _ (evs_get hlt);have HW:=Lib.hid (web_offAll (p:=plcP es) HW0.out k (by omega)).1;have HE:Hid (offIn (plcP es) k (offAll (plcP es) es.length (behL es) k) es.length=offAll (plcP es) es.length (behL es) (k+1)):=Lib.hid rfl;generalize offAll (plcP es) es.length (behL es) k=T at *;obtain⟨wo,rfl⟩:∃wo:World,wo=wr:=⟨_,rfl⟩;have i1:(0:Int)≤(k:Int):=Int.natCast_nonneg _;have i2:(k:Int)<(es.length:Int):=by omega
   go_wp2;go_loopw [5] (fun i wr=>∃m:Nat,m≤es.length∧i = .int .i64 m∧RowAt wr G (offIn (plcP es) k T m)∧Keep w wr) (fun i _=>es.length-(intOf i).toNat)
   case atStart=>exact⟨0,by omega,rfl,hr,hK⟩
   case round=>
    clear hr hK;obtain⟨m,hm,rfl,hr,hK⟩:=hrel;by_cases hml:m<es.length
    ·
     have AK:=AT.keep hb hK;have AM:=(hc m _ (evs_get hml)).keep hb hK;have hbw:b<wr.heap.size:=Nat.lt_of_lt_of_le hb hK.size;have hB:=(web_offIn (p:=plcP es) hlt HW.out m hm).1;have hBl:k<(offIn (plcP es) k T m).length:=by rw[hB.2.1];exact hlt
     clear hB AT hc;have HP:Hid (plcP es k m=((es.getD k zE).2.2.2.1 != (es.getD m zE).2.2.2.1)):=Lib.hid rfl;obtain⟨e,he⟩:∃e,e=es.getD k zE:=⟨_,rfl⟩;rw[←he] at AK HP;clear he;obtain⟨d,hd⟩:∃d,d=es.getD m zE:=⟨_,rfl⟩;rw[←hd] at AM HP;clear hd;obtain⟨x0,x1,x2,x3,x4,x5⟩:=e;obtain⟨y0,y1,y2,y3,y4,y5⟩:=d;obtain⟨-,-,-,A3,-,-⟩:=atE AK;obtain⟨-,-,-,B3,-,-⟩:=atE AM;clear AK AM;have j1:(0:Int)≤(m:Int):=Int.natCast_nonneg _;have j2:(m:Int)<(es.length:Int):=by omega
     have j3:(es.length:Int)≤12:=by omega
     have HH:plcP es k m=true→Hid (offIn (plcP es) k T (m+1)=(offIn (plcP es) k T m).set k (bits .andNot .i64 ((offIn (plcP es) k T m).getD k 0) (wrap64 (2 ^ (m:Int).toNat)))):=fun hp=>Lib.hid (offIn_hit T hp)
     have HM:plcP es k m=false→Hid (offIn (plcP es) k T (m+1)=offIn (plcP es) k T m):=fun hp=>Lib.hid (offIn_miss T hp)
     have d1:=hr.cell (j:=k) hBl;have d2:=hr.free k;have hGl:=hr.lt;obtain⟨S,hS⟩:∃S,S=offIn (plcP es) k T m:=⟨_,rfl⟩;rw[←hS] at d1 hr HH HM;clear hS hBl;obtain⟨x,hx⟩:∃x,x=S.getD k 0:=⟨_,rfl⟩;rw[←hx] at d1 HH;clear hx;by_cases xy:x3=y3
     ·
      subst xy;have HE1:=HM (by rw[HP.out];simp);clear HH HM HP d1 d2;go_wp2;go_quiet (fail)
      go_wp2;go_roundw;case rel=>exact⟨m+1,by omega,by go_num,by rw[HE1.out];exact hr.drewN _,hK.grown (grown_draw wr _ none) (by simp)⟩
      case measure=>simp[intOf];omega
     ·
      have xb:(x3 != y3)=true:=by simp[xy]
      have HE1:=HH (by rw[HP.out];exact xb);clear HH HM HP xy;go_wp2;go_quiet (fail)
      go_wp2;go_roundw;case rel=>exact⟨m+1,by omega,by go_num,by rw[HE1.out];exact (hr.drewN _).set k _,(hK.grown (grown_draw wr _ none) (by simp)).grown (grown_set _ G k _) (by simp;exact hG)⟩
      case measure=>simp[intOf];omega
    ·
     obtain rfl:m=es.length:=by omega
     go_wp2;go_roundw;case rel=>exact⟨k+1,by omega,by go_num,by rw[←HE.out];exact hr,hK⟩
     case measure=>simp[intOf];omega
  ·
   obtain rfl:k=es.length:=by omega
   have HL:=(web_offAll (p:=plcP es) HW0.out es.length (Nat.le_refl _)).1.2.1;go_wp2;go_ret;exact⟨_,rfl,row_new hr hG HL,hK⟩
theorem made_nil (n:Nat):(madeCells (Value.int .i64 0).cells (n*1)).toList=((List.replicate n (0:Int)).map (Value.int .i64)):=by
 rw[Nat.mul_one,List.map_replicate];exact toList_madeCells_one _ _
theorem l8Web_any (w:World)(v vf:Value)(es:List Ev)(f:List Int)(h:RdE w v es)(hv:Rd w vf f)(hn:es.length≤12)(hl:(idxB rdE es).length≤f.length)(hb:∀i,i<(idxB rdE es).length→0≤f.getD i 0∧f.getD i 0<(es.length:Int)):
  Calls Tryz.prog 52 #[v,vf] w fun e w'=>∃v',e = .returned v'∧Row w' w.heap.size v' (fwL es f)∧Keep w w':=by
 have hE:=h;obtain⟨a,c,rfl,h⟩:=h;obtain⟨i0,hi,hz0,hz1,hz2⟩:=info_parts Tryz.infoI
 have rl:(idxB rdE es).length≤12:=by
  unfold idxB;rw[if_pos hn];have:=idxK_len rdE es es.length;omega
 have rin:∀i,i<(idxB rdE es).length→0≤(idxB rdE es).getD i 0∧(idxB rdE es).getD i 0<(es.length:Int):=by
  intro i hi
  have hm:(idxB rdE es).getD i 0∈idxB rdE es:=by
   rw[List.getD_eq_getElem?_getD,List.getElem?_eq_getElem hi];exact List.getElem_mem hi
  refine idxK_lt rdE es _ _ ?_;unfold idxB at hm ⊢;rw[if_pos hn] at hm ⊢;exact hm
 have HL:Hid (fwL es f=fwK es.length (idxB rdE es) f (idxB rdE es).length):=Lib.hid rfl;go_enter Tryz.func52,Tryz.ntmps52
 go_wp2_with (at_make;refine wpList_make_full _ rfl _ _ 23 rfl w.heap.size 2 i0 (.int .i64 0) 1 Tryz.underlying23 hi hz0 hz1 .i64 .i64 _ _ es.length rfl rfl rfl rfl (by rw[hz2];omega) (by unfold maxLen;omega) (Nat.le_refl _) ?_;intro w1 hown hgrow)
 rw[made_nil] at hown;have k1:Keep w w1:=(Keep.refl w).grown hgrow (by simp)
 have rb:RowAt w1 w.heap.size (fwK es.length (idxB rdE es) f 0):=by
  have o:Own w1 w.heap.size (.slice (some ⟨w.heap.size,0,none⟩) es.length es.length) (List.replicate es.length 0):=by
   unfold Own;simpa using hown
  rcases o.row with ⟨e,_⟩|⟨g,cap,e,_,hr⟩
  · cases e
  ·
   have e1:=congrArg Value.ownBlock e;simp[Value.ownBlock] at e1;rw[e1];exact hr
 clear hgrow hown hi hz0 hz1 hz2;have hlt1:=rb.lt;refine (specReadsOf_any _ _ _ (hE.keep k1) (by omega)).mono ?_;rintro e w2 ⟨vr,rfl,or2,k2⟩;generalize idxB rdE es=rs at rl rin HL or2 hl hb rb;have R2:Rd w2 vr rs:=or2.rd
 have N2:vr.ownBlock=none∨vr.ownBlock≠some w.heap.size:=by
  cases hu:vr.ownBlock with
  |none=>exact .inl rfl
  |some k=>exact .inr (fun e=>by have:=or2.ge k hu;have:=Option.some.inj e;omega)
 have rb2:=rb.keep k2;have K2:=k1.trans k2;have RIN:=Lib.hid rin;have HB:=Lib.hid hb;obtain⟨ar,cr,rfl,-⟩:=id R2;obtain⟨af,cf,rfl,-⟩:=id hv;clear rb k1 k2 or2 rin hb hlt1;go_wp2;go_loopw [7] (fun i wr=>∃k:Nat,k≤rs.length∧i = .int .i64 k∧RowAt wr w.heap.size (fwK es.length rs f k)∧Rd wr (.slice ar rs.length cr) rs∧Keep w wr) (fun i _=>rs.length-(intOf i).toNat)
 case atStart=>exact⟨0,Nat.zero_le _,rfl,rb2,R2,K2⟩
 case round=>
  obtain⟨k,hk,rfl,hr,hR,hK⟩:=hrel;clear rb2 R2 K2;by_cases hlt:k<rs.length
  ·
   obtain⟨r,hr0⟩:=Int.eq_ofNat_of_zero_le (RIN.out k hlt).1;obtain⟨t,ht0⟩:=Int.eq_ofNat_of_zero_le (HB.out k hlt).1;have hre:r<es.length:=by have:=(RIN.out k hlt).2;omega
   have hte:t<es.length:=by have:=(HB.out k hlt).2;omega
   have hW:=(fw_line (n:=es.length) (rs:=rs) (f:=f) hn k (fun i hi=>RIN.out i (by omega)) (fun i hi=>HB.out i (by omega))).1;have hrg:=okB_range (hW.2.2 t hte);have hBl:t<(fwK es.length rs f k).length:=by rw[hW.2.1];exact hte
   have HC:Hid (fwK es.length rs f (k+1)=(fwK es.length rs f k).set t (bits .or .i64 ((fwK es.length rs f k).getD t 0) (wrap64 (2 ^ (r:Int).toNat)))):=Lib.hid (by
    rw[fwK,ht0,hr0,Int.toNat_natCast,gAdd_ok _ _ hrg.1 (by unfold inB;simp;omega)])
   have d1:=hr.cell (j:=t) hBl;have d2:=hr.free t;have hR':=hR;obtain⟨a',c',he',hR'⟩:=hR';simp only[Value.slice.injEq,true_and] at he';obtain⟨rfl,rfl⟩:=he';rcases hR' with h0|⟨br,orr,rfl,hbr,hcr⟩
   · exfalso;rw[h0] at hlt;simp at hlt
   have d3:=hcr k hlt;rw[hr0] at d3;have hF:=hv.keep hK;obtain⟨a2,c2,he2,hF'⟩:=hF;simp only[Value.slice.injEq,true_and] at he2;obtain⟨rfl,rfl⟩:=he2;rcases hF' with h0|⟨bf,off,rfl,hbf,hcf⟩
   · exfalso;rw[h0] at hl;simp only[List.length_nil] at hl;omega
   have d4:=hcf k (by omega);rw[ht0] at d4;clear hcr hcf hr0 ht0 hW hBl;obtain⟨S,hS⟩:∃S,S=fwK es.length rs f k:=⟨_,rfl⟩;rw[←hS] at d1 hr HC hrg;clear hS;obtain⟨x,hx⟩:∃x,x=S.getD t 0:=⟨_,rfl⟩;rw[←hx] at d1 HC hrg;clear hx;have i1:(0:Int)≤(k:Int):=Int.natCast_nonneg _;have i2:(k:Int)<(rs.length:Int):=by omega
   have i3:(k:Int)<(f.length:Int):=by omega
   have j1:(0:Int)≤(r:Int):=Int.natCast_nonneg _;have j2:(r:Int)<(es.length:Int):=by omega
   have j3:(0:Int)≤(t:Int):=Int.natCast_nonneg _;have j4:(t:Int)<(es.length:Int):=by omega
   have j5:(es.length:Int)≤12:=by omega
   go_wp2;go_region
   all_goals
    go_wp2;go_roundw
    case rel=>
     refine⟨k+1,by omega,by go_num,?_,?_,?_⟩
     · rw[HC.out];exact hr.drew.set t _
     · exact (hR.keptR (grown_drew wr (some w.heap.size)) N2).keptR (grown_set _ w.heap.size t _) N2
     · exact (hK.drew).grown (grown_set _ w.heap.size t _) (by simp)
    case measure=>simp[intOf];omega
  ·
   obtain rfl:k=rs.length:=by omega
   go_wp2;go_ret;refine⟨_,rfl,?_,hK⟩;rw[HL.out];have hW:=(fw_line (n:=es.length) (rs:=rs) (f:=f) hn rs.length (fun i hi=>RIN.out i (by omega)) (fun i hi=>HB.out i (by omega))).1;exact .inr ⟨w.heap.size,es.length,by rw[hW.2.1];rfl,Nat.le_refl _,hr⟩
theorem l1Has_any (s i:Int)(w:World)(h1:0≤i)(h2:i≤11):
  Calls Tryz.prog 65 #[.int .i64 s,.int .i64 i] w fun e w'=>e = .returned (.bool (bitB s i))∧w'=w:=by
 go_enter Tryz.func65,Tryz.ntmps65
 go_wp2;go_ret;exact⟨rfl,rfl⟩
theorem zip_stepJ {a b:List Int}{k:Nat}(ha:k<a.length)(hb:k<b.length):(List.zipWith orI a b).take (k+1)=(List.zipWith orI a b).take k++[orI (a.getD k 0) (b.getD k 0)]:=by
 have hz:k<(List.zipWith orI a b).length:=by rw[List.length_zipWith];omega
 rw[List.take_succ_eq_append_getElem hz,List.getElem_zipWith,List.getD_eq_getElem?_getD,List.getD_eq_getElem?_getD,List.getElem?_eq_getElem ha,List.getElem?_eq_getElem hb];rfl
theorem l2Join_any (w:World)(v1 v2:Value)(xs ys:List Int)(h1:Rd w v1 xs)(h2:Rd w v2 ys)(n1:xs.length≤12)(hl:xs.length=ys.length):
    Calls Tryz.prog 50 #[v1,v2] w fun e w'=>∃v',e = .returned v'∧Own w' w.heap.size v' (List.zipWith orI xs ys)∧Keep w w':=by
  have r1:=h1;have r2:=h2;obtain⟨a1,c1,rfl,h1⟩:=h1;obtain⟨a2,c2,rfl,h2⟩:=h2;have hl1:xs.length≤ys.length:=by omega
  have hl2:ys.length≤xs.length:=by omega
  clear hl;have hown0:Own (w.alloc (.cells #[] 2)) w.heap.size (.slice (some ⟨w.heap.size,0,none⟩) 0 0) []:=World.ownsRow_lit w #[] 0 (Nat.le_refl _) (by decide) rfl;obtain⟨i0,hi,hz0,hz1,hz2⟩:=info_parts Tryz.infoI;go_enter Tryz.func50,Tryz.ntmps50
  go_wp2;go_loopw [5,6] (fun v0 i wr=>∃(v:Value) (k:Nat),v=v0∧k≤xs.length∧i = .int .i64 k∧Own wr w.heap.size v ((List.zipWith orI xs ys).take k)∧Keep w wr) (fun _ i _=>xs.length-(intOf i).toNat)
  case atStart=>exact⟨_,0,rfl,Nat.zero_le _,rfl,hown0,(Keep.refl _).alloc _⟩
  case round=>
    obtain⟨v,k,rfl,hk,rfl,ho,hK⟩:=hrel;clear hown0;by_cases hlt:k<xs.length
    · rcases h1 with h|⟨b1,o1,rfl,hb1,hc1⟩
      · exfalso;rw[h] at hlt;simp at hlt
      have hlt2:k<ys.length:=by omega
      rcases h2 with h|⟨b2,o2,rfl,hb2,hc2⟩
      · exfalso;rw[h] at hlt2;simp at hlt2
      have d1:=(hK.cell hb1).trans (hc1 k hlt);have d2:=(hK.cell hb2).trans (hc2 k hlt2);have HZ:Hid ((List.zipWith orI xs ys).take (k+1)=(List.zipWith orI xs ys).take k++[orI (xs.getD k 0) (ys.getD k 0)]):=zip_stepJ hlt hlt2;have hLl:((List.zipWith orI xs ys).take k).length≤12:=by rw[List.length_take,List.length_zipWith];omega
      have ag1:=ho.ge b1;have ag2:=ho.ge b2;have hsz:=hK.size;have rr1:=r1.keep hK;have rr2:=r2.keep hK;clear hc1 hc2;generalize xs.getD k 0=p at *;generalize ys.getD k 0=q at *;generalize (List.zipWith orI xs ys).take k=L at *;have an1:v.ownBlock≠some b1:=fun e=>by have:=ag1 e;omega
      have an2:v.ownBlock≠some b2:=fun e=>by have:=ag2 e;omega
      clear ag1 ag2;have i1:(0:Int)≤(k:Int):=Int.natCast_nonneg _;have i2:(k:Int)<(xs.length:Int):=by omega
      have i3:(k:Int)<(ys.length:Int):=by omega
      have m1:L.length+1≤maxLen:=by unfold maxLen;omega
      have m2:(L.length+1)*8≤140737488355328:=by omega
      go_wp2_with fail
      go_region_held3 (fun w'=>w'.cell? ⟨b1,o1+k,none⟩=some (.int .i64 p)∧w'.cell? ⟨b2,o2+k,none⟩=some (.int .i64 q))
        (first
          |go_keep
          | (go_split_ands
             refine⟨?_,?_⟩
             · (rw[hgrow.cell_far _ (by simp;omega) (Ne.symm an1)];assumption)
             · (rw[hgrow.cell_far _ (by simp;omega) (Ne.symm an2)];assumption)))
        ((refine step_append_lies _ (by rfl) _ _ _ (by rfl) w.heap.size 2 i0 _ 1 8 Tryz.underlying23 hi hz0 hz1 hz2 rfl (by omega) v L.length (L.map (Value.int .i64)) (by rfl) ((World.ownsRow.alloc ho _).drew)
            ⟨wr.heap.size,0,none⟩ 1 1 [.int .i64 (orI p q)] (by rfl) (by rfl) (World.news_of_block (cs:=#[.int .i64 (orI p q)]) (t:=2) (fr:=(0,0)) (heap_alloc_new wr _)) (by simp[Value.oneCell'])
            (by omega) m1 m2 (by simp;omega) (wr.heap.size+1) (by simp) ?_;intro gg cap w1 hown1 hgrow hat hlt1))
      have k1:Keep w w1:=((hK.alloc _).drew).grown hgrow ho.ge;have o1':=own_hit hown1;clear hgrow hown1 hat;go_wp2;go_roundw;case rel=>exact⟨_,k+1,rfl,by omega,by go_num,by rw[HZ.out];exact o1',k1⟩
      case measure=>simp[intOf];omega
    · obtain rfl:k=xs.length:=by omega
      go_wp2;go_ret;refine⟨_,rfl,?_,hK⟩;rw[List.take_of_length_le (by rw[List.length_zipWith];omega)] at ho;exact ho
theorem l1Copy_any (w:World)(base:Nat)(v:Value)(zs:List Int)(h:Row w base v zs)(hn:zs.length≤1048576):
  Calls Tryz.prog 102 #[v] w fun e w'=>∃v',e = .returned v'∧Own w' w.heap.size v' zs∧Keep w w':=by
 have ho:Own (w.alloc (.cells #[] 2)) w.heap.size (.slice (some ⟨w.heap.size,0,none⟩) 0 0) []:=World.ownsRow_lit w #[] 0 (Nat.le_refl _) (by decide) rfl;have hK:Keep w (w.alloc (.cells #[] 2)):=(Keep.refl w).alloc _;obtain⟨i0,hi,hz0,hz1,hz2⟩:=info_parts Tryz.infoI;rcases h with ⟨rfl,rfl⟩|⟨g,cap,rfl,hg,hr⟩
 ·
  go_enter Tryz.func102,Tryz.ntmps102
  go_wp2_with (at_builtin;refine wpList_append_own_none rfl _ _ 23 rfl w.heap.size 2 i0 1 Tryz.underlying23 hi _ _ _ rfl ho rfl ?_)
  go_wp2;go_ret;exact⟨_,rfl,ho,hK⟩
 ·
  go_enter Tryz.func102,Tryz.ntmps102
  go_wp2_with (at_builtin;refine wpList_append_own _ rfl _ _ 23 rfl w.heap.size 2 i0 (.int .i64 0) 1 8 Tryz.underlying23 hi hz0 hz1 hz2 rfl (by decide) _ _ _ rfl ho ⟨g,0,none⟩ zs.length cap (zs.map (Value.int .i64)) rfl (by simp) ?c1 ?c2 ?c3 ?c4 ?c5 ?_)
  case c1=>
   intro j u hj;rw[List.getElem?_map] at hj
   have hjl:j<zs.length:=by
    apply Classical.byContradiction;intro hno;rw[List.getElem?_eq_none (by omega)] at hj;cases hj
   have e1:(⟨g,0,none⟩:Addr).add j=⟨g,j,none⟩:=by unfold Addr.add;split<;>simp_all
   rw[e1,hK.cell hr.lt,hr.cell hjl,List.getD_eq_getElem?_getD];rw[List.getElem?_eq_getElem hjl] at hj ⊢
   simpa using hj
  case c2=>
   intro u hu;obtain⟨y,_,rfl⟩:=List.mem_map.1 hu;rfl
  case c3=>simp;unfold maxLen;omega
  case c4=>simp;omega
  case c5=>simp
  intro v' w1 hown' hgrow _;have k1:Keep w w1:=hK.grown hgrow ho.ge;have o1:Own w1 w.heap.size v' zs:=by unfold Own;simpa using hown'
  clear hgrow hown';go_wp2;go_ret;exact⟨_,rfl,o1,k1⟩
theorem wayS_hit (k:Nat)(st:List Int)(i:Nat)(h:inSetB ((wayIn k st i).getD i 0) k=true):wayIn k st (i+1)=(wayIn k st i).set i (orI ((wayIn k st i).getD i 0) ((wayIn k st i).getD k 0)):=by
 conv=>lhs;unfold wayIn
 rw[if_pos h]
theorem wayS_miss (k:Nat)(st:List Int)(i:Nat)(h:inSetB ((wayIn k st i).getD i 0) k=false):wayIn k st (i+1)=wayIn k st i:=by
 conv=>lhs;unfold wayIn
 rw[h];rfl
theorem l2Ways_any (w:World)(base:Nat)(v:Value)(zs:List Int)(h:Row w base v zs)(ht:Web zs.length zs):
  Calls Tryz.prog 64 #[v] w fun e w'=>∃v',e = .returned v'∧Row w' w.heap.size v' (wayAll zs zs.length)∧Keep w w':=by
 have hz12:=ht.1;have HX:Hid (Web zs.length zs):=ht;clear ht;go_enter Tryz.func64,Tryz.ntmps64
 go_wp2_with fail
 refine (l1Copy_any _ _ _ _ h (by omega)).mono ?_;rintro e w1 ⟨vo,rfl,oo,k1⟩;clear h;have hrow:=oo.row;clear oo;rcases hrow with ⟨rfl,hnil⟩|⟨g,cap,rfl,hg,rb⟩
 ·
  subst hnil;go_wp2;refine wp_loop_rounds 1 ?_;rw[rounds_succ];go_wp2;go_ret;exact⟨_,rfl,.inl ⟨rfl,rfl⟩,k1⟩
 ·
  go_wp2_with fail
  go_loopw [4] (fun i wr=>∃k:Nat,k≤zs.length∧i = .int .i64 k∧RowAt wr g (wayAll zs k)∧Keep w wr) (fun i _=>zs.length-(intOf i).toNat)
  case atStart=>exact⟨0,Nat.zero_le _,rfl,rb,k1⟩
  case round=>
   obtain⟨k,hk,rfl,hr,hK⟩:=hrel;clear rb k1;by_cases hlt:k<zs.length
   ·
    have HT:Hid (Web zs.length (wayAll zs k)):=web_wayAll HX.out k hk;have HE:Hid (wayIn k (wayAll zs k) zs.length=wayAll zs (k+1)):=rfl;generalize wayAll zs k=T at *;obtain⟨wo,rfl⟩:∃wo:World,wo=wr:=⟨_,rfl⟩;go_wp2_with fail
    go_loopw [5] (fun i wr=>∃m:Nat,m≤zs.length∧i = .int .i64 m∧RowAt wr g (wayIn k T m)∧Keep w wr) (fun i _=>zs.length-(intOf i).toNat)
    case atStart=>exact⟨0,Nat.zero_le _,rfl,hr,hK⟩
    case round=>
     clear hr hK;obtain⟨m,hm,rfl,hr,hK⟩:=hrel;by_cases hml:m<zs.length
     ·
      have hB:=(web_wayIn hlt HT.out m hm).1;have hBl:=hB.2.1;have hbit:inSetB ((wayIn k T m).getD m 0) k=bitB ((wayIn k T m).getD m 0) k:=inSetB_bit (okB_range (hB.2.2 m hml)) (by omega);clear hB;have d0:=hr.cell (j:=m) (by omega);have d1:=hr.cell (j:=k) (by omega);have d2:=hr.free m;cases hb:bitB ((wayIn k T m).getD m 0) k
      ·
       rw[hb] at hbit;have HM:Hid (wayIn k T (m+1)=wayIn k T m):=wayS_miss k T m hbit;rw[←HM.out] at hr;clear hbit;generalize (wayIn k T m).getD m 0=x at *;generalize (wayIn k T m).getD k 0=y at *;clear d1 d2 HM;go_wp2_with fail
       refine (l1Has_any _ _ _ (by omega) (by omega)).mono ?_;rintro e w2 ⟨rfl,rfl⟩;go_wp2;go_roundw;case rel=>exact⟨m+1,by omega,by go_num,hr,hK⟩
       case measure=>simp[intOf];omega
      ·
       rw[hb] at hbit;have HM:Hid (wayIn k T (m+1)=(wayIn k T m).set m (orI ((wayIn k T m).getD m 0) ((wayIn k T m).getD k 0))):=wayS_hit k T m hbit;have hs:=hr.set m (orI ((wayIn k T m).getD m 0) ((wayIn k T m).getD k 0));rw[←HM.out] at hs;have hK2:=hK.grown (grown_set wr g m (.int .i64 (orI ((wayIn k T m).getD m 0) ((wayIn k T m).getD k 0)))) (by simp;exact hg);clear HM hr hbit;generalize (wayIn k T m).getD m 0=x at *;generalize (wayIn k T m).getD k 0=y at *;have i1:(0:Int)≤(m:Int):=Int.natCast_nonneg _;have i2:(m:Int)<(zs.length:Int):=by omega
       have i3:(0:Int)≤(k:Int):=Int.natCast_nonneg _;have i4:(k:Int)<(zs.length:Int):=by omega
       go_wp2_with fail
       refine (l1Has_any _ _ _ (by omega) (by omega)).mono ?_;rintro e w2 ⟨rfl,rfl⟩;go_wp2;go_region
       go_wp2;go_roundw;case rel=>exact⟨m+1,by omega,by go_num,hs.drew,hK2.drew⟩
       case measure=>simp[intOf];omega
     ·
      obtain rfl:m=zs.length:=by omega
      rw[HE.out] at hr;go_wp2;go_roundw;case rel=>exact⟨k+1,by omega,by go_num,hr,hK⟩
      case measure=>simp[intOf];omega
   ·
    obtain rfl:k=zs.length:=by omega
    go_wp2;go_ret;exact⟨_,rfl,row_new hr hg (wayAll_len zs _),hK⟩
theorem roundS_yes {zs:List Int}(ht:webB zs=true){k:Nat}(hk:k<(waysL zs).length)(h:inSetB ((waysL zs).getD k 0) k=true):roundB zs=true:=by
 have hl:=(web_ways (web_iff.1 ht)).2.1;unfold roundB;rw[ht,Bool.true_and,List.any_eq_true];exact⟨k,List.mem_range.2 (by omega),h⟩
theorem roundS_no {zs:List Int}(ht:webB zs=true)(h:∀i,i<(waysL zs).length→inSetB ((waysL zs).getD i 0) i=false):roundB zs=false:=by
 have hl:=(web_ways (web_iff.1 ht)).2.1;unfold roundB;rw[ht,Bool.true_and,List.any_eq_false];intro i hi;have:=h i (by have:=List.mem_range.1 hi;omega);unfold line;rw[this];simp
theorem l3Round_any (w:World)(base:Nat)(v:Value)(zs:List Int)(h:Row w base v zs)(ht:webB zs=true):
  Calls Tryz.prog 38 #[v] w fun e w'=>e = .returned (.bool (roundB zs))∧Keep w w':=by
 have HW:Hid (Web zs.length zs):=web_iff.1 ht;have HE:Hid (wayAll zs zs.length=waysL zs):=(ways_eq HW.out).symm;have hY:Hid (∀k,k<(waysL zs).length→inSetB ((waysL zs).getD k 0) k=true→roundB zs=true):=fun k=>roundS_yes ht
 have hN:Hid ((∀i,i<(waysL zs).length→inSetB ((waysL zs).getD i 0) i=false)→roundB zs=false):=roundS_no ht
 have hO:Hid (∀k,k<(waysL zs).length→inSetB ((waysL zs).getD k 0) k=bitB ((waysL zs).getD k 0) k):=fun k hk=>by
  have hw:=web_ways HW.out;have hl:=hw.2.1;have:=hw.1;exact inSetB_bit (okB_range (hw.2.2 k (by omega))) (by omega)
 have hl:(waysL zs).length≤12:=by have hw:=web_ways HW.out;have:=hw.1;have:=hw.2.1;omega
 clear ht;go_enter Tryz.func38,Tryz.ntmps38
 go_wp2_with fail
 refine (l2Ways_any _ _ _ _ h HW.out).mono ?_;rintro e w1 ⟨v1,rfl,r1,k1⟩;rw[HE.out] at r1;clear h HW HE;generalize waysL zs=W at *;obtain⟨a,c,rfl,hr⟩:=r1.rd;clear r1;go_wp2;go_loop [4] (fun i=>∃k:Nat,k≤W.length∧i = .int .i64 k∧∀j:Nat,j<k→inSetB (W.getD j 0) j=false) (fun i=>W.length-(intOf i).toNat)
 case atStart=>exact⟨0,Nat.zero_le _,rfl,fun j hj=>by omega⟩
 case round=>
  obtain⟨k,hk,rfl,hall⟩:=hrel;have HA:Hid (∀j:Nat,j<k→inSetB (W.getD j 0) j=false):=hall;clear hall;by_cases hlt:k<W.length
  ·
   rcases hr with hr|⟨b,o,rfl,hb,hc⟩
   · exfalso;rw[hr] at hlt;simp at hlt
   have d0:=hc k hlt;have HO:Hid (inSetB (W.getD k 0) k=bitB (W.getD k 0) k):=hO.out k hlt;have HY:Hid (inSetB (W.getD k 0) k=true→roundB zs=true):=hY.out k hlt;clear hc hO hY;cases hbit:bitB (W.getD k 0) k
   ·
    have HB:Hid (inSetB (W.getD k 0) k=false):=HO.out.trans hbit;obtain⟨x,hx⟩:∃x,x=W.getD k 0:=⟨_,rfl⟩;have HX:Hid (x=W.getD k 0):=hx;rw[←hx] at d0 hbit;clear hx HY HO;go_wp2_with fail
    refine (l1Has_any _ _ _ (by omega) (by omega)).mono ?_;rintro e w2 ⟨rfl,rfl⟩;go_wp2;go_round
    case rel=>
     refine⟨k+1,by omega,by go_num,fun j hj=>?_⟩;by_cases e:j=k
     · subst e;exact HB.out
     · exact HA.out j (by omega)
    case measure=>simp[intOf];omega
   ·
    have HB:Hid (roundB zs=true):=HY.out (HO.out.trans hbit);clear HY HO;obtain⟨x,hx⟩:∃x,x=W.getD k 0:=⟨_,rfl⟩;have HX:Hid (x=W.getD k 0):=hx;rw[←hx] at d0 hbit;clear hx;go_wp2_with fail
    refine (l1Has_any _ _ _ (by omega) (by omega)).mono ?_;rintro e w2 ⟨rfl,rfl⟩;go_wp2;go_ret;exact⟨ret_bool HB.out.symm,k1⟩
  ·
   go_wp2;go_ret;exact⟨ret_bool (hN.out fun i hi=>HA.out i (by omega)).symm,k1⟩
theorem four_len {n:Nat}{a b c d:List Int}(ha:Web n a)(hb:Web n b)(hc:Web n c)(hd:Web n d):a.length=b.length∧c.length=d.length∧(List.zipWith orI a b).length=(List.zipWith orI c d).length∧a.length≤12∧c.length≤12∧(List.zipWith orI a b).length≤12 ∧
  mixL orI (mixL orI a b) (mixL orI c d)=List.zipWith orI (List.zipWith orI a b) (List.zipWith orI c d):=by
 have h1:=(web_join ha hb).1;have h2:=(web_join hc hd).1;have e:=mixL_web orI h1 h2;rw[mixL_web orI ha hb] at h1 e ⊢;rw[mixL_web orI hc hd] at h2 e ⊢;refine⟨by rw[ha.2.1,hb.2.1],by rw[hc.2.1,hd.2.1],by rw[h1.2.1,h2.2.1],by rw[ha.2.1];exact ha.1,by rw[hc.2.1];exact hc.1,by rw[h1.2.1];exact h1.1,e⟩
theorem l11Web_any (w:World)(v vF vR:Value)(es:List Ev)(f rows:List Int)(h:RdE w v es)(hf:Rd w vF f)(hr:Rd w vR rows)(hn:es.length≤12)(W:Webs es f rows)(hlr:rows.length≤36)(hrw:∀j,j<rows.length→0≤rows.getD j 0∧rows.getD j 0<(es.length:Int))(hl:(idxB rdE es).length≤f.length)(hb:∀i,i<(idxB rdE es).length→0≤f.getD i 0∧f.getD i 0<(es.length:Int)):
  Calls Tryz.prog 39 #[v,.agg #[vF,vR]] w fun e w'=>∃v',e = .returned v'∧Own w' w.heap.size v' (pwL es f rows)∧Keep w w':=by
 have HF:=Lib.hid (four_len (plc_line hn).1 W.fw W.rw' W.ag);have C1:=Lib.hid (fun (U:World) (kU:Keep w U)=>l7Place_any U v es (h.keep kU) hn);have C2:=Lib.hid (fun (U:World) (kU:Keep w U)=>l8Web_any U v vF es f (h.keep kU) (hf.keep kU) hn hl hb);have C3:=Lib.hid (fun (U:World) (kU:Keep w U)=>l9Web_any U v vR es rows (h.keep kU) (hr.keep kU) hn hlr hrw);have C4:=Lib.hid (fun (U:World) (kU:Keep w U)=>l10Against_any U v vF vR es f rows (h.keep kU) (hf.keep kU) (hr.keep kU) hn hlr hrw hl hb);have HE:Hid (pwL es f rows=mixL orI (mixL orI (plcL es) (fwL es f)) (mixL orI (rwL es rows) (agL es f rows))):=Lib.hid rfl;clear hl hb hrw hlr W hn;obtain⟨aF,cF,rfl,-⟩:=hf;obtain⟨aR,cR,rfl,-⟩:=hr;obtain⟨aE,cE',rfl,-⟩:=h;generalize pwL es f rows=PW at HE ⊢;generalize plcL es=L1 at *;generalize fwL es f=L2 at *;generalize rwL es rows=L3 at *;generalize agL es f rows=L4 at *;go_enter Tryz.func39,Tryz.ntmps39
 have b0:(w.alloc (.cells #[.slice aF f.length cF,.slice aR rows.length cR] 31)).cell? ⟨w.heap.size,0,none⟩=some (.slice aF f.length cF):=box_cell (Keep.refl _) 0;have b1:(w.alloc (.cells #[.slice aF f.length cF,.slice aR rows.length cR] 31)).cell? ⟨w.heap.size,1,none⟩=some (.slice aR rows.length cR):=box_cell (Keep.refl _) 1;have K0:Keep w (w.alloc (.cells #[.slice aF f.length cF,.slice aR rows.length cR] 31)).drew:=((Keep.refl w).alloc _).drew;have z0:w.heap.size<(w.alloc (.cells #[.slice aF f.length cF,.slice aR rows.length cR] 31)).drew.heap.size:=by simp
 go_wp2_with fail
 go_region_held3 (fun w'=>w'.cell? ⟨w.heap.size,0,none⟩=some (.slice aF f.length cF)∧w'.cell? ⟨w.heap.size,1,none⟩=some (.slice aR rows.length cR))
  (first|go_keep|(go_split_ands;refine⟨?_,?_⟩<;>(rw[kk.cell (by assumption)];assumption)))
  ((first
   | (go_at_call 66;refine (C1.out _ K0).mono ?_;rintro e w1 ⟨v1,rfl,o1,kk⟩;have z1:w.heap.size<w1.heap.size:=Nat.lt_of_lt_of_le z0 kk.size;have K1:=K0.trans kk;have r1:=o1.rd;clear o1)
   | (go_at_call 52;refine (C2.out _ K1).mono ?_;clear kk;rintro e w2 ⟨v2,rfl,o2,kk⟩;have z2:w.heap.size<w2.heap.size:=Nat.lt_of_lt_of_le z1 kk.size;have K2:=K1.trans kk;have r2:=o2.rd;replace r1:=r1.keep kk;clear o2)
   | (go_at_call 53;refine (C3.out _ K3).mono ?_;clear kk;rintro e w4 ⟨v4,rfl,o4,kk⟩;have z4:w.heap.size<w4.heap.size:=Nat.lt_of_lt_of_le z3 kk.size;have K4:=K3.trans kk;have r4:=o4.rd;replace r3:=r3.keep kk;clear o4)
   | (go_at_call 54;refine (C4.out _ K4).mono ?_;clear kk;rintro e w5 ⟨v5,rfl,o5,kk⟩;have z5:w.heap.size<w5.heap.size:=Nat.lt_of_lt_of_le z4 kk.size;have K5:=K4.trans kk;have r5:=o5.rd;replace r4:=r4.keep kk;replace r3:=r3.keep kk;clear o5)
   | (go_at_call 50;refine (l2Join_any _ _ _ _ _ r1 r2 HF.out.2.2.2.1 HF.out.1).mono ?_;clear kk;rintro e w3 ⟨v3,rfl,o3,kk⟩;have z3:w.heap.size<w3.heap.size:=Nat.lt_of_lt_of_le z2 kk.size;have K3:=K2.trans kk;have r3:=o3.rd;clear o3 r1 r2)
   | (go_at_call 50;refine (l2Join_any _ _ _ _ _ r4 r5 HF.out.2.2.2.2.1 HF.out.2.1).mono ?_;clear kk;rintro e w6 ⟨v6,rfl,o6,kk⟩;have z6:w.heap.size<w6.heap.size:=Nat.lt_of_lt_of_le z5 kk.size;have K6:=K5.trans kk;have r6:=o6.rd;replace r3:=r3.keep kk;clear o6 r4 r5)
   | (go_at_call 50;refine (l2Join_any _ _ _ _ _ r3 r6 HF.out.2.2.2.2.2.1 HF.out.2.2.1).mono ?_;clear kk;rintro e w7 ⟨v7,rfl,o7,kk⟩)))
 all_goals
  go_wp2;go_ret;exact⟨_,rfl,by rw[HE.out,HF.out.2.2.2.2.2.2];exact o7.base_le (by have:=K6.size;omega),K6.trans kk⟩
theorem tale_webs {dss:List (List Dd)}{f rows:List Int}(h:taleB dss f rows=true):Webs (evsW dss dss.length) f rows∧webB (pwL (evsW dss dss.length) f rows)=true:=by
 obtain⟨hb,hs,hr⟩:=tale_use h;have e1:eventsB dss=evsW dss dss.length:=by rw[eventsB,if_pos hb]
 have h12:=(events_law hb).1;rw[e1] at hs hr;have W:=webs_of h12 hs hr;exact⟨W,(web_four (plc_line h12).1 W.fw W.rw' W.ag).1.b⟩
end Go.Proofs.YtgikcfdckddgpabGreat
