/- Gathered texts. -/
import Derived.BigRegion
import Derived.Lib.Hide
import Derived.Deep.QuietTactic
import Derived.BigQuiet
import Derived.Test.YtkmjmnljkidobaaGreatMN
import Derived.Outline
import Derived.RegionTactic
import Derived.Deep.RegionHeld3
import Derived.Deep.AppendLies
import Derived.OwnWalk
import Derived.StillTactics
import Derived.Laws.Pointers
import Derived.Deep.Cut
import Derived.Laws.AppendOwnNone
set_option maxRecDepth 100000
set_option maxHeartbeats 8000000
namespace Go.Proofs.YtkmjmnljkidobaaGreat
open Go.ChangeShapes Go.WideShapes Go.ChangeAt Go.RowKit
theorem made_at (n:Nat):(madeCells (Value.int .i64 0).cells (n*1)).toList=((List.replicate n (0:Int)).map (Value.int .i64)):=by
 rw[Nat.mul_one,List.map_replicate];exact toList_madeCells_one _ _
theorem l8At_any (w:World)(v:Value)(c:List (List Int))(n:Int)(h:RdL w v c)(hl:c.length≤12)(hf:Full c)(h0:0≤n)(h1:n≤8916100448256)(hb:∀i,i<c.length→(c.getD i []).length≤12):
  Calls Tryz.prog 98 #[v,.int .i64 n] w fun e w'=>∃v',e = .returned v'∧Own w' w.heap.size v' (atL c n)∧Keep w w':=by
 obtain⟨a,cc,rfl,h⟩:=h;obtain⟨i0,hi,hz0,hz1,hz2⟩:=info_parts Tryz.infoI;go_enter Tryz.func98,Tryz.ntmps98
 go_wp2_with (at_make;refine wpList_make_full _ rfl _ _ 50 rfl w.heap.size 2 i0 (.int .i64 0) 1 Tryz.underlying50 hi hz0 hz1 .i64 .i64 _ _ c.length rfl rfl rfl rfl (by rw[hz2];omega) (by unfold maxLen;omega) (Nat.le_refl _) ?_;intro w1 hown hgrow)
 rw[made_at] at hown;have k1:Keep w w1:=(Keep.refl w).grown hgrow (by simp)
 have o1:Own w1 w.heap.size (.slice (some ⟨w.heap.size,0,none⟩) c.length c.length) (atF c n 0):=by
  unfold Own atF atK
  simpa using hown
 clear hgrow hown hi hz0 hz1 hz2;have HA:=Lib.hid (atF_all c n);go_loopw [1,6] (fun x i wr=>∃k:Nat,k≤c.length∧x = .int .i64 (atK c n k).1∧i = .int .i64 ((c.length:Int)-1-k)∧0≤(atK c n k).1∧(atK c n k).1≤8916100448256∧Own wr w.heap.size (.slice (some ⟨w.heap.size,0,none⟩) c.length c.length) (atF c n k)∧Keep w wr) (fun _ i _=>(intOf i+1).toNat)
 case atStart=>exact⟨0,Nat.zero_le _,rfl,by go_num,h0,h1,o1,k1⟩
 case round=>
  obtain⟨k,hk,rfl,rfl,x0,x1,ho,hK⟩:=hrel;clear o1 k1;by_cases hlt:k<c.length
  ·
   rcases h with h|⟨b,o,rfl,hbl,hc⟩
   · exfalso;rw[h] at hlt;simp at hlt
   obtain⟨m,hm⟩:∃m:Nat,m=c.length-1-k:=⟨_,rfl⟩;have em:(c.length:Int)-1-(k:Int)=(m:Int):=by omega
   have hml:m<c.length:=by omega
   obtain⟨vi,e1,r1⟩:=hc m hml;have d1:=(hK.cell hbl).trans e1;have r2:=r1.keep hK;have HS:=Lib.hid (atF_step c n k hlt);have HN:Hid ((atK c n (k+1)).1=(atK c n k).1 / (c.getD m []).length):=Lib.hid (by rw[hm];rfl);rw[←hm] at HS;have f1:=hf m hml;have f2:=hb m hml;have hal:=atF_len c n k (by omega);clear hc e1 r1 hb hf;rw[em];have HM:=Lib.hid hm;clear em hm;generalize c.getD m []=zs at *;generalize (atK c n k).1=x at *;generalize atF c n k=S at *;obtain⟨az,cz,rfl,r2⟩:=r2;rcases r2 with h|⟨b2,o2,rfl,hb2,hc2⟩
   · exfalso;rw[h] at f1;simp at f1
   have zl:(0:Int)<(zs.length:Int):=by omega
   have q0:0≤x % (zs.length:Int):=Int.emod_nonneg _ (by omega);have q1:x % (zs.length:Int)<(zs.length:Int):=Int.emod_lt_of_pos _ zl;obtain⟨q,hq⟩:=Int.eq_ofNat_of_zero_le q0;have d2:=hc2 q (by omega);have e1:x.tmod (zs.length:Int)=(q:Int):=by rw[Int.tmod_eq_emod_of_nonneg x0];exact hq
   have e2:x.tdiv (zs.length:Int)=x / (zs.length:Int):=Int.tdiv_eq_ediv_of_nonneg x0;have y0:0≤x / (zs.length:Int):=Int.ediv_nonneg x0 (by omega);have y1:x / (zs.length:Int)≤x:=Int.ediv_le_self _ x0;have hR:=ho.rowAt;have fr:=hR.free m;have hgl:=hR.lt;have c1:=hR.cell (j:=m) (by omega);go_wp2;go_region
   all_goals
    go_wp2;have em:=HM.out;refine⟨⟨k+1,by omega,by rw[HN.out],by congr 1;omega,by rw[HN.out];exact y0,by rw[HN.out];omega,?_,?_⟩,by simp[intOf]⟩
    ·
     rw[HS.out,hq,Int.toNat_natCast,List.getD_eq_getElem?_getD];exact (ho.setAt m _).keep ((Keep.refl _).drew)
    · exact (hK.grown (grown_set wr w.heap.size m _) (by simp)).drew
  ·
   obtain rfl:k=c.length:=by omega
   rw[HA.out] at ho;go_wp2;go_ret;exact⟨_,rfl,ho,hK⟩
theorem made_nil (n:Nat):(madeCells (Value.int .i64 0).cells (n*1)).toList=((List.replicate n (0:Int)).map (Value.int .i64)):=by
 rw[Nat.mul_one,List.map_replicate];exact toList_madeCells_one _ _
theorem l8Web_any (w:World)(v vf:Value)(es:List Ev)(f:List Int)(h:RdE w v es)(hv:Rd w vf f)(hn:es.length≤12)(hl:(idxB rdE es).length≤f.length)(hb:∀i,i<(idxB rdE es).length→0≤f.getD i 0∧f.getD i 0<(es.length:Int)):
  Calls Tryz.prog 99 #[v,vf] w fun e w'=>∃v',e = .returned v'∧Row w' w.heap.size v' (fwL es f)∧Keep w w':=by
 have hE:=h;obtain⟨a,c,rfl,h⟩:=h;obtain⟨i0,hi,hz0,hz1,hz2⟩:=info_parts Tryz.infoI
 have rl:(idxB rdE es).length≤12:=by
  unfold idxB;rw[if_pos hn];have:=idxK_len rdE es es.length;omega
 have rin:∀i,i<(idxB rdE es).length→0≤(idxB rdE es).getD i 0∧(idxB rdE es).getD i 0<(es.length:Int):=by
  intro i hi
  have hm:(idxB rdE es).getD i 0∈idxB rdE es:=by
   rw[List.getD_eq_getElem?_getD,List.getElem?_eq_getElem hi];exact List.getElem_mem hi
  refine idxK_lt rdE es _ _ ?_;unfold idxB at hm ⊢;rw[if_pos hn] at hm ⊢;exact hm
 have HL:Hid (fwL es f=fwK es.length (idxB rdE es) f (idxB rdE es).length):=Lib.hid rfl;go_enter Tryz.func99,Tryz.ntmps99
 go_wp2_with (at_make;refine wpList_make_full _ rfl _ _ 50 rfl w.heap.size 2 i0 (.int .i64 0) 1 Tryz.underlying50 hi hz0 hz1 .i64 .i64 _ _ es.length rfl rfl rfl rfl (by rw[hz2];omega) (by unfold maxLen;omega) (Nat.le_refl _) ?_;intro w1 hown hgrow)
 rw[made_nil] at hown;have k1:Keep w w1:=(Keep.refl w).grown hgrow (by simp)
 have rb:RowAt w1 w.heap.size (fwK es.length (idxB rdE es) f 0):=by
  have o:Own w1 w.heap.size (.slice (some ⟨w.heap.size,0,none⟩) es.length es.length) (List.replicate es.length 0):=by
   unfold Own;simpa using hown
  rcases o.row with ⟨e,_⟩|⟨g,cap,e,_,hr⟩
  · cases e
  ·
   have e1:=congrArg Value.ownBlock e;simp[Value.ownBlock] at e1;rw[e1];exact hr
 clear hgrow hown hi hz0 hz1 hz2;have hlt1:=rb.lt;refine (specReadsOf_any _ _ _ (hE.keep k1) (by omega)).mono ?_;rintro e w2 ⟨vr,rfl,or2,k2⟩;generalize idxB rdE es=rs at rl rin HL or2 hl hb rb;have R2:Rd w2 vr rs:=or2.rd
 have N2:vr.ownBlock=none∨vr.ownBlock≠some w.heap.size:=by
  cases hu:vr.ownBlock with
  |none=>exact .inl rfl
  |some k=>exact .inr (fun e=>by have:=or2.ge k hu;have:=Option.some.inj e;omega)
 have rb2:=rb.keep k2;have K2:=k1.trans k2;have RIN:=Lib.hid rin;have HB:=Lib.hid hb;obtain⟨ar,cr,rfl,-⟩:=id R2;obtain⟨af,cf,rfl,-⟩:=id hv;clear rb k1 k2 or2 rin hb hlt1;go_wp2;go_loopw [7] (fun i wr=>∃k:Nat,k≤rs.length∧i = .int .i64 k∧RowAt wr w.heap.size (fwK es.length rs f k)∧Rd wr (.slice ar rs.length cr) rs∧Keep w wr) (fun i _=>rs.length-(intOf i).toNat)
 case atStart=>exact⟨0,Nat.zero_le _,rfl,rb2,R2,K2⟩
 case round=>
  obtain⟨k,hk,rfl,hr,hR,hK⟩:=hrel;clear rb2 R2 K2;by_cases hlt:k<rs.length
  ·
   obtain⟨r,hr0⟩:=Int.eq_ofNat_of_zero_le (RIN.out k hlt).1;obtain⟨t,ht0⟩:=Int.eq_ofNat_of_zero_le (HB.out k hlt).1;have hre:r<es.length:=by have:=(RIN.out k hlt).2;omega
   have hte:t<es.length:=by have:=(HB.out k hlt).2;omega
   have hW:=(fw_line (n:=es.length) (rs:=rs) (f:=f) hn k (fun i hi=>RIN.out i (by omega)) (fun i hi=>HB.out i (by omega))).1;have hrg:=okB_range (hW.2.2 t hte);have hBl:t<(fwK es.length rs f k).length:=by rw[hW.2.1];exact hte
   have HC:Hid (fwK es.length rs f (k+1)=(fwK es.length rs f k).set t (bits .or .i64 ((fwK es.length rs f k).getD t 0) (wrap64 (2 ^ (r:Int).toNat)))):=Lib.hid (by
    rw[fwK,ht0,hr0,Int.toNat_natCast,gAdd_ok _ _ hrg.1 (by unfold inB;simp;omega)])
   have d1:=hr.cell (j:=t) hBl;have d2:=hr.free t;have hR':=hR;obtain⟨a',c',he',hR'⟩:=hR';simp only[Value.slice.injEq,true_and] at he';obtain⟨rfl,rfl⟩:=he';rcases hR' with h0|⟨br,orr,rfl,hbr,hcr⟩
   · exfalso;rw[h0] at hlt;simp at hlt
   have d3:=hcr k hlt;rw[hr0] at d3;have hF:=hv.keep hK;obtain⟨a2,c2,he2,hF'⟩:=hF;simp only[Value.slice.injEq,true_and] at he2;obtain⟨rfl,rfl⟩:=he2;rcases hF' with h0|⟨bf,off,rfl,hbf,hcf⟩
   · exfalso;rw[h0] at hl;simp only[List.length_nil] at hl;omega
   have d4:=hcf k (by omega);rw[ht0] at d4;clear hcr hcf hr0 ht0 hW hBl;obtain⟨S,hS⟩:∃S,S=fwK es.length rs f k:=⟨_,rfl⟩;rw[←hS] at d1 hr HC hrg;clear hS;obtain⟨x,hx⟩:∃x,x=S.getD t 0:=⟨_,rfl⟩;rw[←hx] at d1 HC hrg;clear hx;have i1:(0:Int)≤(k:Int):=Int.natCast_nonneg _;have i2:(k:Int)<(rs.length:Int):=by omega
   have i3:(k:Int)<(f.length:Int):=by omega
   have j1:(0:Int)≤(r:Int):=Int.natCast_nonneg _;have j2:(r:Int)<(es.length:Int):=by omega
   have j3:(0:Int)≤(t:Int):=Int.natCast_nonneg _;have j4:(t:Int)<(es.length:Int):=by omega
   have j5:(es.length:Int)≤12:=by omega
   go_wp2;go_region
   all_goals
    go_wp2;go_roundw
    case rel=>
     refine⟨k+1,by omega,by go_num,?_,?_,?_⟩
     · rw[HC.out];exact hr.drew.set t _
     · exact (hR.keptR (grown_drew wr (some w.heap.size)) N2).keptR (grown_set _ w.heap.size t _) N2
     · exact (hK.drew).grown (grown_set _ w.heap.size t _) (by simp)
    case measure=>simp[intOf];omega
  ·
   obtain rfl:k=rs.length:=by omega
   go_wp2;go_ret;refine⟨_,rfl,?_,hK⟩;rw[HL.out];have hW:=(fw_line (n:=es.length) (rs:=rs) (f:=f) hn rs.length (fun i hi=>RIN.out i (by omega)) (fun i hi=>HB.out i (by omega))).1;exact .inr ⟨w.heap.size,es.length,by rw[hW.2.1];rfl,Nat.le_refl _,hr⟩
theorem ow_three {es:List Ev}{f:List Int}:∀k:Nat,k≤3→offAll (owP es) es.length (fwL es f) k=fwL es f
 | 0,_=>rfl
 |k+1,h=>by
  rw[offAll,ow_three k (by omega)];exact offIn_none _ _ (fun j _=>by unfold owP;rw[decide_eq_false (show ¬ 3≤k by omega)];rfl)
theorem l12Others_any (w:World)(v vf:Value)(es:List Ev)(f:List Int)(h:RdE w v es)(hv:Rd w vf f)(h3:3≤es.length)(hn:es.length≤12)(HB:Web es.length (fwL es f))(hl:(idxB rdE es).length≤f.length)(hb:∀i,i<(idxB rdE es).length→0≤f.getD i 0∧f.getD i 0<(es.length:Int)):
  Calls Tryz.prog 100 #[v,vf] w fun e w'=>∃v',e = .returned v'∧Row w' w.heap.size v' (owL es f)∧Keep w w':=by
 have HT:=Lib.hid (ow_three (es:=es) (f:=f) 3 (Nat.le_refl _));have r:=h;obtain⟨a,c,rfl,h⟩:=h;go_enter Tryz.func100,Tryz.ntmps100
 go_wp2_with fail
 refine (l8Web_any _ _ _ _ _ r hv hn hl hb).mono ?_;rintro e w1 ⟨v1,rfl,o1,k1⟩;clear r hl hb hv
 obtain⟨G,cap,rfl,hG,hR⟩:∃g cap,v1 = .slice (some ⟨g,0,none⟩) es.length cap∧w.heap.size≤g∧RowAt w1 g (fwL es f):=by
  rcases o1 with ⟨_,e⟩|⟨g,cap,e,hg,hr⟩
  · exact absurd (congrArg List.length e) (by rw[HB.2.1];show ¬es.length=0;omega)
  · exact⟨g,cap,by rw[e,HB.2.1],hg,hr⟩
 clear o1;have HW0:=Lib.hid HB;clear HB;go_wp2;go_loopw [6] (fun i wr=>∃k:Nat,3≤k∧k≤es.length∧i = .int .i64 k∧RowAt wr G (offAll (owP es) es.length (fwL es f) k)∧Keep w wr) (fun i _=>es.length-(intOf i).toNat)
 case atStart=>exact⟨3,Nat.le_refl _,h3,rfl,by rw[HT.out];exact hR,k1⟩
 case round=>
  obtain⟨k,hk3,hk,rfl,hr,hK⟩:=hrel;clear hR k1;by_cases hlt:k<es.length
  ·
   rcases h with h|⟨b,off,rfl,hb,hc⟩
   · exfalso;rw[h] at hlt;simp at hlt
   have AT:=hc k _ (evs_get hlt);have HW:=Lib.hid (web_offAll (p:=owP es) HW0.out k (by omega)).1;have HE:Hid (offIn (owP es) k (offAll (owP es) es.length (fwL es f) k) es.length=offAll (owP es) es.length (fwL es f) (k+1)):=Lib.hid rfl;generalize offAll (owP es) es.length (fwL es f) k=T at *;have HI:Hid (offIn (owP es) k T 3=T):=Lib.hid (offIn_none _ _ (fun j hj=>by unfold owP;rw[decide_eq_false (show ¬ 3≤j by omega)];simp));obtain⟨wo,rfl⟩:∃wo:World,wo=wr:=⟨_,rfl⟩;have i1:(0:Int)≤(k:Int):=Int.natCast_nonneg _;have i2:(k:Int)<(es.length:Int):=by omega
   go_wp2;go_loopw [7] (fun i wr=>∃m:Nat,3≤m∧m≤es.length∧i = .int .i64 m∧RowAt wr G (offIn (owP es) k T m)∧Keep w wr) (fun i _=>es.length-(intOf i).toNat)
   case atStart=>exact⟨3,Nat.le_refl _,h3,rfl,by rw[HI.out];exact hr,hK⟩
   case round=>
    clear hr hK;obtain⟨m,hm3,hm,rfl,hr,hK⟩:=hrel;by_cases hml:m<es.length
    ·
     have AK:=AT.keep hb hK;have AM:=(hc m _ (evs_get hml)).keep hb hK;have hbw:b<wr.heap.size:=Nat.lt_of_lt_of_le hb hK.size;have hB:=(web_offIn (p:=owP es) hlt HW.out m hm).1;have hBl:k<(offIn (owP es) k T m).length:=by rw[hB.2.1];exact hlt
     clear hB AT hc;have HP:Hid (owP es k m=((es.getD k zE).1==(es.getD m zE).1)):=Lib.hid (by unfold owP;rw[decide_eq_true hk3,decide_eq_true hm3];rfl);obtain⟨e,he⟩:∃e,e=es.getD k zE:=⟨_,rfl⟩;rw[←he] at AK HP;clear he;obtain⟨d,hd⟩:∃d,d=es.getD m zE:=⟨_,rfl⟩;rw[←hd] at AM HP;clear hd;obtain⟨x0,x1,x2,x3,x4,x5⟩:=e;obtain⟨y0,y1,y2,y3,y4,y5⟩:=d;obtain⟨A3,-,-,-,-,-⟩:=atE AK;obtain⟨B3,-,-,-,-,-⟩:=atE AM;clear AK AM;have j1:(0:Int)≤(m:Int):=Int.natCast_nonneg _;have j2:(m:Int)<(es.length:Int):=by omega
     have j3:(es.length:Int)≤12:=by omega
     have HH:owP es k m=true→Hid (offIn (owP es) k T (m+1)=(offIn (owP es) k T m).set k (bits .andNot .i64 ((offIn (owP es) k T m).getD k 0) (wrap64 (2 ^ (m:Int).toNat)))):=fun hp=>Lib.hid (offIn_hit T hp)
     have HM:owP es k m=false→Hid (offIn (owP es) k T (m+1)=offIn (owP es) k T m):=fun hp=>Lib.hid (offIn_miss T hp)
     have d1:=hr.cell (j:=k) hBl;have d2:=hr.free k;have hGl:=hr.lt;obtain⟨S,hS⟩:∃S,S=offIn (owP es) k T m:=⟨_,rfl⟩;rw[←hS] at d1 hr HH HM;clear hS hBl;obtain⟨x,hx⟩:∃x,x=S.getD k 0:=⟨_,rfl⟩;rw[←hx] at d1 HH;clear hx;by_cases xy:x0=y0
     ·
      subst xy;have HE1:=HH (by rw[HP.out];simp);clear HH HM HP;go_wp2;go_quiet (fail)
      go_wp2;go_roundw;case rel=>exact⟨m+1,by omega,by omega,by go_num,by rw[HE1.out];exact (hr.drewN _).set k _,(hK.grown (grown_draw wr _ none) (by simp)).grown (grown_set _ G k _) (by simp;exact hG)⟩
      case measure=>simp[intOf];omega
     ·
      have xb:(x0==y0)=false:=by simp[xy]
      have HE1:=HM (by rw[HP.out];exact xb);clear HH HM HP d1 d2;go_wp2;go_quiet (fail)
      go_wp2;go_roundw;case rel=>exact⟨m+1,by omega,by omega,by go_num,by rw[HE1.out];exact hr.drewN _,hK.grown (grown_draw wr _ none) (by simp)⟩
      case measure=>simp[intOf];omega
    ·
     obtain rfl:m=es.length:=by omega
     go_wp2;go_roundw;case rel=>exact⟨k+1,by omega,by omega,by go_num,by rw[←HE.out];exact hr,hK⟩
     case measure=>simp[intOf];omega
  ·
   obtain rfl:k=es.length:=by omega
   have HL:=(web_offAll (p:=owP es) HW0.out es.length (Nat.le_refl _)).1.2.1;go_wp2;go_ret;exact⟨_,rfl,row_new hr hG HL,hK⟩
theorem zip_stepJ {a b:List Int}{k:Nat}(ha:k<a.length)(hb:k<b.length):(List.zipWith orI a b).take (k+1)=(List.zipWith orI a b).take k++[orI (a.getD k 0) (b.getD k 0)]:=by
 have hz:k<(List.zipWith orI a b).length:=by rw[List.length_zipWith];omega
 rw[List.take_succ_eq_append_getElem hz,List.getElem_zipWith,List.getD_eq_getElem?_getD,List.getD_eq_getElem?_getD,List.getElem?_eq_getElem ha,List.getElem?_eq_getElem hb];rfl
theorem l2Join_any (w:World)(v1 v2:Value)(xs ys:List Int)(h1:Rd w v1 xs)(h2:Rd w v2 ys)(n1:xs.length≤12)(hl:xs.length=ys.length):
  Calls Tryz.prog 102 #[v1,v2] w fun e w'=>∃v',e = .returned v'∧Own w' w.heap.size v' (List.zipWith orI xs ys)∧Keep w w':=by
 have r1:=h1;have r2:=h2;obtain⟨a1,c1,rfl,h1⟩:=h1;obtain⟨a2,c2,rfl,h2⟩:=h2;have hl1:xs.length≤ys.length:=by omega
 have hl2:ys.length≤xs.length:=by omega
 clear hl;have hown0:Own (w.alloc (.cells #[] 2)) w.heap.size (.slice (some ⟨w.heap.size,0,none⟩) 0 0) []:=World.ownsRow_lit w #[] 0 (Nat.le_refl _) (by decide) rfl;obtain⟨i0,hi,hz0,hz1,hz2⟩:=info_parts Tryz.infoI;go_enter Tryz.func102,Tryz.ntmps102
 go_wp2;go_loopw [5,6] (fun v0 i wr=>∃(v:Value) (k:Nat),v=v0∧k≤xs.length∧i = .int .i64 k∧Own wr w.heap.size v ((List.zipWith orI xs ys).take k)∧Keep w wr) (fun _ i _=>xs.length-(intOf i).toNat)
 case atStart=>exact⟨_,0,rfl,Nat.zero_le _,rfl,hown0,(Keep.refl _).alloc _⟩
 case round=>
  obtain⟨v,k,rfl,hk,rfl,ho,hK⟩:=hrel;clear hown0;by_cases hlt:k<xs.length
  ·
   rcases h1 with h|⟨b1,o1,rfl,hb1,hc1⟩
   · exfalso;rw[h] at hlt;simp at hlt
   have hlt2:k<ys.length:=by omega
   rcases h2 with h|⟨b2,o2,rfl,hb2,hc2⟩
   · exfalso;rw[h] at hlt2;simp at hlt2
   have d1:=(hK.cell hb1).trans (hc1 k hlt);have d2:=(hK.cell hb2).trans (hc2 k hlt2);have HZ:Hid ((List.zipWith orI xs ys).take (k+1)=(List.zipWith orI xs ys).take k++[orI (xs.getD k 0) (ys.getD k 0)]):=zip_stepJ hlt hlt2;have hLl:((List.zipWith orI xs ys).take k).length≤12:=by rw[List.length_take,List.length_zipWith];omega
   have ag1:=ho.ge b1;have ag2:=ho.ge b2;have hsz:=hK.size;have rr1:=r1.keep hK;have rr2:=r2.keep hK;clear hc1 hc2;generalize xs.getD k 0=p at *;generalize ys.getD k 0=q at *;generalize (List.zipWith orI xs ys).take k=L at *;have an1:v.ownBlock≠some b1:=fun e=>by have:=ag1 e;omega
   have an2:v.ownBlock≠some b2:=fun e=>by have:=ag2 e;omega
   clear ag1 ag2;have i1:(0:Int)≤(k:Int):=Int.natCast_nonneg _;have i2:(k:Int)<(xs.length:Int):=by omega
   have i3:(k:Int)<(ys.length:Int):=by omega
   have m1:L.length+1≤maxLen:=by unfold maxLen;omega
   have m2:(L.length+1)*8≤140737488355328:=by omega
   go_wp2_with fail
   go_region_held3 (fun w'=>w'.cell? ⟨b1,o1+k,none⟩=some (.int .i64 p)∧w'.cell? ⟨b2,o2+k,none⟩=some (.int .i64 q))
    (first
     |go_keep
     | (go_split_ands;exact⟨by (rw[hgrow.cell_far _ (by simp;omega) (Ne.symm an1)];assumption),by (rw[hgrow.cell_far _ (by simp;omega) (Ne.symm an2)];assumption)⟩))
    ((refine step_append_lies _ (by rfl) _ _ _ (by rfl) w.heap.size 2 i0 _ 1 8 Tryz.underlying50 hi hz0 hz1 hz2 rfl (by omega) v L.length (L.map (Value.int .i64)) (by rfl) ((World.ownsRow.alloc ho _).drew) ⟨wr.heap.size,0,none⟩ 1 1 [.int .i64 (orI p q)] (by rfl) (by rfl) (World.news_of_block (cs:=#[.int .i64 (orI p q)]) (t:=2) (fr:=(0,0)) (heap_alloc_new wr _)) (by simp[Value.oneCell']) (by omega) m1 m2 (by simp;omega) (wr.heap.size+1) (by simp) ?_;intro gg cap w1 hown1 hgrow hat hlt1))
   have k1:Keep w w1:=((hK.alloc _).drew).grown hgrow ho.ge;have o1':=own_hit hown1;clear hgrow hown1 hat;go_wp2;go_roundw;case rel=>exact⟨_,k+1,rfl,by omega,by go_num,by rw[HZ.out];exact o1',k1⟩
   case measure=>simp[intOf];omega
  ·
   obtain rfl:k=xs.length:=by omega
   go_wp2;go_ret;refine⟨_,rfl,?_,hK⟩;rw[List.take_of_length_le (by rw[List.length_zipWith];omega)] at ho;exact ho
theorem made_rw (n:Nat):(madeCells (Value.int .i64 0).cells (n*1)).toList=((List.replicate n (0:Int)).map (Value.int .i64)):=by
 rw[Nat.mul_one,List.map_replicate];exact toList_madeCells_one _ _
theorem l9Web_any (w:World)(v vf:Value)(es:List Ev)(rows:List Int)(h:RdE w v es)(hf:Rd w vf rows)(hn:es.length≤12)(hl:rows.length≤36)(hr:∀j,j<rows.length→0≤rows.getD j 0∧rows.getD j 0<(es.length:Int)):
  Calls Tryz.prog 103 #[v,vf] w fun e w'=>∃v',e = .returned v'∧Row w' w.heap.size v' (rwL es rows)∧Keep w w':=by
 obtain⟨a,c,rfl,h⟩:=h;obtain⟨af,cf,rfl,hf⟩:=hf;obtain⟨i0,hi,hz0,hz1,hz2⟩:=info_parts Tryz.infoI;go_enter Tryz.func103,Tryz.ntmps103
 go_wp2_with (at_make;refine wpList_make_full _ rfl _ _ 50 rfl w.heap.size 2 i0 (.int .i64 0) 1 Tryz.underlying50 hi hz0 hz1 .i64 .i64 _ _ es.length rfl rfl rfl rfl (by rw[hz2];omega) (by unfold maxLen;omega) (Nat.le_refl _) ?_;intro w1 hown hgrow)
 rw[made_rw] at hown;have k1:Keep w w1:=(Keep.refl w).grown hgrow (by simp)
 have rb:RowAt w1 w.heap.size (rwAll es rows 0):=by
  have o:Own w1 w.heap.size (.slice (some ⟨w.heap.size,0,none⟩) es.length es.length) (List.replicate es.length 0):=by
   unfold Own;simpa using hown
  rcases o.row with ⟨e,_⟩|⟨g,cap,e,_,hr⟩
  · cases e
  ·
   have e1:=congrArg Value.ownBlock e;simp[Value.ownBlock] at e1;rw[e1];exact hr
 clear hgrow hown hi hz0 hz1 hz2;have HR:=Lib.hid hr;clear hr;go_loopw [6] (fun i wr=>∃k:Nat,k≤rows.length∧i = .int .i64 k∧RowAt wr w.heap.size (rwAll es rows k)∧Keep w wr) (fun i _=>rows.length-(intOf i).toNat)
 case atStart=>exact⟨0,Nat.zero_le _,rfl,rb,k1⟩
 case round=>
  obtain⟨k,hk,rfl,hw,hK⟩:=hrel;clear rb k1;by_cases hlt:k<rows.length
  ·
   rcases hf with h0|⟨bf,of',rfl,hbf,hcf⟩
   · exfalso;rw[h0] at hlt;simp at hlt
   obtain⟨r0,r1⟩:=HR.out k hlt;rcases h with h0|⟨b,off,rfl,hb,hc⟩
   · exfalso;rw[h0] at r1;simp only[List.length_nil] at r1;omega
   obtain⟨x,hx⟩:=Int.eq_ofNat_of_zero_le r0;have hxl:x<es.length:=by omega
   have HW:=Lib.hid (web_rwAll hn HR.out k (by omega)).1;have HE:Hid (rwIn es rows k (rwAll es rows k) rows.length=rwAll es rows (k+1)):=Lib.hid rfl;generalize rwAll es rows k=T at *;obtain⟨wo,rfl⟩:∃wo:World,wo=wr:=⟨_,rfl⟩;have i1:(0:Int)≤(k:Int):=Int.natCast_nonneg _;have i2:(k:Int)<(rows.length:Int):=by omega
   have i0:(rows.length:Int)≤36:=by omega
   have HST:Hid (rwIn es rows k T (k+1)=T):=Lib.hid (rwIn_none T _ (fun j hj=>rwP_up (by omega)));have HC:=Lib.hid hc;have HCF:=Lib.hid hcf;have HX:=Lib.hid hx;clear hc hcf hx r0 r1;go_wp2;go_loopw [7] (fun i wr=>∃m:Nat,k+1≤m∧m≤rows.length∧i = .int .i64 m∧RowAt wr w.heap.size (rwIn es rows k T m)∧Keep w wr) (fun i _=>rows.length-(intOf i).toNat)
   case atStart=>exact⟨k+1,Nat.le_refl _,by omega,by go_num,by rw[HST.out];exact hw,hK⟩
   case round=>
    clear hw hK HST;obtain⟨m,hkm,hm,rfl,hw,hK⟩:=hrel;by_cases hml:m<rows.length
    ·
     obtain⟨y,hy⟩:=Int.eq_ofNat_of_zero_le (HR.out m hml).1;have hyl:y<es.length:=by have:=(HR.out m hml).2;omega
     have d1:=(hK.cell hbf).trans (HCF.out k hlt);have d2:=(hK.cell hbf).trans (HCF.out m hml);have hxx:=HX.out;rw[hxx] at d1;rw[hy] at d2;have AX:=(HC.out x _ (evs_get hxl)).keep hb hK;have AY:=(HC.out y _ (evs_get hyl)).keep hb hK;have hB:=(web_rwIn (es:=es) HR.out hlt HW.out m hm).1;have hrg:=okB_range (hB.2.2 x hxl);have hBl:x<(rwIn es rows k T m).length:=by rw[hB.2.1];exact hxl
     have HP:Hid (rwP es rows k m=((es.getD x zE).2.2.2.1==(es.getD y zE).2.2.2.1)):=Lib.hid (by
      unfold rwP plE
      rw[decide_eq_true (show k<m by omega),Bool.true_and,hxx,hy,Int.toNat_natCast,Int.toNat_natCast])
     have HH:rwP es rows k m=true→Hid (rwIn es rows k T (m+1)=(rwIn es rows k T m).set x (bits .or .i64 ((rwIn es rows k T m).getD x 0) (wrap64 (2 ^ (y:Int).toNat)))):=fun hp=>Lib.hid (by
      rw[rwIn_hit T hp,hxx,hy,Int.toNat_natCast,gAdd_ok _ _ hrg.1 (by unfold inB;simp;omega)])
     have HM:rwP es rows k m=false→Hid (rwIn es rows k T (m+1)=rwIn es rows k T m):=fun hp=>Lib.hid (rwIn_miss T hp)
     clear hB hxx hy;obtain⟨e,he⟩:∃e,e=es.getD x zE:=⟨_,rfl⟩;rw[←he] at AX HP;clear he;obtain⟨d,hd⟩:∃d,d=es.getD y zE:=⟨_,rfl⟩;rw[←hd] at AY HP;clear hd;obtain⟨x0,x1,x2,x3,x4,x5⟩:=e;obtain⟨y0,y1,y2,y3,y4,y5⟩:=d;obtain⟨-,-,-,A3,-,-⟩:=atE AX;obtain⟨-,-,-,B3,-,-⟩:=atE AY;clear AX AY;simp only at HP;have j1:(0:Int)≤(m:Int):=Int.natCast_nonneg _;have j2:(m:Int)<(rows.length:Int):=by omega
     have j3:(0:Int)≤(x:Int):=Int.natCast_nonneg _;have j4:(x:Int)<(es.length:Int):=by omega
     have j5:(0:Int)≤(y:Int):=Int.natCast_nonneg _;have j6:(y:Int)<(es.length:Int):=by omega
     have j7:(es.length:Int)≤12:=by omega
     have c1:=hw.cell (j:=x) hBl;have c2:=hw.free x;have hGl:=hw.lt;have hbw:b<wr.heap.size:=Nat.lt_of_lt_of_le hb hK.size;have hbfw:bf<wr.heap.size:=Nat.lt_of_lt_of_le hbf hK.size;obtain⟨S,hS⟩:∃S,S=rwIn es rows k T m:=⟨_,rfl⟩;rw[←hS] at c1 hw HH HM hrg;clear hS hBl;obtain⟨z,hz⟩:∃z,z=S.getD x 0:=⟨_,rfl⟩;rw[←hz] at c1 HH hrg;clear hz;by_cases xy:x3=y3
     ·
      subst xy;have HE1:=HH (by rw[HP.out];simp);clear HH HM HP;go_wp2;go_quiet (fail)
      go_wp2;go_region
      all_goals
       go_wp2;refine⟨⟨m+1,by omega,by omega,by go_num,?_,?_⟩,by simp[intOf];omega⟩
       ·
        rw[HE1.out];exact (hw.drewN _).set x _
       · exact (hK.grown (grown_draw wr _ none) (by simp)).grown (grown_set _ w.heap.size x _) (by simp)
     ·
      have xb:(x3==y3)=false:=by simp[xy]
      have HE1:=HM (by rw[HP.out];exact xb);clear HH HM HP xy c1 c2;go_wp2;go_quiet (fail)
      go_wp2;go_roundw;case rel=>exact⟨m+1,by omega,by omega,by go_num,by rw[HE1.out];exact hw.drewN _,hK.grown (grown_draw wr _ none) (by simp)⟩
      case measure=>simp[intOf];omega
    ·
     obtain rfl:m=rows.length:=by omega
     go_wp2;go_roundw;case rel=>exact⟨k+1,by omega,by go_num,by rw[←HE.out];exact hw,hK⟩
     case measure=>simp[intOf];omega
  ·
   obtain rfl:k=rows.length:=by omega
   have HL:=(web_rwAll hn HR.out rows.length (Nat.le_refl _)).1.2.1;go_wp2;go_ret;exact⟨_,rfl,row_new hw (Nat.le_refl _) HL,hK⟩
theorem l10Against_any (w:World)(v vF vR:Value)(es:List Ev)(f rows:List Int)(h:RdE w v es)(hf:Rd w vF f)(hr:Rd w vR rows)(hn:es.length≤12)(hlr:rows.length≤36)(hrw:∀j,j<rows.length→0≤rows.getD j 0∧rows.getD j 0<(es.length:Int))(hl:(idxB rdE es).length≤f.length)(hb:∀i,i<(idxB rdE es).length→0≤f.getD i 0∧f.getD i 0<(es.length:Int)):
  Calls Tryz.prog 104 #[v,.agg #[vF,vR]] w fun e w'=>∃v',e = .returned v'∧Row w' w.heap.size v' (agL es f rows)∧Keep w w':=by
 have hE:=h;obtain⟨a,c,rfl,-⟩:=id h;obtain⟨aF,cF,rfl,-⟩:=id hf;obtain⟨aR,cR,rfl,-⟩:=id hr;obtain⟨i0,hi,hz0,hz1,hz2⟩:=info_parts Tryz.infoI
 have rl:(idxB rdE es).length≤12:=by
  unfold idxB;rw[if_pos hn];have:=idxK_len rdE es es.length;omega
 have rin:∀i,i<(idxB rdE es).length→0≤(idxB rdE es).getD i 0∧(idxB rdE es).getD i 0<(es.length:Int):=by
  intro i hi
  have hm:(idxB rdE es).getD i 0∈idxB rdE es:=by
   rw[List.getD_eq_getElem?_getD,List.getElem?_eq_getElem hi];exact List.getElem_mem hi
  refine idxK_lt rdE es _ _ ?_;unfold idxB at hm ⊢;rw[if_pos hn] at hm ⊢;exact hm
 have HL:Hid (agL es f rows=agK es.length (idxB rdE es) f (rwL es rows) (idxB rdE es).length):=Lib.hid rfl;have HWL:Hid ((rwL es rows).length=es.length):=Lib.hid (web_rwAll hn hrw rows.length (Nat.le_refl _)).1.2.1;go_enter Tryz.func104,Tryz.ntmps104
 go_upto_region 1 with fail
 obtain⟨wB,hwB⟩:∃W:World,W=w.alloc (.cells #[.slice aF f.length cF,.slice aR rows.length cR] 52):=⟨_,rfl⟩;have kB:Keep w wB:=by rw[hwB];exact (Keep.refl w).alloc _
 have sB:wB.heap.size=w.heap.size+1:=by rw[hwB];exact heap_size _ _
 have b0:wB.cell? ⟨w.heap.size,0,none⟩=some (.slice aF f.length cF):=by rw[hwB];exact box_cell (Keep.refl _) 0
 have b1:wB.cell? ⟨w.heap.size,1,none⟩=some (.slice aR rows.length cR):=by rw[hwB];exact box_cell (Keep.refl _) 1
 rw[←hwB];clear hwB;have SB:=Lib.hid sB;have lB:w.heap.size<wB.heap.size:=by omega
 clear sB;go_wp2_with (at_make;refine wpList_make_full _ rfl _ _ 50 rfl wB.heap.size 2 i0 (.int .i64 0) 1 Tryz.underlying50 hi hz0 hz1 .i64 .i64 _ _ es.length rfl rfl rfl rfl (by rw[hz2];omega) (by unfold maxLen;omega) (Nat.le_refl _) ?_;intro w1 hown hgrow;have k1:Keep wB w1:=(Keep.refl wB).grown hgrow (by simp);have d1:=(k1.cell lB).trans b1)
 rw[made_rw] at hown
 have rb:RowAt w1 wB.heap.size (agK es.length (idxB rdE es) f (rwL es rows) 0):=by
  have o:Own w1 wB.heap.size (.slice (some ⟨wB.heap.size,0,none⟩) es.length es.length) (List.replicate es.length 0):=by
   unfold Own;simpa using hown
  rcases o.row with ⟨e,_⟩|⟨g,cap,e,_,hr⟩
  · cases e
  ·
   have e1:=congrArg Value.ownBlock e;simp[Value.ownBlock] at e1;rw[e1];exact hr
 clear hgrow hown hi hz0 hz1 hz2;have hlt1:=rb.lt;refine (l9Web_any _ _ _ _ _ (hE.keep (kB.trans k1)) (hr.keep (kB.trans k1)) hn hlr hrw).mono ?_;rintro e w2 ⟨vw,rfl,ow,k2⟩;clear d1
 have NW:vw.ownBlock=none∨vw.ownBlock≠some wB.heap.size:=by
  cases hu:vw.ownBlock with
  |none=>exact .inl rfl
  |some k=>exact .inr (fun e=>by have:=ow.ge k hu;have:=Option.some.inj e;omega)
 have K2:=k1.trans k2;go_wp2_with fail
 refine (specReadsOf_any _ _ _ (hE.keep (kB.trans K2)) (by omega)).mono ?_;rintro e w3 ⟨vr,rfl,or2,k3⟩;have hlt2:wB.heap.size<w2.heap.size:=Nat.lt_of_lt_of_le hlt1 k2.size;have W3:Rd w3 vw (rwL es rows):=ow.rd.keep k3;generalize idxB rdE es=rs at rl rin HL or2 hl hb rb;generalize rwL es rows=rw' at HL HWL W3 rb ow;have R3:Rd w3 vr rs:=or2.rd
 have NR:vr.ownBlock=none∨vr.ownBlock≠some wB.heap.size:=by
  cases hu:vr.ownBlock with
  |none=>exact .inl rfl
  |some k=>exact .inr (fun e=>by have:=or2.ge k hu;have:=Option.some.inj e;omega)
 have rb3:=(rb.keep k2).keep k3;have K3:=K2.trans k3;have RIN:=Lib.hid rin;have HB:=Lib.hid hb;have HF:=Lib.hid hf;obtain⟨ar,cr,rfl,-⟩:=id R3;obtain⟨aw,cw,rfl,-⟩:=id W3;clear rb k1 k2 k3 K2 or2 ow rin hb hlt1 hlt2 hf hr hE h;go_wp2;go_loopw [8] (fun i wr=>∃k:Nat,k≤rs.length∧i = .int .i64 k∧RowAt wr wB.heap.size (agK es.length rs f rw' k)∧Rd wr (.slice ar rs.length cr) rs∧Rd wr (.slice aw rw'.length cw) rw'∧Keep wB wr) (fun i _=>rs.length-(intOf i).toNat)
 case atStart=>exact⟨0,Nat.zero_le _,rfl,rb3,R3,W3,K3⟩
 case round=>
  obtain⟨k,hk,rfl,hr,hR,hW,hK⟩:=hrel;clear rb3 R3 W3 K3;by_cases hlt:k<rs.length
  ·
   obtain⟨r,hr0⟩:=Int.eq_ofNat_of_zero_le (RIN.out k hlt).1;obtain⟨t,ht0⟩:=Int.eq_ofNat_of_zero_le (HB.out k hlt).1;have hre:r<es.length:=by have:=(RIN.out k hlt).2;omega
   have hte:t<rw'.length:=by have:=(HB.out k hlt).2;have:=HWL.out;omega
   have HC:Hid (agK es.length rs f rw' (k+1)=(agK es.length rs f rw' k).set r (rw'.getD t 0)):=Lib.hid (by
    rw[agK,ht0,hr0,Int.toNat_natCast,Int.toNat_natCast])
   have d2:=hr.free r;have d7:=hr.cell (j:=r) (by rw[agK_len];exact hre);have d5:=(hK.cell lB).trans b0;have hR':=hR;obtain⟨a',c',he',hR'⟩:=hR';simp only[Value.slice.injEq,true_and] at he';obtain⟨rfl,rfl⟩:=he';rcases hR' with h0|⟨br,orr,rfl,hbr,hcr⟩
   · exfalso;rw[h0] at hlt;simp at hlt
   have d3:=hcr k hlt;rw[hr0] at d3;have hF:=(HF.out.keep kB).keep hK;obtain⟨a2,c2,he2,hF'⟩:=hF;simp only[Value.slice.injEq,true_and] at he2;obtain⟨rfl,rfl⟩:=he2;rcases hF' with h0|⟨bf,off,rfl,hbf,hcf⟩
   · exfalso;rw[h0] at hl;simp only[List.length_nil] at hl;omega
   have d4:=hcf k (by omega);rw[ht0] at d4;have hW':=hW;obtain⟨a3,c3,he3,hW'⟩:=hW';simp only[Value.slice.injEq,true_and] at he3;obtain⟨rfl,rfl⟩:=he3;rcases hW' with h0|⟨bw,oww,rfl,hbw,hcw⟩
   · exfalso;rw[h0] at hte;simp at hte
   have d6:=hcw t hte;clear hcr hcf hcw hr0 ht0;obtain⟨S,hS⟩:∃S,S=agK es.length rs f rw' k:=⟨_,rfl⟩;rw[←hS] at hr HC d7;clear hS;obtain⟨x,hx⟩:∃x,x=rw'.getD t 0:=⟨_,rfl⟩;rw[←hx] at d6 HC;clear hx;have i1:(0:Int)≤(k:Int):=Int.natCast_nonneg _;have i2:(k:Int)<(rs.length:Int):=by omega
   have i3:(k:Int)<(f.length:Int):=by omega
   have j1:(0:Int)≤(r:Int):=Int.natCast_nonneg _;have j2:(r:Int)<(es.length:Int):=by omega
   have j3:(0:Int)≤(t:Int):=Int.natCast_nonneg _;have j4:(t:Int)<(rw'.length:Int):=by omega
   have j5:(es.length:Int)≤12:=by omega
   go_wp2;go_region
   all_goals
    go_wp2;go_roundw
    case rel=>
     refine⟨k+1,by omega,by go_num,?_,?_,?_,?_⟩
     · rw[HC.out];exact hr.drew.set r _
     · exact (hR.keptR (grown_drew wr (some wB.heap.size)) NR).keptR (grown_set _ wB.heap.size r _) NR
     · exact (hW.keptR (grown_drew wr (some wB.heap.size)) NW).keptR (grown_set _ wB.heap.size r _) NW
     · exact (hK.drew).grown (grown_set _ wB.heap.size r _) (by simp)
    case measure=>simp[intOf];omega
  ·
   obtain rfl:k=rs.length:=by omega
   go_wp2;go_ret;refine⟨_,rfl,?_,kB.trans hK⟩;rw[HL.out];exact row_new hr (by have:=SB.out;omega) (agK_len _ _ _ _ _)
theorem l1Copy_any (w:World)(base:Nat)(v:Value)(zs:List Int)(h:Row w base v zs)(hn:zs.length≤1048576):
  Calls Tryz.prog 195 #[v] w fun e w'=>∃v',e = .returned v'∧Own w' w.heap.size v' zs∧Keep w w':=by
 have ho:Own (w.alloc (.cells #[] 2)) w.heap.size (.slice (some ⟨w.heap.size,0,none⟩) 0 0) []:=World.ownsRow_lit w #[] 0 (Nat.le_refl _) (by decide) rfl;have hK:Keep w (w.alloc (.cells #[] 2)):=(Keep.refl w).alloc _;obtain⟨i0,hi,hz0,hz1,hz2⟩:=info_parts Tryz.infoI;rcases h with ⟨rfl,rfl⟩|⟨g,cap,rfl,hg,hr⟩
 ·
  go_enter Tryz.func195,Tryz.ntmps195
  go_wp2_with (at_builtin;refine wpList_append_own_none rfl _ _ 50 rfl w.heap.size 2 i0 1 Tryz.underlying50 hi _ _ _ rfl ho rfl ?_)
  go_wp2;go_ret;exact⟨_,rfl,ho,hK⟩
 ·
  go_enter Tryz.func195,Tryz.ntmps195
  go_wp2_with (at_builtin;refine wpList_append_own _ rfl _ _ 50 rfl w.heap.size 2 i0 (.int .i64 0) 1 8 Tryz.underlying50 hi hz0 hz1 hz2 rfl (by decide) _ _ _ rfl ho ⟨g,0,none⟩ zs.length cap (zs.map (Value.int .i64)) rfl (by simp) ?c1 ?c2 ?c3 ?c4 ?c5 ?_)
  case c1=>
   intro j u hj;rw[List.getElem?_map] at hj
   have hjl:j<zs.length:=by
    apply Classical.byContradiction;intro hno;rw[List.getElem?_eq_none (by omega)] at hj;cases hj
   have e1:(⟨g,0,none⟩:Addr).add j=⟨g,j,none⟩:=by unfold Addr.add;split<;>simp_all
   rw[e1,hK.cell hr.lt,hr.cell hjl,List.getD_eq_getElem?_getD];rw[List.getElem?_eq_getElem hjl] at hj ⊢
   simpa using hj
  case c2=>
   intro u hu;obtain⟨y,_,rfl⟩:=List.mem_map.1 hu;rfl
  case c3=>simp;unfold maxLen;omega
  case c4=>simp;omega
  case c5=>simp
  intro v' w1 hown' hgrow _;have k1:Keep w w1:=hK.grown hgrow ho.ge;have o1:Own w1 w.heap.size v' zs:=by unfold Own;simpa using hown'
  clear hgrow hown';go_wp2;go_ret;exact⟨_,rfl,o1,k1⟩
theorem wayS_hit (k:Nat)(st:List Int)(i:Nat)(h:inSetB ((wayIn k st i).getD i 0) k=true):wayIn k st (i+1)=(wayIn k st i).set i (orI ((wayIn k st i).getD i 0) ((wayIn k st i).getD k 0)):=by
 conv=>lhs;unfold wayIn
 rw[if_pos h]
theorem wayS_miss (k:Nat)(st:List Int)(i:Nat)(h:inSetB ((wayIn k st i).getD i 0) k=false):wayIn k st (i+1)=wayIn k st i:=by
 conv=>lhs;unfold wayIn
 rw[h];rfl
theorem l2Ways_any (w:World)(base:Nat)(v:Value)(zs:List Int)(h:Row w base v zs)(ht:Web zs.length zs):
  Calls Tryz.prog 176 #[v] w fun e w'=>∃v',e = .returned v'∧Row w' w.heap.size v' (wayAll zs zs.length)∧Keep w w':=by
 have hz12:=ht.1;have HX:Hid (Web zs.length zs):=ht;clear ht;go_enter Tryz.func176,Tryz.ntmps176
 go_wp2_with fail
 refine (l1Copy_any _ _ _ _ h (by omega)).mono ?_;rintro e w1 ⟨vo,rfl,oo,k1⟩;clear h;have hrow:=oo.row;clear oo;rcases hrow with ⟨rfl,hnil⟩|⟨g,cap,rfl,hg,rb⟩
 ·
  subst hnil;go_wp2;refine wp_loop_rounds 1 ?_;rw[rounds_succ];go_wp2;go_ret;exact⟨_,rfl,.inl ⟨rfl,rfl⟩,k1⟩
 ·
  go_wp2_with fail
  go_loopw [4] (fun i wr=>∃k:Nat,k≤zs.length∧i = .int .i64 k∧RowAt wr g (wayAll zs k)∧Keep w wr) (fun i _=>zs.length-(intOf i).toNat)
  case atStart=>exact⟨0,Nat.zero_le _,rfl,rb,k1⟩
  case round=>
   obtain⟨k,hk,rfl,hr,hK⟩:=hrel;clear rb k1;by_cases hlt:k<zs.length
   ·
    have HT:Hid (Web zs.length (wayAll zs k)):=web_wayAll HX.out k hk;have HE:Hid (wayIn k (wayAll zs k) zs.length=wayAll zs (k+1)):=rfl;generalize wayAll zs k=T at *;obtain⟨wo,rfl⟩:∃wo:World,wo=wr:=⟨_,rfl⟩;go_wp2_with fail
    go_loopw [5] (fun i wr=>∃m:Nat,m≤zs.length∧i = .int .i64 m∧RowAt wr g (wayIn k T m)∧Keep w wr) (fun i _=>zs.length-(intOf i).toNat)
    case atStart=>exact⟨0,Nat.zero_le _,rfl,hr,hK⟩
    case round=>
     clear hr hK;obtain⟨m,hm,rfl,hr,hK⟩:=hrel;by_cases hml:m<zs.length
     ·
      have hB:=(web_wayIn hlt HT.out m hm).1;have hBl:=hB.2.1;have hbit:inSetB ((wayIn k T m).getD m 0) k=bitB ((wayIn k T m).getD m 0) k:=inSetB_bit (okB_range (hB.2.2 m hml)) (by omega);clear hB;have d0:=hr.cell (j:=m) (by omega);have d1:=hr.cell (j:=k) (by omega);have d2:=hr.free m;cases hb:bitB ((wayIn k T m).getD m 0) k
      ·
       rw[hb] at hbit;have HM:Hid (wayIn k T (m+1)=wayIn k T m):=wayS_miss k T m hbit;rw[←HM.out] at hr;clear hbit;generalize (wayIn k T m).getD m 0=x at *;generalize (wayIn k T m).getD k 0=y at *;clear d1 d2 HM;go_wp2_with fail
       refine (l1Has_any _ _ _ (by omega) (by omega)).mono ?_;rintro e w2 ⟨rfl,rfl⟩;go_wp2;go_roundw;case rel=>exact⟨m+1,by omega,by go_num,hr,hK⟩
       case measure=>simp[intOf];omega
      ·
       rw[hb] at hbit;have HM:Hid (wayIn k T (m+1)=(wayIn k T m).set m (orI ((wayIn k T m).getD m 0) ((wayIn k T m).getD k 0))):=wayS_hit k T m hbit;have hs:=hr.set m (orI ((wayIn k T m).getD m 0) ((wayIn k T m).getD k 0));rw[←HM.out] at hs;have hK2:=hK.grown (grown_set wr g m (.int .i64 (orI ((wayIn k T m).getD m 0) ((wayIn k T m).getD k 0)))) (by simp;exact hg);clear HM hr hbit;generalize (wayIn k T m).getD m 0=x at *;generalize (wayIn k T m).getD k 0=y at *;have i1:(0:Int)≤(m:Int):=Int.natCast_nonneg _;have i2:(m:Int)<(zs.length:Int):=by omega
       have i3:(0:Int)≤(k:Int):=Int.natCast_nonneg _;have i4:(k:Int)<(zs.length:Int):=by omega
       go_wp2_with fail
       refine (l1Has_any _ _ _ (by omega) (by omega)).mono ?_;rintro e w2 ⟨rfl,rfl⟩;go_wp2;go_region
       go_wp2;go_roundw;case rel=>exact⟨m+1,by omega,by go_num,hs.drew,hK2.drew⟩
       case measure=>simp[intOf];omega
     ·
      obtain rfl:m=zs.length:=by omega
      rw[HE.out] at hr;go_wp2;go_roundw;case rel=>exact⟨k+1,by omega,by go_num,hr,hK⟩
      case measure=>simp[intOf];omega
   ·
    obtain rfl:k=zs.length:=by omega
    go_wp2;go_ret;exact⟨_,rfl,row_new hr hg (wayAll_len zs _),hK⟩
theorem roundS_yes {zs:List Int}(ht:webB zs=true){k:Nat}(hk:k<(waysL zs).length)(h:inSetB ((waysL zs).getD k 0) k=true):roundB zs=true:=by
 have hl:=(web_ways (web_iff.1 ht)).2.1;unfold roundB;rw[ht,Bool.true_and,List.any_eq_true];exact⟨k,List.mem_range.2 (by omega),h⟩
theorem roundS_no {zs:List Int}(ht:webB zs=true)(h:∀i,i<(waysL zs).length→inSetB ((waysL zs).getD i 0) i=false):roundB zs=false:=by
 have hl:=(web_ways (web_iff.1 ht)).2.1;unfold roundB;rw[ht,Bool.true_and,List.any_eq_false];intro i hi;have:=h i (by have:=List.mem_range.1 hi;omega);unfold line;rw[this];simp
theorem l3Round_any (w:World)(base:Nat)(v:Value)(zs:List Int)(h:Row w base v zs)(ht:webB zs=true):
  Calls Tryz.prog 105 #[v] w fun e w'=>e = .returned (.bool (roundB zs))∧Keep w w':=by
 have HW:Hid (Web zs.length zs):=web_iff.1 ht;have HE:Hid (wayAll zs zs.length=waysL zs):=(ways_eq HW.out).symm;have hY:Hid (∀k,k<(waysL zs).length→inSetB ((waysL zs).getD k 0) k=true→roundB zs=true):=fun k=>roundS_yes ht
 have hN:Hid ((∀i,i<(waysL zs).length→inSetB ((waysL zs).getD i 0) i=false)→roundB zs=false):=roundS_no ht
 have hO:Hid (∀k,k<(waysL zs).length→inSetB ((waysL zs).getD k 0) k=bitB ((waysL zs).getD k 0) k):=fun k hk=>by
  have hw:=web_ways HW.out;have hl:=hw.2.1;have:=hw.1;exact inSetB_bit (okB_range (hw.2.2 k (by omega))) (by omega)
 have hl:(waysL zs).length≤12:=by have hw:=web_ways HW.out;have:=hw.1;have:=hw.2.1;omega
 clear ht;go_enter Tryz.func105,Tryz.ntmps105
 go_wp2_with fail
 refine (l2Ways_any _ _ _ _ h HW.out).mono ?_;rintro e w1 ⟨v1,rfl,r1,k1⟩;rw[HE.out] at r1;clear h HW HE;generalize waysL zs=W at *;obtain⟨a,c,rfl,hr⟩:=r1.rd;clear r1;go_wp2;go_loop [4] (fun i=>∃k:Nat,k≤W.length∧i = .int .i64 k∧∀j:Nat,j<k→inSetB (W.getD j 0) j=false) (fun i=>W.length-(intOf i).toNat)
 case atStart=>exact⟨0,Nat.zero_le _,rfl,fun j hj=>by omega⟩
 case round=>
  obtain⟨k,hk,rfl,hall⟩:=hrel;have HA:Hid (∀j:Nat,j<k→inSetB (W.getD j 0) j=false):=hall;clear hall;by_cases hlt:k<W.length
  ·
   rcases hr with hr|⟨b,o,rfl,hb,hc⟩
   · exfalso;rw[hr] at hlt;simp at hlt
   have d0:=hc k hlt;have HO:Hid (inSetB (W.getD k 0) k=bitB (W.getD k 0) k):=hO.out k hlt;have HY:Hid (inSetB (W.getD k 0) k=true→roundB zs=true):=hY.out k hlt;clear hc hO hY;cases hbit:bitB (W.getD k 0) k
   ·
    have HB:Hid (inSetB (W.getD k 0) k=false):=HO.out.trans hbit;obtain⟨x,hx⟩:∃x,x=W.getD k 0:=⟨_,rfl⟩;have HX:Hid (x=W.getD k 0):=hx;rw[←hx] at d0 hbit;clear hx HY HO;go_wp2_with fail
    refine (l1Has_any _ _ _ (by omega) (by omega)).mono ?_;rintro e w2 ⟨rfl,rfl⟩;go_wp2;go_round
    case rel=>
     refine⟨k+1,by omega,by go_num,fun j hj=>?_⟩;by_cases e:j=k
     · subst e;exact HB.out
     · exact HA.out j (by omega)
    case measure=>simp[intOf];omega
   ·
    have HB:Hid (roundB zs=true):=HY.out (HO.out.trans hbit);clear HY HO;obtain⟨x,hx⟩:∃x,x=W.getD k 0:=⟨_,rfl⟩;have HX:Hid (x=W.getD k 0):=hx;rw[←hx] at d0 hbit;clear hx;go_wp2_with fail
    refine (l1Has_any _ _ _ (by omega) (by omega)).mono ?_;rintro e w2 ⟨rfl,rfl⟩;go_wp2;go_ret;exact⟨ret_bool HB.out.symm,k1⟩
  ·
   go_wp2;go_ret;exact⟨ret_bool (hN.out fun i hi=>HA.out i (by omega)).symm,k1⟩
theorem made_noughts (n:Nat):(madeCells (Value.int .i64 0).cells (n*1)).toList=((List.replicate n (0:Int)).map (Value.int .i64)):=by
 rw[Nat.mul_one,List.map_replicate];exact toList_madeCells_one _ _
theorem liftA_hit {zs cl:List Int}{c:Int}{m:Nat}(h:cl.getD m 0=c):liftA zs cl c (m+1)=orI (liftA zs cl c m) (zs.getD m 0):=by
 conv=>lhs;unfold liftA
 rw[if_pos h]
theorem liftA_miss {zs cl:List Int}{c:Int}{m:Nat}(h:¬cl.getD m 0=c):liftA zs cl c (m+1)=liftA zs cl c m:=by
 conv=>lhs;unfold liftA
 rw[if_neg h]
def hitV (s:Int)(j:Nat)(b:Bool):Int:=if b=true then gAdd s j else s
theorem liftR_skip {zs cl:List Int}{c:Int}{m:Nat}(h:cl.getD m 0=c):liftR zs cl c (m+1)=liftR zs cl c m:=by
 conv=>lhs;unfold liftR
 rw[if_pos h]
theorem liftR_go {zs cl:List Int}{c:Int}{m:Nat}(h:¬cl.getD m 0=c):liftR zs cl c (m+1)=hitV (liftR zs cl c m) m (hitB cl (cl.getD m 0) (liftA zs cl c zs.length) zs.length):=by
 conv=>lhs;unfold liftR
 rw[if_neg h];rfl
theorem add_twice {n:Nat}{s:Int}(hs:okB n s=true){j:Nat}(hj:j<n):gAdd (gAdd s j) j=gAdd s j:=by
 have h1:=ok_add hs hj;have h2:=ok_add h1.1 hj;refine ok_ext h2.1 h1.1 fun i _=>?_
 rw[h2.2 i,h1.2 i];cases inSetB s i<;>cases decide (j=i)<;>rfl
theorem ok_hitV {n:Nat}{s:Int}(hs:okB n s=true){j:Nat}(hj:j<n)(b:Bool):okB n (hitV s j b)=true:=by
 unfold hitV;split
 · exact (ok_add hs hj).1
 · exact hs
theorem hitV_hit {n:Nat}{s:Int}(hs:okB n s=true){j:Nat}(hj:j<n)(b c:Bool)(hc:c=true):gAdd (hitV s j b) j=hitV s j c:=by
 subst hc;cases b
 · rfl
 · exact add_twice hs hj
theorem l3Lift_any (w:World)(v1 v2:Value)(xs ys:List Int)(h1:Rd w v1 xs)(h2:Rd w v2 ys)(ht:Web xs.length xs)(hl:ys.length=xs.length):
  Calls Tryz.prog 106 #[v1,v2] w fun e w'=>∃v',e = .returned v'∧Row w' w.heap.size v' (ys.map (fun c=>liftR xs ys c xs.length))∧Keep w w':=by
 obtain⟨a1,c1,rfl,h1⟩:=h1;obtain⟨a2,c2,rfl,h2⟩:=h2;obtain⟨i0,hi,hz0,hz1,hz2⟩:=info_parts Tryz.infoI;have hz12:=ht.1;have HX:Hid (Web xs.length xs):=ht;have HL:Hid (ys.length=xs.length):=hl;have hl1:ys.length≤xs.length:=by omega
 have hl2:xs.length≤ys.length:=by omega
 clear ht hl;go_enter Tryz.func106,Tryz.ntmps106
 go_wp2_with (at_make;refine wpList_make_full _ rfl _ _ 50 rfl w.heap.size 2 i0 (.int .i64 0) 1 Tryz.underlying50 hi hz0 hz1 .i64 .i64 _ _ xs.length rfl rfl rfl rfl (by rw[hz2];omega) (by unfold maxLen;omega) (Nat.le_refl _) ?_;intro w1 hown hgrow)
 rw[made_noughts] at hown;have k1:Keep w w1:=(Keep.refl w).grown hgrow (by simp)
 have rb:RowAt w1 w.heap.size (mapK (fun c=>liftR xs ys c xs.length) ys 0):=by
  have o:Own w1 w.heap.size (.slice (some ⟨w.heap.size,0,none⟩) xs.length xs.length) (List.replicate xs.length 0):=by
   unfold Own;simpa using hown
  rw[mapK_zero,HL.out];rcases o.row with ⟨e,_⟩|⟨g,cap,e,_,hr⟩
  · cases e
  ·
   have e1:=congrArg Value.ownBlock e;simp[Value.ownBlock] at e1;rw[e1];exact hr
 clear hgrow hown;go_loopw [6] (fun i wr=>∃k:Nat,k≤xs.length∧i = .int .i64 k∧RowAt wr w.heap.size (mapK (fun c=>liftR xs ys c xs.length) ys k)∧Keep w wr) (fun i _=>xs.length-(intOf i).toNat)
 case atStart=>exact⟨0,Nat.zero_le _,rfl,rb,k1⟩
 case round=>
  obtain⟨k,hk,rfl,hr,hK⟩:=hrel;clear rb k1;by_cases hlt:k<xs.length
  ·
   have hlt2:k<ys.length:=by omega
   rcases h1 with h|⟨b1,o1,rfl,hb1,hc1⟩
   · exfalso;rw[h] at hlt;simp at hlt
   rcases h2 with h|⟨b2,o2,rfl,hb2,hc2⟩
   · exfalso;rw[h] at hlt2;simp at hlt2
   have c0:=hc2 k hlt2;have HE:Hid ((mapK (fun c=>liftR xs ys c xs.length) ys k).set k (liftR xs ys (ys.getD k 0) xs.length)=mapK (fun c=>liftR xs ys c xs.length) ys (k+1)):=mapK_set _ ys hlt2;have HS:Hid ((mapK (fun c=>liftR xs ys c xs.length) ys k).set k (liftR xs ys (ys.getD k 0) 0)=mapK (fun c=>liftR xs ys c xs.length) ys k):=mapK_same _ ys hlt2;have hTl:Hid ((mapK (fun c=>liftR xs ys c xs.length) ys k).length=xs.length):=(mapK_len _ ys (by omega)).trans HL.out;rw[←HS.out] at hr;obtain⟨p,hp⟩:∃p,p=ys.getD k 0:=⟨_,rfl⟩;have HC:Hid (p=ys.getD k 0):=hp;rw[←hp] at c0 hr HE;clear hp HS;generalize mapK (fun c=>liftR xs ys c xs.length) ys k=T at *;have i1:(0:Int)≤(k:Int):=Int.natCast_nonneg _;have i2:(k:Int)<(ys.length:Int):=by omega
   have i2':(k:Int)<(xs.length:Int):=by omega
   obtain⟨wo,rfl⟩:∃wo:World,wo=wr:=⟨_,rfl⟩;go_wp2_with fail
   go_loopw [7,8] (fun s i wr=>∃m:Nat,m≤xs.length∧i = .int .i64 m∧s = .int .i64 (liftA xs ys p m)∧RowAt wr w.heap.size (T.set k (liftR xs ys p 0))∧Keep w wr) (fun _ i _=>xs.length-(intOf i).toNat)
   case atStart=>exact⟨0,Nat.zero_le _,rfl,rfl,hr,hK⟩
   case round=>
    clear hr hK;obtain⟨m,hm,rfl,rfl,hr,hK⟩:=hrel;by_cases hml:m<xs.length
    ·
     have hml2:m<ys.length:=by omega
     have d0:=(hK.cell hb2).trans c0;have d1:=(hK.cell hb2).trans (hc2 m hml2);have d2:=(hK.cell hb1).trans (hc1 m hml);obtain⟨q,hq⟩:∃q,q=ys.getD m 0:=⟨_,rfl⟩;have HQ:Hid (q=ys.getD m 0):=hq;rw[←hq] at d1;clear hq hc1 hc2 c0;have i3:(0:Int)≤(m:Int):=Int.natCast_nonneg _;have i4:(m:Int)<(ys.length:Int):=by omega
     have i5:(m:Int)<(xs.length:Int):=by omega
     cases he:q==p
     ·
      have HM:Hid (liftA xs ys p (m+1)=liftA xs ys p m):=liftA_miss (by rw[←HQ.out];simpa using he);generalize liftA xs ys p m=A at *;generalize xs.getD m 0=x at *;go_wp2;go_quiet (fail)
      go_wp2;go_roundw;case rel=>exact⟨m+1,by omega,by go_num,by rw[HM.out],hr.drewN _,hK.drewN _⟩
      case measure=>simp[intOf];omega
     ·
      have HM:Hid (liftA xs ys p (m+1)=orI (liftA xs ys p m) (xs.getD m 0)):=liftA_hit (by rw[←HQ.out];simpa using he);generalize liftA xs ys p m=A at *;generalize xs.getD m 0=x at *;go_wp2;go_quiet (fail)
      go_wp2;go_roundw;case rel=>exact⟨m+1,by omega,by go_num,by rw[HM.out];rfl,hr.drewN _,hK.drewN _⟩
      case measure=>simp[intOf];omega
    ·
     obtain rfl:m=xs.length:=by omega
     have HA:Hid (okB xs.length (liftA xs ys p xs.length)=true):=(ok_liftA HX.out ys p xs.length (Nat.le_refl _)).1;have HG:Hid (∀j,¬ys.getD j 0=p→liftR xs ys p (j+1)=hitV (liftR xs ys p j) j (hitB ys (ys.getD j 0) (liftA xs ys p xs.length) xs.length)):=fun j=>liftR_go
     generalize liftA xs ys p xs.length=A at *;obtain⟨wp,rfl⟩:∃wp:World,wp=wr:=⟨_,rfl⟩;go_wp2_with fail
     go_loopw [9] (fun i wr=>∃j:Nat,j≤xs.length∧i = .int .i64 j∧RowAt wr w.heap.size (T.set k (liftR xs ys p j))∧Keep w wr) (fun i _=>xs.length-(intOf i).toNat)
     case atStart=>exact⟨0,Nat.zero_le _,rfl,hr,hK⟩
     case round=>
      clear hr hK;obtain⟨j,hj,rfl,hr,hK⟩:=hrel;by_cases hjl:j<xs.length
      ·
       have hjl2:j<ys.length:=by omega
       have d0:=(hK.cell hb2).trans c0;have d1:=(hK.cell hb2).trans (hc2 j hjl2);have e1:=hc2 j hjl2;obtain⟨q,hq⟩:∃q,q=ys.getD j 0:=⟨_,rfl⟩;have HQ:Hid (q=ys.getD j 0):=hq;rw[←hq] at d1 e1;clear hq;have i3:(0:Int)≤(j:Int):=Int.natCast_nonneg _;have i4:(j:Int)<(ys.length:Int):=by omega
       have i5:(j:Int)<(xs.length:Int):=by omega
       cases he:q==p
       ·
        have HV:Hid (¬q=p):=by show ¬q=p;simpa using he
        have HN:Hid (liftR xs ys p (j+1)=hitV (liftR xs ys p j) j (hitB ys q A xs.length)):=by
         have:=HG.out j (by rw[←HQ.out];exact HV.out);rw[←HQ.out] at this;exact this
        have HO:Hid (okB xs.length (liftR xs ys p j)=true):=(ok_liftR HX.out ys p j (by omega)).1;generalize liftR xs ys p j=R at *;obtain⟨wq,rfl⟩:∃wq:World,wq=wr:=⟨_,rfl⟩;go_wp2;go_quiet (fail)
        have hr2:=hr.drewN nq;have hK2:=hK.drewN nq;clear d0 d1;go_wp2_with fail
        go_loopw [10] (fun i wr=>∃m:Nat,m≤xs.length∧i = .int .i64 m∧RowAt wr w.heap.size (T.set k (hitV R j (hitB ys q A m)))∧Keep w wr) (fun i _=>xs.length-(intOf i).toNat)
        case atStart=>exact⟨0,Nat.zero_le _,rfl,hr2,hK2⟩
        case round=>
         clear hr hK hr2 hK2;obtain⟨m,hm,rfl,hr,hK⟩:=hrel;by_cases hml:m<xs.length
         ·
          have hml2:m<ys.length:=by omega
          have d1:=(hK.cell hb2).trans e1;have d2:=(hK.cell hb2).trans (hc2 m hml2);obtain⟨u,hu⟩:∃u,u=ys.getD m 0:=⟨_,rfl⟩;have HU:Hid (u=ys.getD m 0):=hu;rw[←hu] at d2;clear hu hc1 hc2 c0 e1;have i6:(0:Int)≤(m:Int):=Int.natCast_nonneg _;have i7:(m:Int)<(ys.length:Int):=by omega
          have HT:Hid (hitB ys q A (m+1)=(hitB ys q A m||(decide (u=q)&&inSetB A m))):=by rw[HU.out];rfl
          have hbit:inSetB A m=bitB A m:=inSetB_bit (okB_range HA.out) (by omega);have HY:Hid (okB xs.length (hitV R j (hitB ys q A m))=true):=ok_hitV HO.out hjl _;cases hq2:u==q
          ·
           have HM:Hid (hitB ys q A (m+1)=hitB ys q A m):=by
            show _=_;rw[HT.out];have:decide (u=q)=false:=by simpa using hq2
            rw[this];simp
           rw[←HM.out] at hr;clear hbit HT;go_wp2;go_quiet (fail)
           go_wp2;go_roundw;case rel=>exact⟨m+1,by omega,by go_num,hr.drewN _,hK.drewN _⟩
           case measure=>simp[intOf];omega
          ·
           cases hb:bitB A m
           ·
            have HM:Hid (hitB ys q A (m+1)=hitB ys q A m):=by
             show _=_;rw[HT.out,hbit,hb];simp
            rw[←HM.out] at hr;clear hbit HT;go_wp2;go_quiet ((go_at_call 172;refine Calls.quiet_of_same (l1Has_any _ _ _ (by omega) (by omega))))
            go_wp2;go_roundw;case rel=>exact⟨m+1,by omega,by go_num,hr.drewN _,hK.drewN _⟩
            case measure=>simp[intOf];omega
           ·
            have HM:Hid (hitB ys q A (m+1)=true):=by
             show _=_;have:decide (u=q)=true:=by simpa using hq2
             rw[HT.out,hbit,hb,this];simp
            have hrg:=okB_range HY.out;have hki:inB (j:Int) 0 11=true:=by unfold inB;simp;omega
            have HV2:Hid (bits .or .i64 (hitV R j (hitB ys q A m)) (wrap64 (2 ^ (j:Int).toNat))=hitV R j (hitB ys q A (m+1))):=by
             show _=_;rw[←hitV_hit HO.out hjl (hitB ys q A m) _ HM.out,gAdd_ok _ _ hrg.1 hki]
            have hTk:k<T.length:=by have:=hTl.out;omega
            have hgl:k<(T.set k (hitV R j (hitB ys q A m))).length:=by rw[List.length_set];exact hTk
            have d3:=(hr.drewN 0).cell hgl;clear hbit HT;go_wp2;go_quiet ((go_at_call 172;refine Calls.quiet_of_same (l1Has_any _ _ _ (by omega) (by omega))))
            have hr3:=hr.drewN nq;have hK3:=hK.drewN nq;have d5:=hr3.cell hgl;rw[getD_set_same T hTk] at d5;have d6:=hr3.free k;have hs:=hr3.set k (bits .or .i64 (hitV R j (hitB ys q A m)) (wrap64 (2 ^ (j:Int).toNat)));have hK4:=hK3.grown (grown_set _ w.heap.size k (.int .i64 (bits .or .i64 (hitV R j (hitB ys q A m)) (wrap64 (2 ^ (j:Int).toNat))))) (by simp);rw[set_set_same] at hs;have HS2:Hid (T.set k (bits .or .i64 (hitV R j (hitB ys q A m)) (wrap64 (2 ^ (j:Int).toNat)))=T.set k (hitV R j (hitB ys q A (m+1)))):=by show _=_;rw[HV2.out]
            rw[HS2.out] at hs;clear HS2 HV2 HY hrg hr3 hK3 hr hK d1 d2 d3;generalize hitV R j (hitB ys q A m)=y at *;go_wp2;go_roundw;case rel=>exact⟨m+1,by omega,by go_num,hs,hK4⟩
            case measure=>simp[intOf];omega
         ·
          obtain rfl:m=xs.length:=by omega
          rw[←HN.out] at hr;go_wp2;go_roundw;case rel=>exact⟨j+1,by omega,by go_num,hr,hK⟩
          case measure=>simp[intOf];omega
       ·
        have HN:Hid (liftR xs ys p (j+1)=liftR xs ys p j):=liftR_skip (by rw[←HQ.out];simpa using he);rw[←HN.out] at hr;go_wp2;go_quiet (fail)
        go_wp2;go_roundw;case rel=>exact⟨j+1,by omega,by go_num,hr.drewN _,hK.drewN _⟩
        case measure=>simp[intOf];omega
      ·
       obtain rfl:j=xs.length:=by omega
       rw[HE.out] at hr;go_wp2;go_roundw;case rel=>exact⟨k+1,by omega,by go_num,hr,hK⟩
       case measure=>simp[intOf];omega
  ·
   obtain rfl:k=xs.length:=by omega
   have HQ:Hid (mapK (fun c=>liftR xs ys c xs.length) ys xs.length=ys.map (fun c=>liftR xs ys c xs.length)):=by
    have:=mapK_end (fun c=>liftR xs ys c xs.length) ys;rw[HL.out] at this;exact this
   go_wp2;go_ret;refine⟨_,rfl,?_,hK⟩;rw[←HQ.out];exact row_new hr (Nat.le_refl _) ((mapK_len _ ys (by omega)).trans HL.out)
theorem made_oc:(madeCells (Value.int .i64 0).cells (3*1)).toList=(([0,0,0]:List Int).map (Value.int .i64)):=by
 rw[Nat.mul_one];exact (toList_madeCells_one _ _).trans rfl
theorem l10Outcome_any (w:World)(v vF vR:Value)(es:List Ev)(f rows:List Int)(h:RdE w v es)(hf:Rd w vF f)(hr:Rd w vR rows)(hn:es.length≤12)(hlr:rows.length≤36)(hrw:∀j,j<rows.length→0≤rows.getD j 0∧rows.getD j 0<(es.length:Int))(hpl:∀j,j<rows.length→0≤plE es (rows.getD j 0)∧plE es (rows.getD j 0)≤2)(hl:f.length≤12)(hb:∀i,i<f.length→0≤f.getD i 0∧f.getD i 0<(es.length:Int)):
  Calls Tryz.prog 108 #[v,.agg #[vF,vR]] w fun e w'=>∃v',e = .returned v'∧Own w' w.heap.size v' (ocL es f rows)∧Keep w w':=by
 obtain⟨a,c,rfl,h⟩:=h;have HF:=Lib.hid hf;have HR:=Lib.hid hr;obtain⟨aF,cF,rfl,-⟩:=hf;obtain⟨aR,cR,rfl,-⟩:=hr;obtain⟨i0,hi,hz0,hz1,hz2⟩:=info_parts Tryz.infoI;have HL:Hid (ocL es f rows=ocK es f f.length++lastK es rows rows.length):=Lib.hid rfl;have HRW:=Lib.hid hrw;have HPL:=Lib.hid hpl;have HB:=Lib.hid hb;clear hrw hpl hb;go_enter Tryz.func108,Tryz.ntmps108
 go_upto_region 1 with fail
 obtain⟨wB,hwB⟩:∃W:World,W=w.alloc (.cells #[.slice aF f.length cF,.slice aR rows.length cR] 52):=⟨_,rfl⟩;have kB:Keep w wB:=by rw[hwB];exact (Keep.refl w).alloc _
 have sB:wB.heap.size=w.heap.size+1:=by rw[hwB];exact heap_size _ _
 have b0:wB.cell? ⟨w.heap.size,0,none⟩=some (.slice aF f.length cF):=by rw[hwB];exact box_cell (Keep.refl _) 0
 have b1:wB.cell? ⟨w.heap.size,1,none⟩=some (.slice aR rows.length cR):=by rw[hwB];exact box_cell (Keep.refl _) 1
 rw[←hwB];clear hwB;have SB:=Lib.hid sB;have lB:w.heap.size<wB.heap.size:=by omega
 clear sB;have hown0:Own (wB.alloc (.cells #[] 2)) wB.heap.size (.slice (some ⟨wB.heap.size,0,none⟩) 0 0) []:=World.ownsRow_lit wB #[] 0 (Nat.le_refl _) (by decide) rfl;go_wp2;go_loopw [5,6] (fun v0 i wr=>∃(k:Nat) (v:Value),v=v0∧k≤f.length∧i = .int .i64 k∧Own wr wB.heap.size v (ocK es f k)∧Keep wB wr) (fun _ i _=>f.length-(intOf i).toNat)
 case atStart=>exact⟨0,_,rfl,Nat.zero_le _,rfl,hown0,(Keep.refl _).alloc _⟩
 case round=>
  obtain⟨k,v,rfl,hk,rfl,ho,hK⟩:=hrel;clear hown0;have d5:=(hK.cell lB).trans b0;by_cases hlt:k<f.length
  ·
   obtain⟨t,ht0⟩:=Int.eq_ofNat_of_zero_le (HB.out k hlt).1;have hte:t<es.length:=by have:=(HB.out k hlt).2;omega
   rcases h with h0|⟨b,off,rfl,hb,hc⟩
   · exfalso;rw[h0] at hte;simp at hte
   have HM:Hid (ocK es f (k+1)=ocK es f k++[(es.getD t zE).2.2.2.2.1]):=Lib.hid (by
    rw[ocK,vlE,ht0,Int.toNat_natCast])
   have AT:=(hc t _ (evs_get hte)).keep hb (kB.trans hK);obtain⟨e,he⟩:∃e,e=es.getD t zE:=⟨_,rfl⟩;rw[←he] at AT HM;clear he;obtain⟨x0,x1,x2,x3,x4,x5⟩:=e;obtain⟨-,-,-,-,A4,-⟩:=atE AT;clear AT hc;simp only at HM;have hF:=(HF.out.keep kB).keep hK;obtain⟨a2,c2,he2,hF'⟩:=hF;simp only[Value.slice.injEq,true_and] at he2;obtain⟨rfl,rfl⟩:=he2;rcases hF' with h0|⟨bf,of',rfl,hbf,hcf⟩
   · exfalso;rw[h0] at hlt;simp at hlt
   have d4:=hcf k hlt;rw[ht0] at d4;clear hcf ht0;have hml:(ocK es f k).length≤k:=by rw[ocK_len];omega
   have hsz:=hK.size;have i1:(0:Int)≤(k:Int):=Int.natCast_nonneg _;have i2:(k:Int)<(f.length:Int):=by omega
   have j1:(0:Int)≤(t:Int):=Int.natCast_nonneg _;have j2:(t:Int)<(es.length:Int):=by omega
   have l2:(es.length:Int)≤12:=by omega
   have l3:(f.length:Int)≤12:=by omega
   go_wp2_with (at_builtin;refine wpList_append_own _ rfl _ _ 50 rfl wB.heap.size 2 i0 (.int .i64 0) 1 8 Tryz.underlying50 hi hz0 hz1 hz2 rfl (by decide) _ _ _ rfl (World.ownsRow.alloc ho _) ⟨_,0,none⟩ 1 1 [.int .i64 x4] rfl rfl ?c1 ?c2 ?c3 ?c4 ?c5 ?_)
   case c1=>
    intro j u hj
    match j,hj with
    | 0,hj=>simp at hj;subst hj;simp[Addr.add]
   case c2=>intro u hu;simp at hu;subst hu;rfl
   case c3=>unfold maxLen;omega
   case c4=>omega
   case c5=>simp;omega
   intro v' w1 hown' hgrow _;have hK1:Keep wB w1:=(hK.alloc _).grown hgrow ho.ge;clear hgrow;go_wp2;go_roundw;case rel=>exact⟨k+1,_,rfl,by omega,by go_num,by rw[HM.out];exact own_hit hown',hK1⟩
   case measure=>simp[intOf];omega
  ·
   obtain rfl:k=f.length:=by omega
   obtain⟨wq,hwq⟩:∃W:World,W=wr:=⟨_,rfl⟩;subst hwq;go_wp2_with (at_make;refine wpList_make_full _ rfl _ _ 50 rfl wq.heap.size 2 i0 (.int .i64 0) 1 Tryz.underlying50 hi hz0 hz1 .i64 .i64 _ _ 3 rfl rfl rfl rfl (by rw[hz2];omega) (by unfold maxLen;omega) (Nat.le_refl _) ?_;intro w1 hown hgrow)
   rw[made_oc] at hown;have k1:Keep wq w1:=(Keep.refl wq).grown hgrow (by simp)
   have rb:RowAt w1 wq.heap.size (lastK es rows 0):=by
    have o:Own w1 wq.heap.size (.slice (some ⟨wq.heap.size,0,none⟩) 3 3) [0,0,0]:=by
     unfold Own;simpa using hown
    rcases o.row with ⟨e,_⟩|⟨g,cap,e,_,hr⟩
    · cases e
    ·
     have e1:=congrArg Value.ownBlock e;simp[Value.ownBlock] at e1;rw[e1];exact hr
   clear hgrow hown d5;have hml:(ocK es f f.length).length≤12:=by rw[ocK_len];omega
   have NO:v.ownBlock=none∨v.ownBlock≠some wq.heap.size:=by
    cases hu:v.ownBlock with
    |none=>exact .inl rfl
    |some k=>exact .inr (fun e=>by have:=(World.ownsRow.lt ho k hu).2;have:=Option.some.inj e;omega)
   have ho1:=ho.keep k1;have K1:=hK.trans k1;have sq:=hK.size;generalize ocK es f f.length=OC at HL ho1 hml;clear ho k1;go_wp2;go_loopw [8] (fun i wr=>∃k:Nat,k≤rows.length∧i = .int .i64 k∧RowAt wr wq.heap.size (lastK es rows k)∧Own wr wB.heap.size v OC∧Keep wB wr) (fun i _=>rows.length-(intOf i).toNat)
   case atStart=>exact⟨0,Nat.zero_le _,rfl,rb,ho1,K1⟩
   case round=>
    clear rb ho1 K1 hK;obtain⟨k,hk,rfl,hr,ho,hK⟩:=hrel;have d5:=(hK.cell lB).trans b1;by_cases hlt:k<rows.length
    ·
     obtain⟨x,hx0⟩:=Int.eq_ofNat_of_zero_le (HRW.out k hlt).1;have hxe:x<es.length:=by have:=(HRW.out k hlt).2;omega
     obtain⟨p,hp0⟩:=Int.eq_ofNat_of_zero_le (HPL.out k hlt).1;have hp2:p<3:=by have:=(HPL.out k hlt).2;omega
     rcases h with h0|⟨b,off,rfl,hb,hc⟩
     · exfalso;rw[h0] at hxe;simp at hxe
     have HM:Hid (lastK es rows (k+1)=(lastK es rows k).set p (es.getD x zE).2.2.2.2.1):=Lib.hid (by
      rw[lastK,hp0,Int.toNat_natCast,vlE,hx0,Int.toNat_natCast])
     have HP:(es.getD x zE).2.2.2.1=(p:Int):=by
      rw[←hp0,plE,hx0,Int.toNat_natCast]
     have AT:=(hc x _ (evs_get hxe)).keep hb (kB.trans hK);obtain⟨e,he⟩:∃e,e=es.getD x zE:=⟨_,rfl⟩;rw[←he] at AT HM HP;clear he;obtain⟨x0,x1,x2,x3,x4,x5⟩:=e;simp only at HM HP;subst HP;obtain⟨-,-,-,A3,A4,-⟩:=atE AT;clear AT hc hp0;have hF:=(HR.out.keep kB).keep hK;obtain⟨a2,c2,he2,hF'⟩:=hF;simp only[Value.slice.injEq,true_and] at he2;obtain⟨rfl,rfl⟩:=he2;rcases hF' with h0|⟨bf,of',rfl,hbf,hcf⟩
     · exfalso;rw[h0] at hlt;simp at hlt
     have d4:=hcf k hlt;rw[hx0] at d4;clear hcf hx0;have d2:=hr.free p;have d7:=hr.cell (j:=p) (by rw[lastK_len];exact hp2);have hsz:=hK.size;have i1:(0:Int)≤(k:Int):=Int.natCast_nonneg _;have i2:(k:Int)<(rows.length:Int):=by omega
     have j1:(0:Int)≤(x:Int):=Int.natCast_nonneg _;have j2:(x:Int)<(es.length:Int):=by omega
     have j3:(0:Int)≤(p:Int):=Int.natCast_nonneg _;have j4:(p:Int)<3:=by omega
     have l2:(es.length:Int)≤12:=by omega
     have l3:(rows.length:Int)≤36:=by omega
     go_wp2;go_region
     all_goals
      go_wp2;go_roundw
      case rel=>
       refine⟨k+1,by omega,by go_num,?_,?_,?_⟩
       · rw[HM.out];exact hr.drew.set p _
       · exact (ho.kept (grown_drew wr (some wq.heap.size)) NO).kept (grown_set _ wq.heap.size p _) NO
       · exact (hK.drew).grown (grown_set _ wq.heap.size p _) (by simp;omega)
      case measure=>simp[intOf];omega
    ·
     obtain rfl:k=rows.length:=by omega
     have CC:=rd_cells (w:=wr) (b:=wq.heap.size) (off:=0) (zs:=lastK es rows rows.length) (fun i hi=>by rw[Nat.zero_add];exact hr.cell hi);have hll:=lastK_len es rows rows.length;have hsz:=hK.size;go_wp2_with (at_builtin;refine wpList_append_own _ rfl _ _ 50 rfl wB.heap.size 2 i0 (.int .i64 0) 1 8 Tryz.underlying50 hi hz0 hz1 hz2 rfl (by decide) _ _ _ rfl ho ⟨wq.heap.size,0,none⟩ 3 3 ((lastK es rows rows.length).map (Value.int .i64)) rfl (by rw[List.length_map,hll]) ?e1 ?e2 ?e3 ?e4 ?e5 ?_)
     case e1=>exact CC
     case e2=>exact ints_one _
     case e3=>unfold maxLen;omega
     case e4=>omega
     case e5=>omega
     intro v' w3 hown' hgrow _;have k3:Keep wB w3:=hK.grown hgrow ho.ge;have o3:Own w3 wB.heap.size v' (OC++lastK es rows rows.length):=by unfold Own;rw[List.length_append,hll,List.map_append];exact hown'
     clear hgrow hown';go_wp2;go_ret;exact⟨_,rfl,by rw[HL.out];exact o3.base_le (by have:=SB.out;omega),kB.trans k3⟩
end Go.Proofs.YtkmjmnljkidobaaGreat
