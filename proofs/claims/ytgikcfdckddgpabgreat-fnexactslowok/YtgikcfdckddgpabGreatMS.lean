/- Gathered texts. -/
import Derived.BigRegion
import Derived.Deep.QuietTactic
import Derived.BigQuiet
import Derived.Lib.Hide
import Derived.Test.YtgikcfdckddgpabGreatMM
set_option maxRecDepth 100000
set_option maxHeartbeats 8000000
namespace Go.Proofs.YtgikcfdckddgpabGreat
open Go.ChangeShapes Go.WideShapes Go.ChangeAt Go.RowKit
theorem ow_three {es:List Ev}{f:List Int}:∀k:Nat,k≤3→offAll (owP es) es.length (fwL es f) k=fwL es f
 | 0,_=>rfl
 |k+1,h=>by
  rw[offAll,ow_three k (by omega)];exact offIn_none _ _ (fun j _=>by unfold owP;rw[decide_eq_false (show ¬ 3≤k by omega)];rfl)
theorem l12Others_any (w:World)(v vf:Value)(es:List Ev)(f:List Int)(h:RdE w v es)(hv:Rd w vf f)(h3:3≤es.length)(hn:es.length≤12)(HB:Web es.length (fwL es f))(hl:(idxB rdE es).length≤f.length)(hb:∀i,i<(idxB rdE es).length→0≤f.getD i 0∧f.getD i 0<(es.length:Int)):
  Calls Tryz.prog 68 #[v,vf] w fun e w'=>∃v',e = .returned v'∧Row w' w.heap.size v' (owL es f)∧Keep w w':=by
 have HT:=Lib.hid (ow_three (es:=es) (f:=f) 3 (Nat.le_refl _));have r:=h;obtain⟨a,c,rfl,h⟩:=h;go_enter Tryz.func68,Tryz.ntmps68
 go_wp2_with fail
 refine (l8Web_any _ _ _ _ _ r hv hn hl hb).mono ?_;rintro e w1 ⟨v1,rfl,o1,k1⟩;clear r hl hb hv
 obtain⟨G,cap,rfl,hG,hR⟩:∃g cap,v1 = .slice (some ⟨g,0,none⟩) es.length cap∧w.heap.size≤g∧RowAt w1 g (fwL es f):=by
  rcases o1 with ⟨_,e⟩|⟨g,cap,e,hg,hr⟩
  · exact absurd (congrArg List.length e) (by rw[HB.2.1];show ¬es.length=0;omega)
  · exact⟨g,cap,by rw[e,HB.2.1],hg,hr⟩
 clear o1;have HW0:=Lib.hid HB;clear HB;go_wp2;go_loopw [6] (fun i wr=>∃k:Nat,3≤k∧k≤es.length∧i = .int .i64 k∧RowAt wr G (offAll (owP es) es.length (fwL es f) k)∧Keep w wr) (fun i _=>es.length-(intOf i).toNat)
 case atStart=>exact⟨3,Nat.le_refl _,h3,rfl,by rw[HT.out];exact hR,k1⟩
 case round=>
  obtain⟨k,hk3,hk,rfl,hr,hK⟩:=hrel;clear hR k1;by_cases hlt:k<es.length
  ·
   rcases h with h|⟨b,off,rfl,hb,hc⟩
   · exfalso;rw[h] at hlt;simp at hlt
   have AT:=hc k _ (evs_get hlt);have HW:=Lib.hid (web_offAll (p:=owP es) HW0.out k (by omega)).1;have HE:Hid (offIn (owP es) k (offAll (owP es) es.length (fwL es f) k) es.length=offAll (owP es) es.length (fwL es f) (k+1)):=Lib.hid rfl;generalize offAll (owP es) es.length (fwL es f) k=T at *;have HI:Hid (offIn (owP es) k T 3=T):=Lib.hid (offIn_none _ _ (fun j hj=>by unfold owP;rw[decide_eq_false (show ¬ 3≤j by omega)];simp));obtain⟨wo,rfl⟩:∃wo:World,wo=wr:=⟨_,rfl⟩;have i1:(0:Int)≤(k:Int):=Int.natCast_nonneg _;have i2:(k:Int)<(es.length:Int):=by omega
   go_wp2;go_loopw [7] (fun i wr=>∃m:Nat,3≤m∧m≤es.length∧i = .int .i64 m∧RowAt wr G (offIn (owP es) k T m)∧Keep w wr) (fun i _=>es.length-(intOf i).toNat)
   case atStart=>exact⟨3,Nat.le_refl _,h3,rfl,by rw[HI.out];exact hr,hK⟩
   case round=>
    clear hr hK;obtain⟨m,hm3,hm,rfl,hr,hK⟩:=hrel;by_cases hml:m<es.length
    ·
     have AK:=AT.keep hb hK;have AM:=(hc m _ (evs_get hml)).keep hb hK;have hbw:b<wr.heap.size:=Nat.lt_of_lt_of_le hb hK.size;have hB:=(web_offIn (p:=owP es) hlt HW.out m hm).1;have hBl:k<(offIn (owP es) k T m).length:=by rw[hB.2.1];exact hlt
     clear hB AT hc;have HP:Hid (owP es k m=((es.getD k zE).1==(es.getD m zE).1)):=Lib.hid (by unfold owP;rw[decide_eq_true hk3,decide_eq_true hm3];rfl);obtain⟨e,he⟩:∃e,e=es.getD k zE:=⟨_,rfl⟩;rw[←he] at AK HP;clear he;obtain⟨d,hd⟩:∃d,d=es.getD m zE:=⟨_,rfl⟩;rw[←hd] at AM HP;clear hd;obtain⟨x0,x1,x2,x3,x4,x5⟩:=e;obtain⟨y0,y1,y2,y3,y4,y5⟩:=d;obtain⟨A3,-,-,-,-,-⟩:=atE AK;obtain⟨B3,-,-,-,-,-⟩:=atE AM;clear AK AM;have j1:(0:Int)≤(m:Int):=Int.natCast_nonneg _;have j2:(m:Int)<(es.length:Int):=by omega
     have j3:(es.length:Int)≤12:=by omega
     have HH:owP es k m=true→Hid (offIn (owP es) k T (m+1)=(offIn (owP es) k T m).set k (bits .andNot .i64 ((offIn (owP es) k T m).getD k 0) (wrap64 (2 ^ (m:Int).toNat)))):=fun hp=>Lib.hid (offIn_hit T hp)
     have HM:owP es k m=false→Hid (offIn (owP es) k T (m+1)=offIn (owP es) k T m):=fun hp=>Lib.hid (offIn_miss T hp)
     have d1:=hr.cell (j:=k) hBl;have d2:=hr.free k;have hGl:=hr.lt;obtain⟨S,hS⟩:∃S,S=offIn (owP es) k T m:=⟨_,rfl⟩;rw[←hS] at d1 hr HH HM;clear hS hBl;obtain⟨x,hx⟩:∃x,x=S.getD k 0:=⟨_,rfl⟩;rw[←hx] at d1 HH;clear hx;by_cases xy:x0=y0
     ·
      subst xy;have HE1:=HH (by rw[HP.out];simp);clear HH HM HP;go_wp2;go_quiet (fail)
      go_wp2;go_roundw;case rel=>exact⟨m+1,by omega,by omega,by go_num,by rw[HE1.out];exact (hr.drewN _).set k _,(hK.grown (grown_draw wr _ none) (by simp)).grown (grown_set _ G k _) (by simp;exact hG)⟩
      case measure=>simp[intOf];omega
     ·
      have xb:(x0==y0)=false:=by simp[xy]
      have HE1:=HM (by rw[HP.out];exact xb);clear HH HM HP d1 d2;go_wp2;go_quiet (fail)
      go_wp2;go_roundw;case rel=>exact⟨m+1,by omega,by omega,by go_num,by rw[HE1.out];exact hr.drewN _,hK.grown (grown_draw wr _ none) (by simp)⟩
      case measure=>simp[intOf];omega
    ·
     obtain rfl:m=es.length:=by omega
     go_wp2;go_roundw;case rel=>exact⟨k+1,by omega,by omega,by go_num,by rw[←HE.out];exact hr,hK⟩
     case measure=>simp[intOf];omega
  ·
   obtain rfl:k=es.length:=by omega
   have HL:=(web_offAll (p:=owP es) HW0.out es.length (Nat.le_refl _)).1.2.1;go_wp2;go_ret;exact⟨_,rfl,row_new hr hG HL,hK⟩
abbrev eV (i q:Int)(r:Bool)(pl vl c:Int):Value:= .agg #[.int .i64 i,.int .i64 q,.bool r,.int .i64 pl,.int .i64 vl,.int .i64 c]
theorem l7Whole_any (w:World)(v:Value)(dss:List (List Dd))(h:RdW w v dss)(i k:Nat)(r:Bool)(pl vl cl:Int)(hi:i<dss.length)(hk:k<(dss.getD i []).length):
  Calls Tryz.prog 104 #[v,eV i k r pl vl cl] w fun e w'=>e = .returned (.bool (wholeD ((dss.getD i []).getD k zD)))∧Keep w w':=by
 obtain⟨a,c,rfl,h⟩:=h;rcases h with h|⟨b,o,rfl,hb,hc⟩
 · exfalso;rw[h] at hi;simp at hi
 obtain⟨u,e1,r1⟩:=hc i hi;clear hc;obtain⟨ds,hds⟩:∃ds,ds=dss.getD i []:=⟨_,rfl⟩;rw[←hds] at r1 hk ⊢;clear hds;obtain⟨ai,ci,rfl,r1⟩:=r1;rcases r1 with h|⟨b2,o2,rfl,hb2,hc2⟩
 · exfalso;rw[h] at hk;simp at hk
 have AT:=hc2 k hk;clear hc2;obtain⟨d,hd⟩:∃d,d=ds.getD k zD:=⟨_,rfl⟩;rw[←hd] at AT ⊢;clear hd;obtain⟨x0,x1,x2,x3⟩:=d;obtain⟨A0,A1,A2,A3⟩:=AT;simp only at A0 A1 A2 A3;have i1:(0:Int)≤(i:Int):=Int.natCast_nonneg _;have i2:(i:Int)<(dss.length:Int):=by omega
 have j1:(0:Int)≤(k:Int):=Int.natCast_nonneg _;have j2:(k:Int)<(ds.length:Int):=by omega
 by_cases x3e:x0=3
 ·
  subst x3e;go_enter Tryz.func104,Tryz.ntmps104
  go_wp2;go_region
  go_wp2;go_ret;exact⟨by simp[wholeD],by first|exact (((Keep.refl w).alloc _).drew).alloc _|exact ((((Keep.refl w).alloc _)).alloc _).drew⟩
 ·
  have xb:(x0==3)=false:=by simp[x3e]
  have HE:Hid (wholeD (x0,x1,x2,x3)=decide (0<x3)):=Lib.hid (by simp[wholeD,x3e]);clear x3e;go_enter Tryz.func104,Tryz.ntmps104
  go_wp2;go_region
  go_wp2;go_ret;exact⟨by rw[HE.out];rfl,by first|exact (((Keep.refl w).alloc _).drew).alloc _|exact ((((Keep.refl w).alloc _)).alloc _).drew⟩
theorem l7Waits_any (w:World)(v:Value)(dss:List (List Dd))(h:RdW w v dss)(i p q:Nat)(r:Bool)(pl vl cl i':Int)(r':Bool)(pl' vl' cl':Int)(hi:i<dss.length)(hp:p<(dss.getD i []).length)(hq:q<(dss.getD i []).length)(hl:(dss.getD i []).length≤1048576):
  Calls Tryz.prog 103 #[v,eV i p r pl vl cl,eV i' q r' pl' vl' cl'] w fun e w'=>e = .returned (.bool (waitsD (dss.getD i []) p q))∧Keep w w':=by
 obtain⟨a,c,rfl,h⟩:=h;rcases h with h|⟨b,o,rfl,hb,hc⟩
 · exfalso;rw[h] at hi;simp at hi
 obtain⟨u,e1,r1⟩:=hc i hi;clear hc;obtain⟨ds,hds⟩:∃ds,ds=dss.getD i []:=⟨_,rfl⟩;rw[←hds] at r1 hp hq hl ⊢;clear hds;obtain⟨ai,ci,rfl,r1⟩:=r1;rcases r1 with h|⟨b2,o2,rfl,hb2,hc2⟩
 · exfalso;rw[h] at hp;simp at hp
 have i1:(0:Int)≤(i:Int):=Int.natCast_nonneg _;have i2:(i:Int)<(dss.length:Int):=by omega
 go_enter Tryz.func103,Tryz.ntmps103
 go_wp2;go_loopw [7] (fun s wr=>∃k:Nat,p<k∧k≤ds.length∧s = .int .i64 k∧Hid (∀j,p<j→j<k→(ds.getD j zD).1≠4)∧wr=(w.alloc (.cells #[.int .i64 i,.int .i64 p,.bool r,.int .i64 pl,.int .i64 vl,.int .i64 cl] 64)).alloc (.cells #[.int .i64 i',.int .i64 q,.bool r',.int .i64 pl',.int .i64 vl',.int .i64 cl'] 64)) (fun s _=>ds.length-(intOf s).toNat)
 case atStart=>exact⟨p+1,by omega,by omega,by go_num,Lib.hid (fun j h1 h2=>by omega),rfl⟩
 case round=>
  obtain⟨k,hpk,hk,rfl,HN,rfl⟩:=hrel;by_cases hlt:k<q
  ·
   have AT:=hc2 k (by omega);clear hc2;have HY:=@waitsD_yes ds p q k hpk hlt
   have HX:(ds.getD k zD).1≠4→Hid (∀j,p<j→j<k+1→(ds.getD j zD).1≠4):=fun h4=>Lib.hid (fun j h1 h2=>by
    by_cases e:j=k
    · subst e;exact h4
    · exact HN.out j h1 (by omega))
   obtain⟨d,hd⟩:∃d,d=ds.getD k zD:=⟨_,rfl⟩;rw[←hd] at AT HY HX;clear hd HN;obtain⟨x0,x1,x2,x3⟩:=d;obtain⟨A0,-,-,-⟩:=AT;simp only at A0 HY HX;have j0:(k:Int)<(q:Int):=by omega
   have j1:(0:Int)≤(k:Int):=Int.natCast_nonneg _;have j2:(k:Int)<(ds.length:Int):=by omega
   by_cases x4:x0=4
   ·
    have HE:=Lib.hid (HY x4);subst x4;clear HX HY;go_wp2;go_ret;exact⟨by rw[HE.out];rfl,((Keep.refl w).alloc _).alloc _⟩
   ·
    have HE:=HX x4;have xb:(x0==4)=false:=by simp[x4]
    clear HX HY x4;go_wp2;go_roundw;case rel=>exact⟨k+1,by omega,by omega,by go_num,HE,trivial⟩
    case measure=>simp[intOf];omega
  ·
   have HE:Hid (waitsD ds p q=false):=Lib.hid (waitsD_no (fun j h1 h2=>HN.out j h1 (by omega)));clear HN;have j0:(q:Int)≤(k:Int):=by omega
   go_wp2;go_ret;exact⟨by rw[HE.out];rfl,((Keep.refl w).alloc _).alloc _⟩
theorem l7Kept_any (w:World)(vd v:Value)(dss:List (List Dd))(es:List Ev)(hd:RdW w vd dss)(h:RdE w v es)(h3:3≤es.length)(hn:es.length≤12)(hl:∀i,i<dss.length→(dss.getD i []).length≤1048576)
  (hin:∀j,3≤j→j<es.length→∃i k:Nat,(es.getD j zE).1=(i:Int)∧(es.getD j zE).2.1=(k:Int)∧i<dss.length∧k<(dss.getD i []).length):
  Calls Tryz.prog 67 #[vd,v] w fun e w'=>∃v',e = .returned v'∧Row w' w.heap.size v' (kepL dss es)∧Keep w w':=by
 have HB:=(beh_line hn).1;have r:=h;obtain⟨a,c,rfl,h⟩:=h;go_enter Tryz.func67,Tryz.ntmps67
 go_wp2_with fail
 refine (l7Behind_any _ _ _ r hn).mono ?_;rintro e w1 ⟨v1,rfl,o1,k1⟩;clear r
 obtain⟨G,cap,rfl,hG,hR⟩:∃g cap,v1 = .slice (some ⟨g,0,none⟩) es.length cap∧w.heap.size≤g∧RowAt w1 g (behL es):=by
  rcases o1 with ⟨_,e⟩|⟨g,cap,e,hg,hr⟩
  ·
   have h0:es.length=0:=by rw[←HB.2.1,e];rfl
   omega
  · exact⟨g,cap,by rw[e,HB.2.1],hg,hr⟩
 clear o1;have HW0:=Lib.hid HB;clear HB;go_wp2;go_loopw [6] (fun i wr=>∃k:Nat,3≤k∧k≤es.length∧i = .int .i64 k∧RowAt wr G (offAll (kepP dss es) es.length (behL es) k)∧Keep w wr) (fun i _=>es.length-(intOf i).toNat)
 case atStart=>exact⟨3,Nat.le_refl _,h3,rfl,by rw[kep_three 3 (Nat.le_refl _)];exact hR,k1⟩
 case round=>
  obtain⟨k,hk3,hk,rfl,hr,hK⟩:=hrel;clear hR k1;by_cases hlt:k<es.length
  ·
   rcases h with h|⟨b,off,rfl,hb,hc⟩
   · exfalso;rw[h] at hlt;simp at hlt
   have AT:=hc k _ (evs_get hlt);have HW:=Lib.hid (web_offAll (p:=kepP dss es) HW0.out k (by omega)).1;have HE:Hid (offIn (kepP dss es) k (offAll (kepP dss es) es.length (behL es) k) es.length=offAll (kepP dss es) es.length (behL es) (k+1)):=Lib.hid rfl;have HHas:=fun m hm=>kep_has (dss:=dss) hn (k:=k) (m:=m) hlt hm
   generalize offAll (kepP dss es) es.length (behL es) k=T at *;obtain⟨wo,rfl⟩:∃wo:World,wo=wr:=⟨_,rfl⟩;have i1:(0:Int)≤(k:Int):=Int.natCast_nonneg _;have i2:(k:Int)<(es.length:Int):=by omega
   have HST:Hid (offIn (kepP dss es) k T (k+1)=T):=Lib.hid (offIn_none T _ (fun j hj=>kepP_up (by omega)));go_wp2;go_loopw [7] (fun i wr=>∃m:Nat,k+1≤m∧m≤es.length∧i = .int .i64 m∧RowAt wr G (offIn (kepP dss es) k T m)∧Keep w wr) (fun i _=>es.length-(intOf i).toNat)
   case atStart=>exact⟨k+1,Nat.le_refl _,by omega,by go_num,by rw[HST.out];exact hr,hK⟩
   case round=>
    clear hr hK HST;obtain⟨m,hkm,hm,rfl,hr,hK⟩:=hrel;by_cases hml:m<es.length
    ·
     have AK:=AT.keep hb hK;have AM:=(hc m _ (evs_get hml)).keep hb hK;have hbw:b<wr.heap.size:=Nat.lt_of_lt_of_le hb hK.size;have hB:=(web_offIn (p:=kepP dss es) hlt HW.out m hm).1;have hBl:k<(offIn (kepP dss es) k T m).length:=by rw[hB.2.1];exact hlt
     have hbt:bitB ((offIn (kepP dss es) k T m).getD k 0) m=behP es k m:=by
      rw[←inSetB_bit (okB_range (hB.2.2 k hlt)) (by omega)];exact HHas m hml
     obtain⟨ci,di,E0,E1,cI,dI⟩:=hin k hk3 hlt;obtain⟨ck,dk,F0,F1,cK,dK⟩:=hin m (by omega) hml
     have hcl:behP es k m=true→ci=ck:=fun hp=>by
      unfold behP at hp;rw[E0,F0] at hp;simp at hp;omega
     clear hB AT hc HHas hin;have HP:Hid (kepP dss es k m=(decide (3≤k)&&behP es k m&&kepQ dss (es.getD k zE) (es.getD m zE))):=Lib.hid rfl;obtain⟨e,he⟩:∃e,e=es.getD k zE:=⟨_,rfl⟩;rw[←he] at AK HP E0 E1;obtain⟨d,hd2⟩:∃d,d=es.getD m zE:=⟨_,rfl⟩;rw[←hd2] at AM HP F0 F1;obtain⟨x0,x1,x2,x3,x4,x5⟩:=e;obtain⟨y0,y1,y2,y3,y4,y5⟩:=d;simp only at E0 E1 F0 F1;subst E0 E1 F0 F1;have HP2:=Lib.hid (And.intro he hd2);clear he hd2;obtain⟨A0,A1,A2,A3,A4,A5⟩:=atE AK;obtain⟨B0,B1,B2,B3,B4,B5⟩:=atE AM;clear AK AM;have j1:(0:Int)≤(m:Int):=Int.natCast_nonneg _;have j2:(m:Int)<(es.length:Int):=by omega
     have j3:(es.length:Int)≤12:=by omega
     have HH:kepP dss es k m=true→Hid (offIn (kepP dss es) k T (m+1)=(offIn (kepP dss es) k T m).set k (bits .andNot .i64 ((offIn (kepP dss es) k T m).getD k 0) (wrap64 (2 ^ (m:Int).toNat)))):=fun hp=>Lib.hid (offIn_hit T hp)
     have HM:kepP dss es k m=false→Hid (offIn (kepP dss es) k T (m+1)=offIn (kepP dss es) k T m):=fun hp=>Lib.hid (offIn_miss T hp)
     have d1:=hr.cell (j:=k) hBl;have d2:=hr.free k;have hGl:=hr.lt;obtain⟨S,hS⟩:∃S,S=offIn (kepP dss es) k T m:=⟨_,rfl⟩;rw[←hS] at d1 hr HH HM hbt hBl;clear hS;obtain⟨x,hx⟩:∃x,x=S.getD k 0:=⟨_,rfl⟩;rw[←hx] at d1 HH hbt;have HX:=Lib.hid hx;clear hx;cases hbp:behP es k m
     ·
      have HE1:=HM (by rw[kepP,hbp];simp);rw[hbp] at hbt;clear HH HM HP HP2 d2 hcl;go_wp2;go_quiet ((go_at_call 65;exact Calls.quiet_of_same (l1Has_any _ _ _ (by omega) (by omega))))
      go_wp2;go_roundw;case rel=>exact⟨m+1,by omega,by omega,by go_num,by rw[HE1.out];exact hr.drewN _,hK.grown (grown_draw wr _ none) (by simp)⟩
      case measure=>simp[intOf];omega
     rw[hbp] at hbt;cases x2;rotate_left
     ·
      have HE1:=HM (by rw[HP.out,kepQ];simp[rdE]);clear HH HM HP HP2 d2 hcl;go_wp2;go_quiet ((go_at_call 65;exact Calls.quiet_of_same (l1Has_any _ _ _ (by omega) (by omega))))
      go_wp2;go_roundw;case rel=>exact⟨m+1,by omega,by omega,by go_num,by rw[HE1.out];exact hr.drewN _,hK.grown (grown_draw wr _ none) (by simp)⟩
      case measure=>simp[intOf];omega
     cases y2
     ·
      have HE1:=HM (by rw[HP.out,kepQ];simp[rdE]);clear HH HM HP HP2 d2 hcl;go_wp2;go_quiet ((go_at_call 65;exact Calls.quiet_of_same (l1Has_any _ _ _ (by omega) (by omega))))
      go_wp2;go_roundw;case rel=>exact⟨m+1,by omega,by omega,by go_num,by rw[HE1.out];exact hr.drewN _,hK.grown (grown_draw wr _ none) (by simp)⟩
      case measure=>simp[intOf];omega
     by_cases cc:x5=y5
     ·
      subst cc;have HE1:=HM (by rw[HP.out,kepQ];simp[csE]);clear HH HM HP HP2 d2 hcl;go_wp2;go_quiet ((go_at_call 65;exact Calls.quiet_of_same (l1Has_any _ _ _ (by omega) (by omega))))
      go_wp2;go_roundw;case rel=>exact⟨m+1,by omega,by omega,by go_num,by rw[HE1.out];exact hr.drewN _,hK.grown (grown_draw wr _ none) (by simp)⟩
      case measure=>simp[intOf];omega
     have cb:(x5==y5)=false:=by simp[cc]
     have xy:=hcl hbp;subst xy
     have HQ:Hid (kepP dss es k m=(!waitsD (dss.getD ci []) di dk&&!wholeD ((dss.getD ci []).getD di zD)&&!wholeD ((dss.getD ci []).getD dk zD))):=Lib.hid (by
      rw[kepP,hbp,←HP2.out.1,←HP2.out.2,kepQ];have h3':decide (3≤k)=true:=decide_eq_true hk3;have cn:(x5 != y5)=true:=by simp[cc]
      show (decide (3≤k)&&true&&(!false&&true&&(x5 != y5)&&(!waitsD (dss.getD ci []) di dk&&!wholeD ((dss.getD ci []).getD di zD)&&!wholeD ((dss.getD ci []).getD dk zD))))=_;rw[h3',cn]
      simp)
     clear HP2 cc hcl cK;have KW:=fun (wz:World) (kz:Keep wr wz)=>l7Waits_any wz vd dss (hd.keep (hK.trans kz)) ci di dk false x3 x4 x5 ci true y3 y4 y5 cI dI dK (hl ci cI)
     have KI:=fun (wz:World) (kz:Keep wr wz)=>l7Whole_any wz vd dss (hd.keep (hK.trans kz)) ci di false x3 x4 x5 cI dI
     have KK2:=fun (wz:World) (kz:Keep wr wz)=>l7Whole_any wz vd dss (hd.keep (hK.trans kz)) ci dk true y3 y4 y5 cI dK
     cases hw:waitsD (dss.getD ci []) di dk;rotate_left
     ·
      have HE1:=HM (by rw[HQ.out,hw];simp);rw[hw] at KW;clear HQ KI KK2;clear HH HM HP d2;go_wp2;go_quiet ((go_at_call 65;exact Calls.quiet_of_same (l1Has_any _ _ _ (by omega) (by omega))))
      go_wp2;have KR:Keep wr ((wr.drewN nq).drew):=((Keep.refl wr).grown (grown_draw wr nq none) (by simp)).drew;have z1:b<((wr.drewN nq).drew).heap.size:=hbw;refine wp_region_held_drew (S:=(fun w'=>w'.cell? ⟨b,off+k*6,none⟩=some (.int .i64 ci)∧w'.cell? ⟨b,off+k*6+1,none⟩=some (.int .i64 di)∧w'.cell? ⟨b,off+k*6+2,none⟩=some (.bool false)∧w'.cell? ⟨b,off+k*6+3,none⟩=some (.int .i64 x3)∧w'.cell? ⟨b,off+k*6+4,none⟩=some (.int .i64 x4)∧w'.cell? ⟨b,off+k*6+5,none⟩=some (.int .i64 x5)∧w'.cell? ⟨b,off+m*6,none⟩=some (.int .i64 ci)∧w'.cell? ⟨b,off+m*6+1,none⟩=some (.int .i64 dk)∧w'.cell? ⟨b,off+m*6+2,none⟩=some (.bool true)∧w'.cell? ⟨b,off+m*6+3,none⟩=some (.int .i64 y3)∧w'.cell? ⟨b,off+m*6+4,none⟩=some (.int .i64 y4)∧w'.cell? ⟨b,off+m*6+5,none⟩=some (.int .i64 y5))) (by kernel_rfl) ?_ (fun hHeld=>?_)
      · go_keep
      refine takeQ 0 59 (v:=?_) ?_ ?_;rotate_left
      ·
       intro wx hSw;go_simp;with_reducible rfl
      simp only[Act.put,List.setIfInBounds_toArray,List.set_cons_zero,List.set_cons_succ];refine takeQ 1 60 (v:=?_) ?_ ?_;rotate_left
      ·
       intro wx hSw;go_simp;with_reducible rfl
      simp only[Act.put,List.setIfInBounds_toArray,List.set_cons_zero,List.set_cons_succ];refine takeQ 2 61 (v:=?_) ?_ ?_;rotate_left
      ·
       intro wx hSw;go_simp;with_reducible rfl
      simp only[Act.put,List.setIfInBounds_toArray,List.set_cons_zero,List.set_cons_succ];refine takeQ 3 62 (v:=?_) ?_ ?_;rotate_left
      ·
       intro wx hSw;go_simp;with_reducible rfl
      simp only[Act.put,List.setIfInBounds_toArray,List.set_cons_zero,List.set_cons_succ];refine takeQ 4 63 (v:=?_) ?_ ?_;rotate_left
      ·
       intro wx hSw;go_simp;with_reducible rfl
      simp only[Act.put,List.setIfInBounds_toArray,List.set_cons_zero,List.set_cons_succ];refine takeQ 5 64 (v:=?_) ?_ ?_;rotate_left
      ·
       intro wx hSw;go_simp;with_reducible rfl
      simp only[Act.put,List.setIfInBounds_toArray,List.set_cons_zero,List.set_cons_succ];refine takeQ 6 65 (v:=?_) ?_ ?_;rotate_left
      ·
       intro wx hSw;go_simp;with_reducible rfl
      simp only[Act.put,List.setIfInBounds_toArray,List.set_cons_zero,List.set_cons_succ];refine takeQ 7 66 (v:=?_) ?_ ?_;rotate_left
      ·
       intro wx hSw;go_simp;with_reducible rfl
      simp only[Act.put,List.setIfInBounds_toArray,List.set_cons_zero,List.set_cons_succ];refine takeQ 8 67 (v:=?_) ?_ ?_;rotate_left
      ·
       intro wx hSw;go_simp;with_reducible rfl
      simp only[Act.put,List.setIfInBounds_toArray,List.set_cons_zero,List.set_cons_succ];refine wpAnyH_ready (rs:=[9]) (by kernel_rfl) (by simp) ?_;refine AllReadyH.cons rfl (fun K hK=>?_) AllReadyH.nil;go_simp;refine (KW _ KR).mono ?_;rintro e wz1 ⟨rfl,kk⟩;have z0:=z1;have KR:=KR.trans kk;have z1:=Nat.lt_of_lt_of_le z1 kk.size;go_wp2_with fail
      refine hK.out _ _ ?_ (fun hHeld=>?_)
      · exact⟨(kk.cell z0).trans hHeld.1,(kk.cell z0).trans hHeld.2.1,(kk.cell z0).trans hHeld.2.2.1,(kk.cell z0).trans hHeld.2.2.2.1,(kk.cell z0).trans hHeld.2.2.2.2.1,(kk.cell z0).trans hHeld.2.2.2.2.2.1,(kk.cell z0).trans hHeld.2.2.2.2.2.2.1,(kk.cell z0).trans hHeld.2.2.2.2.2.2.2.1,(kk.cell z0).trans hHeld.2.2.2.2.2.2.2.2.1,(kk.cell z0).trans hHeld.2.2.2.2.2.2.2.2.2.1,(kk.cell z0).trans hHeld.2.2.2.2.2.2.2.2.2.2.1,(kk.cell z0).trans hHeld.2.2.2.2.2.2.2.2.2.2.2⟩
      clear hK K;refine takeQ 10 69 (v:=?_) ?_ ?_;rotate_left
      ·
       intro wx hSw;go_simp;with_reducible rfl
      simp only[Act.put,List.setIfInBounds_toArray,List.set_cons_zero,List.set_cons_succ];refine takeQ 11 70 (v:=?_) ?_ ?_;rotate_left
      ·
       intro wx hSw;go_simp;with_reducible rfl
      simp only[Act.put,List.setIfInBounds_toArray,List.set_cons_zero,List.set_cons_succ];refine skipH 12 71 rfl rfl (by kernel_rfl) (by kernel_rfl) (by kernel_rfl) (fun _ _ _ h=>h) (by rfl) (by assumption) ?_;simp only[Act.put,List.setIfInBounds_toArray,List.set_cons_zero,List.set_cons_succ];refine skipH 13 72 rfl rfl (by kernel_rfl) (by kernel_rfl) (by kernel_rfl) (fun _ _ _ h=>h) (by rfl) (by assumption) ?_;simp only[Act.put,List.setIfInBounds_toArray,List.set_cons_zero,List.set_cons_succ];refine skipH 14 73 rfl rfl (by kernel_rfl) (by kernel_rfl) (by kernel_rfl) (fun _ _ _ h=>h) (by rfl) (by assumption) ?_;simp only[Act.put,List.setIfInBounds_toArray,List.set_cons_zero,List.set_cons_succ];refine skipH 15 74 rfl rfl (by kernel_rfl) (by kernel_rfl) (by kernel_rfl) (fun _ _ _ h=>h) (by rfl) (by assumption) ?_;simp only[Act.put,List.setIfInBounds_toArray,List.set_cons_zero,List.set_cons_succ];refine skipH 16 75 rfl rfl (by kernel_rfl) (by kernel_rfl) (by kernel_rfl) (fun _ _ _ h=>h) (by rfl) (by assumption) ?_;simp only[Act.put,List.setIfInBounds_toArray,List.set_cons_zero,List.set_cons_succ];refine skipH 17 76 rfl rfl (by kernel_rfl) (by kernel_rfl) (by kernel_rfl) (fun _ _ _ h=>h) (by rfl) (by assumption) ?_;simp only[Act.put,List.setIfInBounds_toArray,List.set_cons_zero,List.set_cons_succ];refine skipH 18 77 rfl rfl (by kernel_rfl) (by kernel_rfl) (by kernel_rfl) (fun _ _ _ h=>h) (by rfl) (by assumption) ?_;simp only[Act.put,List.setIfInBounds_toArray,List.set_cons_zero,List.set_cons_succ];refine takeQ 19 78 (v:=?_) ?_ ?_;rotate_left
      ·
       intro wx hSw;go_simp;with_reducible rfl
      simp only[Act.put,List.setIfInBounds_toArray,List.set_cons_zero,List.set_cons_succ];refine takeQ 20 79 (v:=?_) ?_ ?_;rotate_left
      ·
       intro wx hSw;go_simp;with_reducible rfl
      simp only[Act.put,List.setIfInBounds_toArray,List.set_cons_zero,List.set_cons_succ];refine skipH 21 80 rfl rfl (by kernel_rfl) (by kernel_rfl) (by kernel_rfl) (fun _ _ _ h=>h) (by rfl) (by assumption) ?_;simp only[Act.put,List.setIfInBounds_toArray,List.set_cons_zero,List.set_cons_succ];refine skipH 22 81 rfl rfl (by kernel_rfl) (by kernel_rfl) (by kernel_rfl) (fun _ _ _ h=>h) (by rfl) (by assumption) ?_;simp only[Act.put,List.setIfInBounds_toArray,List.set_cons_zero,List.set_cons_succ];refine skipH 23 82 rfl rfl (by kernel_rfl) (by kernel_rfl) (by kernel_rfl) (fun _ _ _ h=>h) (by rfl) (by assumption) ?_;simp only[Act.put,List.setIfInBounds_toArray,List.set_cons_zero,List.set_cons_succ];refine skipH 24 83 rfl rfl (by kernel_rfl) (by kernel_rfl) (by kernel_rfl) (fun _ _ _ h=>h) (by rfl) (by assumption) ?_;simp only[Act.put,List.setIfInBounds_toArray,List.set_cons_zero,List.set_cons_succ];refine skipH 25 84 rfl rfl (by kernel_rfl) (by kernel_rfl) (by kernel_rfl) (fun _ _ _ h=>h) (by rfl) (by assumption) ?_;simp only[Act.put,List.setIfInBounds_toArray,List.set_cons_zero,List.set_cons_succ];refine skipH 26 85 rfl rfl (by kernel_rfl) (by kernel_rfl) (by kernel_rfl) (fun _ _ _ h=>h) (by rfl) (by assumption) ?_;simp only[Act.put,List.setIfInBounds_toArray,List.set_cons_zero,List.set_cons_succ];refine skipH 27 86 rfl rfl (by kernel_rfl) (by kernel_rfl) (by kernel_rfl) (fun _ _ _ h=>h) (by rfl) (by assumption) ?_;simp only[Act.put,List.setIfInBounds_toArray,List.set_cons_zero,List.set_cons_succ];refine takeQ 28 87 (v:=?_) ?_ ?_;rotate_left
      ·
       intro wx hSw;go_simp;with_reducible rfl
      simp only[Act.put,List.setIfInBounds_toArray,List.set_cons_zero,List.set_cons_succ];refine wpAnyH_done (by kernel_rfl) ?_ _;clear d1 hHeld;have hr:=hr.keep KR;go_wp2;go_roundw;case rel=>exact⟨m+1,by omega,by omega,by go_num,by rw[HE1.out];exact hr,hK.trans KR⟩
      case measure=>simp[intOf];omega
     cases hi1:wholeD ((dss.getD ci []).getD di zD);rotate_left
     ·
      have HE1:=HM (by rw[HQ.out,hw,hi1];simp);rw[hw] at KW;rw[hi1] at KI;clear HQ KK2;clear HH HM HP d2;go_wp2;go_quiet ((go_at_call 65;exact Calls.quiet_of_same (l1Has_any _ _ _ (by omega) (by omega))))
      go_wp2;have KR:Keep wr ((wr.drewN nq).drew):=((Keep.refl wr).grown (grown_draw wr nq none) (by simp)).drew;have z1:b<((wr.drewN nq).drew).heap.size:=hbw;refine wp_region_held_drew (S:=(fun w'=>w'.cell? ⟨b,off+k*6,none⟩=some (.int .i64 ci)∧w'.cell? ⟨b,off+k*6+1,none⟩=some (.int .i64 di)∧w'.cell? ⟨b,off+k*6+2,none⟩=some (.bool false)∧w'.cell? ⟨b,off+k*6+3,none⟩=some (.int .i64 x3)∧w'.cell? ⟨b,off+k*6+4,none⟩=some (.int .i64 x4)∧w'.cell? ⟨b,off+k*6+5,none⟩=some (.int .i64 x5)∧w'.cell? ⟨b,off+m*6,none⟩=some (.int .i64 ci)∧w'.cell? ⟨b,off+m*6+1,none⟩=some (.int .i64 dk)∧w'.cell? ⟨b,off+m*6+2,none⟩=some (.bool true)∧w'.cell? ⟨b,off+m*6+3,none⟩=some (.int .i64 y3)∧w'.cell? ⟨b,off+m*6+4,none⟩=some (.int .i64 y4)∧w'.cell? ⟨b,off+m*6+5,none⟩=some (.int .i64 y5))) (by kernel_rfl) ?_ (fun hHeld=>?_)
      · go_keep
      refine takeQ 0 59 (v:=?_) ?_ ?_;rotate_left
      ·
       intro wx hSw;go_simp;with_reducible rfl
      simp only[Act.put,List.setIfInBounds_toArray,List.set_cons_zero,List.set_cons_succ];refine takeQ 1 60 (v:=?_) ?_ ?_;rotate_left
      ·
       intro wx hSw;go_simp;with_reducible rfl
      simp only[Act.put,List.setIfInBounds_toArray,List.set_cons_zero,List.set_cons_succ];refine takeQ 2 61 (v:=?_) ?_ ?_;rotate_left
      ·
       intro wx hSw;go_simp;with_reducible rfl
      simp only[Act.put,List.setIfInBounds_toArray,List.set_cons_zero,List.set_cons_succ];refine takeQ 3 62 (v:=?_) ?_ ?_;rotate_left
      ·
       intro wx hSw;go_simp;with_reducible rfl
      simp only[Act.put,List.setIfInBounds_toArray,List.set_cons_zero,List.set_cons_succ];refine takeQ 4 63 (v:=?_) ?_ ?_;rotate_left
      ·
       intro wx hSw;go_simp;with_reducible rfl
      simp only[Act.put,List.setIfInBounds_toArray,List.set_cons_zero,List.set_cons_succ];refine takeQ 5 64 (v:=?_) ?_ ?_;rotate_left
      ·
       intro wx hSw;go_simp;with_reducible rfl
      simp only[Act.put,List.setIfInBounds_toArray,List.set_cons_zero,List.set_cons_succ];refine takeQ 6 65 (v:=?_) ?_ ?_;rotate_left
      ·
       intro wx hSw;go_simp;with_reducible rfl
      simp only[Act.put,List.setIfInBounds_toArray,List.set_cons_zero,List.set_cons_succ];refine takeQ 7 66 (v:=?_) ?_ ?_;rotate_left
      ·
       intro wx hSw;go_simp;with_reducible rfl
      simp only[Act.put,List.setIfInBounds_toArray,List.set_cons_zero,List.set_cons_succ];refine takeQ 8 67 (v:=?_) ?_ ?_;rotate_left
      ·
       intro wx hSw;go_simp;with_reducible rfl
      simp only[Act.put,List.setIfInBounds_toArray,List.set_cons_zero,List.set_cons_succ];refine wpAnyH_ready (rs:=[9]) (by kernel_rfl) (by simp) ?_;refine AllReadyH.cons rfl (fun K hK=>?_) AllReadyH.nil;go_simp;refine (KW _ KR).mono ?_;rintro e wz1 ⟨rfl,kk⟩;have z0:=z1;have KR:=KR.trans kk;have z1:=Nat.lt_of_lt_of_le z1 kk.size;go_wp2_with fail
      refine hK.out _ _ ?_ (fun hHeld=>?_)
      · exact⟨(kk.cell z0).trans hHeld.1,(kk.cell z0).trans hHeld.2.1,(kk.cell z0).trans hHeld.2.2.1,(kk.cell z0).trans hHeld.2.2.2.1,(kk.cell z0).trans hHeld.2.2.2.2.1,(kk.cell z0).trans hHeld.2.2.2.2.2.1,(kk.cell z0).trans hHeld.2.2.2.2.2.2.1,(kk.cell z0).trans hHeld.2.2.2.2.2.2.2.1,(kk.cell z0).trans hHeld.2.2.2.2.2.2.2.2.1,(kk.cell z0).trans hHeld.2.2.2.2.2.2.2.2.2.1,(kk.cell z0).trans hHeld.2.2.2.2.2.2.2.2.2.2.1,(kk.cell z0).trans hHeld.2.2.2.2.2.2.2.2.2.2.2⟩
      clear hK K;refine takeQ 10 69 (v:=?_) ?_ ?_;rotate_left
      ·
       intro wx hSw;go_simp;with_reducible rfl
      simp only[Act.put,List.setIfInBounds_toArray,List.set_cons_zero,List.set_cons_succ];refine takeQ 11 70 (v:=?_) ?_ ?_;rotate_left
      ·
       intro wx hSw;go_simp;with_reducible rfl
      simp only[Act.put,List.setIfInBounds_toArray,List.set_cons_zero,List.set_cons_succ];refine takeQ 12 71 (v:=?_) ?_ ?_;rotate_left
      ·
       intro wx hSw;go_simp;with_reducible rfl
      simp only[Act.put,List.setIfInBounds_toArray,List.set_cons_zero,List.set_cons_succ];refine takeQ 13 72 (v:=?_) ?_ ?_;rotate_left
      ·
       intro wx hSw;go_simp;with_reducible rfl
      simp only[Act.put,List.setIfInBounds_toArray,List.set_cons_zero,List.set_cons_succ];refine takeQ 14 73 (v:=?_) ?_ ?_;rotate_left
      ·
       intro wx hSw;go_simp;with_reducible rfl
      simp only[Act.put,List.setIfInBounds_toArray,List.set_cons_zero,List.set_cons_succ];refine takeQ 15 74 (v:=?_) ?_ ?_;rotate_left
      ·
       intro wx hSw;go_simp;with_reducible rfl
      simp only[Act.put,List.setIfInBounds_toArray,List.set_cons_zero,List.set_cons_succ];refine takeQ 16 75 (v:=?_) ?_ ?_;rotate_left
      ·
       intro wx hSw;go_simp;with_reducible rfl
      simp only[Act.put,List.setIfInBounds_toArray,List.set_cons_zero,List.set_cons_succ];refine wpAnyH_ready (rs:=[17]) (by kernel_rfl) (by simp) ?_;refine AllReadyH.cons rfl (fun K hK=>?_) AllReadyH.nil;go_simp;refine (KI _ KR).mono ?_;rintro e wz2 ⟨rfl,kk⟩;have z0:=z1;have KR:=KR.trans kk;have z1:=Nat.lt_of_lt_of_le z1 kk.size;go_wp2_with fail
      refine hK.out _ _ ?_ (fun hHeld=>?_)
      · exact⟨(kk.cell z0).trans hHeld.1,(kk.cell z0).trans hHeld.2.1,(kk.cell z0).trans hHeld.2.2.1,(kk.cell z0).trans hHeld.2.2.2.1,(kk.cell z0).trans hHeld.2.2.2.2.1,(kk.cell z0).trans hHeld.2.2.2.2.2.1,(kk.cell z0).trans hHeld.2.2.2.2.2.2.1,(kk.cell z0).trans hHeld.2.2.2.2.2.2.2.1,(kk.cell z0).trans hHeld.2.2.2.2.2.2.2.2.1,(kk.cell z0).trans hHeld.2.2.2.2.2.2.2.2.2.1,(kk.cell z0).trans hHeld.2.2.2.2.2.2.2.2.2.2.1,(kk.cell z0).trans hHeld.2.2.2.2.2.2.2.2.2.2.2⟩
      clear hK K;refine takeQ 18 77 (v:=?_) ?_ ?_;rotate_left
      ·
       intro wx hSw;go_simp;with_reducible rfl
      simp only[Act.put,List.setIfInBounds_toArray,List.set_cons_zero,List.set_cons_succ];refine takeQ 19 78 (v:=?_) ?_ ?_;rotate_left
      ·
       intro wx hSw;go_simp;with_reducible rfl
      simp only[Act.put,List.setIfInBounds_toArray,List.set_cons_zero,List.set_cons_succ];refine takeQ 20 79 (v:=?_) ?_ ?_;rotate_left
      ·
       intro wx hSw;go_simp;with_reducible rfl
      simp only[Act.put,List.setIfInBounds_toArray,List.set_cons_zero,List.set_cons_succ];refine skipH 21 80 rfl rfl (by kernel_rfl) (by kernel_rfl) (by kernel_rfl) (fun _ _ _ h=>h) (by rfl) (by assumption) ?_;simp only[Act.put,List.setIfInBounds_toArray,List.set_cons_zero,List.set_cons_succ];refine skipH 22 81 rfl rfl (by kernel_rfl) (by kernel_rfl) (by kernel_rfl) (fun _ _ _ h=>h) (by rfl) (by assumption) ?_;simp only[Act.put,List.setIfInBounds_toArray,List.set_cons_zero,List.set_cons_succ];refine skipH 23 82 rfl rfl (by kernel_rfl) (by kernel_rfl) (by kernel_rfl) (fun _ _ _ h=>h) (by rfl) (by assumption) ?_;simp only[Act.put,List.setIfInBounds_toArray,List.set_cons_zero,List.set_cons_succ];refine skipH 24 83 rfl rfl (by kernel_rfl) (by kernel_rfl) (by kernel_rfl) (fun _ _ _ h=>h) (by rfl) (by assumption) ?_;simp only[Act.put,List.setIfInBounds_toArray,List.set_cons_zero,List.set_cons_succ];refine skipH 25 84 rfl rfl (by kernel_rfl) (by kernel_rfl) (by kernel_rfl) (fun _ _ _ h=>h) (by rfl) (by assumption) ?_;simp only[Act.put,List.setIfInBounds_toArray,List.set_cons_zero,List.set_cons_succ];refine skipH 26 85 rfl rfl (by kernel_rfl) (by kernel_rfl) (by kernel_rfl) (fun _ _ _ h=>h) (by rfl) (by assumption) ?_;simp only[Act.put,List.setIfInBounds_toArray,List.set_cons_zero,List.set_cons_succ];refine skipH 27 86 rfl rfl (by kernel_rfl) (by kernel_rfl) (by kernel_rfl) (fun _ _ _ h=>h) (by rfl) (by assumption) ?_;simp only[Act.put,List.setIfInBounds_toArray,List.set_cons_zero,List.set_cons_succ];refine takeQ 28 87 (v:=?_) ?_ ?_;rotate_left
      ·
       intro wx hSw;go_simp;with_reducible rfl
      simp only[Act.put,List.setIfInBounds_toArray,List.set_cons_zero,List.set_cons_succ];refine wpAnyH_done (by kernel_rfl) ?_ _;clear d1 hHeld;have hr:=hr.keep KR;go_wp2;go_roundw;case rel=>exact⟨m+1,by omega,by omega,by go_num,by rw[HE1.out];exact hr,hK.trans KR⟩
      case measure=>simp[intOf];omega
     cases hk1:wholeD ((dss.getD ci []).getD dk zD);rotate_left
     ·
      have HE1:=HM (by rw[HQ.out,hw,hi1,hk1];simp);rw[hw] at KW;rw[hi1] at KI;rw[hk1] at KK2;clear HQ;clear HH HM HP d2;go_wp2;go_quiet ((go_at_call 65;exact Calls.quiet_of_same (l1Has_any _ _ _ (by omega) (by omega))))
      go_wp2;have KR:Keep wr ((wr.drewN nq).drew):=((Keep.refl wr).grown (grown_draw wr nq none) (by simp)).drew;have z1:b<((wr.drewN nq).drew).heap.size:=hbw;refine wp_region_held_drew (S:=(fun w'=>w'.cell? ⟨b,off+k*6,none⟩=some (.int .i64 ci)∧w'.cell? ⟨b,off+k*6+1,none⟩=some (.int .i64 di)∧w'.cell? ⟨b,off+k*6+2,none⟩=some (.bool false)∧w'.cell? ⟨b,off+k*6+3,none⟩=some (.int .i64 x3)∧w'.cell? ⟨b,off+k*6+4,none⟩=some (.int .i64 x4)∧w'.cell? ⟨b,off+k*6+5,none⟩=some (.int .i64 x5)∧w'.cell? ⟨b,off+m*6,none⟩=some (.int .i64 ci)∧w'.cell? ⟨b,off+m*6+1,none⟩=some (.int .i64 dk)∧w'.cell? ⟨b,off+m*6+2,none⟩=some (.bool true)∧w'.cell? ⟨b,off+m*6+3,none⟩=some (.int .i64 y3)∧w'.cell? ⟨b,off+m*6+4,none⟩=some (.int .i64 y4)∧w'.cell? ⟨b,off+m*6+5,none⟩=some (.int .i64 y5))) (by kernel_rfl) ?_ (fun hHeld=>?_)
      · go_keep
      refine takeQ 0 59 (v:=?_) ?_ ?_;rotate_left
      ·
       intro wx hSw;go_simp;with_reducible rfl
      simp only[Act.put,List.setIfInBounds_toArray,List.set_cons_zero,List.set_cons_succ];refine takeQ 1 60 (v:=?_) ?_ ?_;rotate_left
      ·
       intro wx hSw;go_simp;with_reducible rfl
      simp only[Act.put,List.setIfInBounds_toArray,List.set_cons_zero,List.set_cons_succ];refine takeQ 2 61 (v:=?_) ?_ ?_;rotate_left
      ·
       intro wx hSw;go_simp;with_reducible rfl
      simp only[Act.put,List.setIfInBounds_toArray,List.set_cons_zero,List.set_cons_succ];refine takeQ 3 62 (v:=?_) ?_ ?_;rotate_left
      ·
       intro wx hSw;go_simp;with_reducible rfl
      simp only[Act.put,List.setIfInBounds_toArray,List.set_cons_zero,List.set_cons_succ];refine takeQ 4 63 (v:=?_) ?_ ?_;rotate_left
      ·
       intro wx hSw;go_simp;with_reducible rfl
      simp only[Act.put,List.setIfInBounds_toArray,List.set_cons_zero,List.set_cons_succ];refine takeQ 5 64 (v:=?_) ?_ ?_;rotate_left
      ·
       intro wx hSw;go_simp;with_reducible rfl
      simp only[Act.put,List.setIfInBounds_toArray,List.set_cons_zero,List.set_cons_succ];refine takeQ 6 65 (v:=?_) ?_ ?_;rotate_left
      ·
       intro wx hSw;go_simp;with_reducible rfl
      simp only[Act.put,List.setIfInBounds_toArray,List.set_cons_zero,List.set_cons_succ];refine takeQ 7 66 (v:=?_) ?_ ?_;rotate_left
      ·
       intro wx hSw;go_simp;with_reducible rfl
      simp only[Act.put,List.setIfInBounds_toArray,List.set_cons_zero,List.set_cons_succ];refine takeQ 8 67 (v:=?_) ?_ ?_;rotate_left
      ·
       intro wx hSw;go_simp;with_reducible rfl
      simp only[Act.put,List.setIfInBounds_toArray,List.set_cons_zero,List.set_cons_succ];refine wpAnyH_ready (rs:=[9]) (by kernel_rfl) (by simp) ?_;refine AllReadyH.cons rfl (fun K hK=>?_) AllReadyH.nil;go_simp;refine (KW _ KR).mono ?_;rintro e wz1 ⟨rfl,kk⟩;have z0:=z1;have KR:=KR.trans kk;have z1:=Nat.lt_of_lt_of_le z1 kk.size;go_wp2_with fail
      refine hK.out _ _ ?_ (fun hHeld=>?_)
      · exact⟨(kk.cell z0).trans hHeld.1,(kk.cell z0).trans hHeld.2.1,(kk.cell z0).trans hHeld.2.2.1,(kk.cell z0).trans hHeld.2.2.2.1,(kk.cell z0).trans hHeld.2.2.2.2.1,(kk.cell z0).trans hHeld.2.2.2.2.2.1,(kk.cell z0).trans hHeld.2.2.2.2.2.2.1,(kk.cell z0).trans hHeld.2.2.2.2.2.2.2.1,(kk.cell z0).trans hHeld.2.2.2.2.2.2.2.2.1,(kk.cell z0).trans hHeld.2.2.2.2.2.2.2.2.2.1,(kk.cell z0).trans hHeld.2.2.2.2.2.2.2.2.2.2.1,(kk.cell z0).trans hHeld.2.2.2.2.2.2.2.2.2.2.2⟩
      clear hK K;refine takeQ 10 69 (v:=?_) ?_ ?_;rotate_left
      ·
       intro wx hSw;go_simp;with_reducible rfl
      simp only[Act.put,List.setIfInBounds_toArray,List.set_cons_zero,List.set_cons_succ];refine takeQ 11 70 (v:=?_) ?_ ?_;rotate_left
      ·
       intro wx hSw;go_simp;with_reducible rfl
      simp only[Act.put,List.setIfInBounds_toArray,List.set_cons_zero,List.set_cons_succ];refine takeQ 12 71 (v:=?_) ?_ ?_;rotate_left
      ·
       intro wx hSw;go_simp;with_reducible rfl
      simp only[Act.put,List.setIfInBounds_toArray,List.set_cons_zero,List.set_cons_succ];refine takeQ 13 72 (v:=?_) ?_ ?_;rotate_left
      ·
       intro wx hSw;go_simp;with_reducible rfl
      simp only[Act.put,List.setIfInBounds_toArray,List.set_cons_zero,List.set_cons_succ];refine takeQ 14 73 (v:=?_) ?_ ?_;rotate_left
      ·
       intro wx hSw;go_simp;with_reducible rfl
      simp only[Act.put,List.setIfInBounds_toArray,List.set_cons_zero,List.set_cons_succ];refine takeQ 15 74 (v:=?_) ?_ ?_;rotate_left
      ·
       intro wx hSw;go_simp;with_reducible rfl
      simp only[Act.put,List.setIfInBounds_toArray,List.set_cons_zero,List.set_cons_succ];refine takeQ 16 75 (v:=?_) ?_ ?_;rotate_left
      ·
       intro wx hSw;go_simp;with_reducible rfl
      simp only[Act.put,List.setIfInBounds_toArray,List.set_cons_zero,List.set_cons_succ];refine wpAnyH_ready (rs:=[17]) (by kernel_rfl) (by simp) ?_;refine AllReadyH.cons rfl (fun K hK=>?_) AllReadyH.nil;go_simp;refine (KI _ KR).mono ?_;rintro e wz2 ⟨rfl,kk⟩;have z0:=z1;have KR:=KR.trans kk;have z1:=Nat.lt_of_lt_of_le z1 kk.size;go_wp2_with fail
      refine hK.out _ _ ?_ (fun hHeld=>?_)
      · exact⟨(kk.cell z0).trans hHeld.1,(kk.cell z0).trans hHeld.2.1,(kk.cell z0).trans hHeld.2.2.1,(kk.cell z0).trans hHeld.2.2.2.1,(kk.cell z0).trans hHeld.2.2.2.2.1,(kk.cell z0).trans hHeld.2.2.2.2.2.1,(kk.cell z0).trans hHeld.2.2.2.2.2.2.1,(kk.cell z0).trans hHeld.2.2.2.2.2.2.2.1,(kk.cell z0).trans hHeld.2.2.2.2.2.2.2.2.1,(kk.cell z0).trans hHeld.2.2.2.2.2.2.2.2.2.1,(kk.cell z0).trans hHeld.2.2.2.2.2.2.2.2.2.2.1,(kk.cell z0).trans hHeld.2.2.2.2.2.2.2.2.2.2.2⟩
      clear hK K;refine takeQ 18 77 (v:=?_) ?_ ?_;rotate_left
      ·
       intro wx hSw;go_simp;with_reducible rfl
      simp only[Act.put,List.setIfInBounds_toArray,List.set_cons_zero,List.set_cons_succ];refine takeQ 19 78 (v:=?_) ?_ ?_;rotate_left
      ·
       intro wx hSw;go_simp;with_reducible rfl
      simp only[Act.put,List.setIfInBounds_toArray,List.set_cons_zero,List.set_cons_succ];refine takeQ 20 79 (v:=?_) ?_ ?_;rotate_left
      ·
       intro wx hSw;go_simp;with_reducible rfl
      simp only[Act.put,List.setIfInBounds_toArray,List.set_cons_zero,List.set_cons_succ];refine takeQ 21 80 (v:=?_) ?_ ?_;rotate_left
      ·
       intro wx hSw;go_simp;with_reducible rfl
      simp only[Act.put,List.setIfInBounds_toArray,List.set_cons_zero,List.set_cons_succ];refine takeQ 22 81 (v:=?_) ?_ ?_;rotate_left
      ·
       intro wx hSw;go_simp;with_reducible rfl
      simp only[Act.put,List.setIfInBounds_toArray,List.set_cons_zero,List.set_cons_succ];refine takeQ 23 82 (v:=?_) ?_ ?_;rotate_left
      ·
       intro wx hSw;go_simp;with_reducible rfl
      simp only[Act.put,List.setIfInBounds_toArray,List.set_cons_zero,List.set_cons_succ];refine takeQ 24 83 (v:=?_) ?_ ?_;rotate_left
      ·
       intro wx hSw;go_simp;with_reducible rfl
      simp only[Act.put,List.setIfInBounds_toArray,List.set_cons_zero,List.set_cons_succ];refine takeQ 25 84 (v:=?_) ?_ ?_;rotate_left
      ·
       intro wx hSw;go_simp;with_reducible rfl
      simp only[Act.put,List.setIfInBounds_toArray,List.set_cons_zero,List.set_cons_succ];refine wpAnyH_ready (rs:=[26]) (by kernel_rfl) (by simp) ?_;refine AllReadyH.cons rfl (fun K hK=>?_) AllReadyH.nil;go_simp;refine (KK2 _ KR).mono ?_;rintro e wz3 ⟨rfl,kk⟩;have z0:=z1;have KR:=KR.trans kk;have z1:=Nat.lt_of_lt_of_le z1 kk.size;go_wp2_with fail
      refine hK.out _ _ ?_ (fun hHeld=>?_)
      · exact⟨(kk.cell z0).trans hHeld.1,(kk.cell z0).trans hHeld.2.1,(kk.cell z0).trans hHeld.2.2.1,(kk.cell z0).trans hHeld.2.2.2.1,(kk.cell z0).trans hHeld.2.2.2.2.1,(kk.cell z0).trans hHeld.2.2.2.2.2.1,(kk.cell z0).trans hHeld.2.2.2.2.2.2.1,(kk.cell z0).trans hHeld.2.2.2.2.2.2.2.1,(kk.cell z0).trans hHeld.2.2.2.2.2.2.2.2.1,(kk.cell z0).trans hHeld.2.2.2.2.2.2.2.2.2.1,(kk.cell z0).trans hHeld.2.2.2.2.2.2.2.2.2.2.1,(kk.cell z0).trans hHeld.2.2.2.2.2.2.2.2.2.2.2⟩
      clear hK K;refine takeQ 27 86 (v:=?_) ?_ ?_;rotate_left
      ·
       intro wx hSw;go_simp;with_reducible rfl
      simp only[Act.put,List.setIfInBounds_toArray,List.set_cons_zero,List.set_cons_succ];refine takeQ 28 87 (v:=?_) ?_ ?_;rotate_left
      ·
       intro wx hSw;go_simp;with_reducible rfl
      simp only[Act.put,List.setIfInBounds_toArray,List.set_cons_zero,List.set_cons_succ];refine wpAnyH_done (by kernel_rfl) ?_ _;clear d1 hHeld;have hr:=hr.keep KR;go_wp2;go_roundw;case rel=>exact⟨m+1,by omega,by omega,by go_num,by rw[HE1.out];exact hr,hK.trans KR⟩
      case measure=>simp[intOf];omega
     ·
      have HE1:=HH (by rw[HQ.out,hw,hi1,hk1];rfl);rw[hw] at KW;rw[hi1] at KI;rw[hk1] at KK2;clear HQ;clear HH HM HP d2;go_wp2;go_quiet ((go_at_call 65;exact Calls.quiet_of_same (l1Has_any _ _ _ (by omega) (by omega))))
      go_wp2;have KR:Keep wr ((wr.drewN nq).drew):=((Keep.refl wr).grown (grown_draw wr nq none) (by simp)).drew;have z1:b<((wr.drewN nq).drew).heap.size:=hbw;refine wp_region_held_drew (S:=(fun w'=>w'.cell? ⟨b,off+k*6,none⟩=some (.int .i64 ci)∧w'.cell? ⟨b,off+k*6+1,none⟩=some (.int .i64 di)∧w'.cell? ⟨b,off+k*6+2,none⟩=some (.bool false)∧w'.cell? ⟨b,off+k*6+3,none⟩=some (.int .i64 x3)∧w'.cell? ⟨b,off+k*6+4,none⟩=some (.int .i64 x4)∧w'.cell? ⟨b,off+k*6+5,none⟩=some (.int .i64 x5)∧w'.cell? ⟨b,off+m*6,none⟩=some (.int .i64 ci)∧w'.cell? ⟨b,off+m*6+1,none⟩=some (.int .i64 dk)∧w'.cell? ⟨b,off+m*6+2,none⟩=some (.bool true)∧w'.cell? ⟨b,off+m*6+3,none⟩=some (.int .i64 y3)∧w'.cell? ⟨b,off+m*6+4,none⟩=some (.int .i64 y4)∧w'.cell? ⟨b,off+m*6+5,none⟩=some (.int .i64 y5))) (by kernel_rfl) ?_ (fun hHeld=>?_)
      · go_keep
      refine takeQ 0 59 (v:=?_) ?_ ?_;rotate_left
      ·
       intro wx hSw;go_simp;with_reducible rfl
      simp only[Act.put,List.setIfInBounds_toArray,List.set_cons_zero,List.set_cons_succ];refine takeQ 1 60 (v:=?_) ?_ ?_;rotate_left
      ·
       intro wx hSw;go_simp;with_reducible rfl
      simp only[Act.put,List.setIfInBounds_toArray,List.set_cons_zero,List.set_cons_succ];refine takeQ 2 61 (v:=?_) ?_ ?_;rotate_left
      ·
       intro wx hSw;go_simp;with_reducible rfl
      simp only[Act.put,List.setIfInBounds_toArray,List.set_cons_zero,List.set_cons_succ];refine takeQ 3 62 (v:=?_) ?_ ?_;rotate_left
      ·
       intro wx hSw;go_simp;with_reducible rfl
      simp only[Act.put,List.setIfInBounds_toArray,List.set_cons_zero,List.set_cons_succ];refine takeQ 4 63 (v:=?_) ?_ ?_;rotate_left
      ·
       intro wx hSw;go_simp;with_reducible rfl
      simp only[Act.put,List.setIfInBounds_toArray,List.set_cons_zero,List.set_cons_succ];refine takeQ 5 64 (v:=?_) ?_ ?_;rotate_left
      ·
       intro wx hSw;go_simp;with_reducible rfl
      simp only[Act.put,List.setIfInBounds_toArray,List.set_cons_zero,List.set_cons_succ];refine takeQ 6 65 (v:=?_) ?_ ?_;rotate_left
      ·
       intro wx hSw;go_simp;with_reducible rfl
      simp only[Act.put,List.setIfInBounds_toArray,List.set_cons_zero,List.set_cons_succ];refine takeQ 7 66 (v:=?_) ?_ ?_;rotate_left
      ·
       intro wx hSw;go_simp;with_reducible rfl
      simp only[Act.put,List.setIfInBounds_toArray,List.set_cons_zero,List.set_cons_succ];refine takeQ 8 67 (v:=?_) ?_ ?_;rotate_left
      ·
       intro wx hSw;go_simp;with_reducible rfl
      simp only[Act.put,List.setIfInBounds_toArray,List.set_cons_zero,List.set_cons_succ];refine wpAnyH_ready (rs:=[9]) (by kernel_rfl) (by simp) ?_;refine AllReadyH.cons rfl (fun K hK=>?_) AllReadyH.nil;go_simp;refine (KW _ KR).mono ?_;rintro e wz1 ⟨rfl,kk⟩;have z0:=z1;have KR:=KR.trans kk;have z1:=Nat.lt_of_lt_of_le z1 kk.size;go_wp2_with fail
      refine hK.out _ _ ?_ (fun hHeld=>?_)
      · exact⟨(kk.cell z0).trans hHeld.1,(kk.cell z0).trans hHeld.2.1,(kk.cell z0).trans hHeld.2.2.1,(kk.cell z0).trans hHeld.2.2.2.1,(kk.cell z0).trans hHeld.2.2.2.2.1,(kk.cell z0).trans hHeld.2.2.2.2.2.1,(kk.cell z0).trans hHeld.2.2.2.2.2.2.1,(kk.cell z0).trans hHeld.2.2.2.2.2.2.2.1,(kk.cell z0).trans hHeld.2.2.2.2.2.2.2.2.1,(kk.cell z0).trans hHeld.2.2.2.2.2.2.2.2.2.1,(kk.cell z0).trans hHeld.2.2.2.2.2.2.2.2.2.2.1,(kk.cell z0).trans hHeld.2.2.2.2.2.2.2.2.2.2.2⟩
      clear hK K;refine takeQ 10 69 (v:=?_) ?_ ?_;rotate_left
      ·
       intro wx hSw;go_simp;with_reducible rfl
      simp only[Act.put,List.setIfInBounds_toArray,List.set_cons_zero,List.set_cons_succ];refine takeQ 11 70 (v:=?_) ?_ ?_;rotate_left
      ·
       intro wx hSw;go_simp;with_reducible rfl
      simp only[Act.put,List.setIfInBounds_toArray,List.set_cons_zero,List.set_cons_succ];refine takeQ 12 71 (v:=?_) ?_ ?_;rotate_left
      ·
       intro wx hSw;go_simp;with_reducible rfl
      simp only[Act.put,List.setIfInBounds_toArray,List.set_cons_zero,List.set_cons_succ];refine takeQ 13 72 (v:=?_) ?_ ?_;rotate_left
      ·
       intro wx hSw;go_simp;with_reducible rfl
      simp only[Act.put,List.setIfInBounds_toArray,List.set_cons_zero,List.set_cons_succ];refine takeQ 14 73 (v:=?_) ?_ ?_;rotate_left
      ·
       intro wx hSw;go_simp;with_reducible rfl
      simp only[Act.put,List.setIfInBounds_toArray,List.set_cons_zero,List.set_cons_succ];refine takeQ 15 74 (v:=?_) ?_ ?_;rotate_left
      ·
       intro wx hSw;go_simp;with_reducible rfl
      simp only[Act.put,List.setIfInBounds_toArray,List.set_cons_zero,List.set_cons_succ];refine takeQ 16 75 (v:=?_) ?_ ?_;rotate_left
      ·
       intro wx hSw;go_simp;with_reducible rfl
      simp only[Act.put,List.setIfInBounds_toArray,List.set_cons_zero,List.set_cons_succ];refine wpAnyH_ready (rs:=[17]) (by kernel_rfl) (by simp) ?_;refine AllReadyH.cons rfl (fun K hK=>?_) AllReadyH.nil;go_simp;refine (KI _ KR).mono ?_;rintro e wz2 ⟨rfl,kk⟩;have z0:=z1;have KR:=KR.trans kk;have z1:=Nat.lt_of_lt_of_le z1 kk.size;go_wp2_with fail
      refine hK.out _ _ ?_ (fun hHeld=>?_)
      · exact⟨(kk.cell z0).trans hHeld.1,(kk.cell z0).trans hHeld.2.1,(kk.cell z0).trans hHeld.2.2.1,(kk.cell z0).trans hHeld.2.2.2.1,(kk.cell z0).trans hHeld.2.2.2.2.1,(kk.cell z0).trans hHeld.2.2.2.2.2.1,(kk.cell z0).trans hHeld.2.2.2.2.2.2.1,(kk.cell z0).trans hHeld.2.2.2.2.2.2.2.1,(kk.cell z0).trans hHeld.2.2.2.2.2.2.2.2.1,(kk.cell z0).trans hHeld.2.2.2.2.2.2.2.2.2.1,(kk.cell z0).trans hHeld.2.2.2.2.2.2.2.2.2.2.1,(kk.cell z0).trans hHeld.2.2.2.2.2.2.2.2.2.2.2⟩
      clear hK K;refine takeQ 18 77 (v:=?_) ?_ ?_;rotate_left
      ·
       intro wx hSw;go_simp;with_reducible rfl
      simp only[Act.put,List.setIfInBounds_toArray,List.set_cons_zero,List.set_cons_succ];refine takeQ 19 78 (v:=?_) ?_ ?_;rotate_left
      ·
       intro wx hSw;go_simp;with_reducible rfl
      simp only[Act.put,List.setIfInBounds_toArray,List.set_cons_zero,List.set_cons_succ];refine takeQ 20 79 (v:=?_) ?_ ?_;rotate_left
      ·
       intro wx hSw;go_simp;with_reducible rfl
      simp only[Act.put,List.setIfInBounds_toArray,List.set_cons_zero,List.set_cons_succ];refine takeQ 21 80 (v:=?_) ?_ ?_;rotate_left
      ·
       intro wx hSw;go_simp;with_reducible rfl
      simp only[Act.put,List.setIfInBounds_toArray,List.set_cons_zero,List.set_cons_succ];refine takeQ 22 81 (v:=?_) ?_ ?_;rotate_left
      ·
       intro wx hSw;go_simp;with_reducible rfl
      simp only[Act.put,List.setIfInBounds_toArray,List.set_cons_zero,List.set_cons_succ];refine takeQ 23 82 (v:=?_) ?_ ?_;rotate_left
      ·
       intro wx hSw;go_simp;with_reducible rfl
      simp only[Act.put,List.setIfInBounds_toArray,List.set_cons_zero,List.set_cons_succ];refine takeQ 24 83 (v:=?_) ?_ ?_;rotate_left
      ·
       intro wx hSw;go_simp;with_reducible rfl
      simp only[Act.put,List.setIfInBounds_toArray,List.set_cons_zero,List.set_cons_succ];refine takeQ 25 84 (v:=?_) ?_ ?_;rotate_left
      ·
       intro wx hSw;go_simp;with_reducible rfl
      simp only[Act.put,List.setIfInBounds_toArray,List.set_cons_zero,List.set_cons_succ];refine wpAnyH_ready (rs:=[26]) (by kernel_rfl) (by simp) ?_;refine AllReadyH.cons rfl (fun K hK=>?_) AllReadyH.nil;go_simp;refine (KK2 _ KR).mono ?_;rintro e wz3 ⟨rfl,kk⟩;have z0:=z1;have KR:=KR.trans kk;have z1:=Nat.lt_of_lt_of_le z1 kk.size;go_wp2_with fail
      refine hK.out _ _ ?_ (fun hHeld=>?_)
      · exact⟨(kk.cell z0).trans hHeld.1,(kk.cell z0).trans hHeld.2.1,(kk.cell z0).trans hHeld.2.2.1,(kk.cell z0).trans hHeld.2.2.2.1,(kk.cell z0).trans hHeld.2.2.2.2.1,(kk.cell z0).trans hHeld.2.2.2.2.2.1,(kk.cell z0).trans hHeld.2.2.2.2.2.2.1,(kk.cell z0).trans hHeld.2.2.2.2.2.2.2.1,(kk.cell z0).trans hHeld.2.2.2.2.2.2.2.2.1,(kk.cell z0).trans hHeld.2.2.2.2.2.2.2.2.2.1,(kk.cell z0).trans hHeld.2.2.2.2.2.2.2.2.2.2.1,(kk.cell z0).trans hHeld.2.2.2.2.2.2.2.2.2.2.2⟩
      clear hK K;refine takeQ 27 86 (v:=?_) ?_ ?_;rotate_left
      ·
       intro wx hSw;go_simp;with_reducible rfl
      simp only[Act.put,List.setIfInBounds_toArray,List.set_cons_zero,List.set_cons_succ];refine takeQ 28 87 (v:=?_) ?_ ?_;rotate_left
      ·
       intro wx hSw;go_simp;with_reducible rfl
      simp only[Act.put,List.setIfInBounds_toArray,List.set_cons_zero,List.set_cons_succ];refine wpAnyH_done (by kernel_rfl) ?_ _;clear d1 hHeld;have hr:=hr.keep KR;have d1:=hr.cell (j:=k) hBl;rw[←HX.out] at d1;have d2:=hr.free k;have hGl:=hr.lt;go_wp2;go_roundw;case rel=>exact⟨m+1,by omega,by omega,by go_num,by rw[HE1.out];exact hr.set k _,(hK.trans KR).grown (grown_set _ G k _) (by simp;exact hG)⟩
      case measure=>simp[intOf];omega
    ·
     obtain rfl:m=es.length:=by omega
     go_wp2;go_roundw;case rel=>exact⟨k+1,by omega,by omega,by go_num,by rw[←HE.out];exact hr,hK⟩
     case measure=>simp[intOf];omega
  ·
   obtain rfl:k=es.length:=by omega
   have HL:=(web_offAll (p:=kepP dss es) HW0.out es.length (Nat.le_refl _)).1.2.1;go_wp2;go_ret;exact⟨_,rfl,row_new hr hG HL,hK⟩
theorem l12Web_any (w:World)(vd v vF vR:Value)(dss:List (List Dd))(es:List Ev)(f rows:List Int)(hd:RdW w vd dss)(h:RdE w v es)(hf:Rd w vF f)(hr:Rd w vR rows)(h3:3≤es.length)(hn:es.length≤12)(hm:∀i,i<dss.length→(dss.getD i []).length≤1048576)(hin:∀j,3≤j→j<es.length→∃i k:Nat,(es.getD j zE).1=(i:Int)∧(es.getD j zE).2.1=(k:Int)∧i<dss.length∧k<(dss.getD i []).length)(W:Webs es f rows)(hlr:rows.length≤36)(hrw:∀j,j<rows.length→0≤rows.getD j 0∧rows.getD j 0<(es.length:Int))(hl:(idxB rdE es).length≤f.length)(hb:∀i,i<(idxB rdE es).length→0≤f.getD i 0∧f.getD i 0<(es.length:Int)):
  Calls Tryz.prog 41 #[vd,v,.agg #[vF,vR]] w fun e w'=>∃v',e = .returned v'∧Own w' w.heap.size v' (swL dss es f rows)∧Keep w w':=by
 have HF:=Lib.hid (four_len (kep_line (dss:=dss) hn).1 (ow_line W).1 W.rw' W.ag);have C1:=Lib.hid (fun (U:World) (kU:Keep w U)=>l7Kept_any U vd v dss es (hd.keep kU) (h.keep kU) h3 hn hm hin);have C2:=Lib.hid (fun (U:World) (kU:Keep w U)=>l12Others_any U v vF es f (h.keep kU) (hf.keep kU) h3 hn W.fw hl hb);have C3:=Lib.hid (fun (U:World) (kU:Keep w U)=>l9Web_any U v vR es rows (h.keep kU) (hr.keep kU) hn hlr hrw);have C4:=Lib.hid (fun (U:World) (kU:Keep w U)=>l10Against_any U v vF vR es f rows (h.keep kU) (hf.keep kU) (hr.keep kU) hn hlr hrw hl hb);have HE:Hid (swL dss es f rows=mixL orI (mixL orI (kepL dss es) (owL es f)) (mixL orI (rwL es rows) (agL es f rows))):=Lib.hid rfl;clear hl hb hrw hlr W hn hm hin h3 hd;obtain⟨aF,cF,rfl,-⟩:=hf;obtain⟨aR,cR,rfl,-⟩:=hr;obtain⟨aE,cE',rfl,-⟩:=h;generalize swL dss es f rows=PW at HE ⊢;generalize kepL dss es=L1 at *;generalize owL es f=L2 at *;generalize rwL es rows=L3 at *;generalize agL es f rows=L4 at *;go_enter Tryz.func41,Tryz.ntmps41
 have b0:(w.alloc (.cells #[.slice aF f.length cF,.slice aR rows.length cR] 31)).cell? ⟨w.heap.size,0,none⟩=some (.slice aF f.length cF):=box_cell (Keep.refl _) 0;have b1:(w.alloc (.cells #[.slice aF f.length cF,.slice aR rows.length cR] 31)).cell? ⟨w.heap.size,1,none⟩=some (.slice aR rows.length cR):=box_cell (Keep.refl _) 1;have K0:Keep w (w.alloc (.cells #[.slice aF f.length cF,.slice aR rows.length cR] 31)).drew:=((Keep.refl w).alloc _).drew;have z0:w.heap.size<(w.alloc (.cells #[.slice aF f.length cF,.slice aR rows.length cR] 31)).drew.heap.size:=by simp
 go_wp2_with fail
 go_region_held3 (fun w'=>w'.cell? ⟨w.heap.size,0,none⟩=some (.slice aF f.length cF)∧w'.cell? ⟨w.heap.size,1,none⟩=some (.slice aR rows.length cR))
  (first|go_keep|(go_split_ands;refine⟨?_,?_⟩<;>(rw[kk.cell (by assumption)];assumption)))
  ((first
   | (go_at_call 67;refine (C1.out _ K0).mono ?_;rintro e w1 ⟨v1,rfl,o1,kk⟩;have z1:w.heap.size<w1.heap.size:=Nat.lt_of_lt_of_le z0 kk.size;have K1:=K0.trans kk;have r1:=o1.rd;clear o1)
   | (go_at_call 68;refine (C2.out _ K1).mono ?_;clear kk;rintro e w2 ⟨v2,rfl,o2,kk⟩;have z2:w.heap.size<w2.heap.size:=Nat.lt_of_lt_of_le z1 kk.size;have K2:=K1.trans kk;have r2:=o2.rd;replace r1:=r1.keep kk;clear o2)
   | (go_at_call 53;refine (C3.out _ K3).mono ?_;clear kk;rintro e w4 ⟨v4,rfl,o4,kk⟩;have z4:w.heap.size<w4.heap.size:=Nat.lt_of_lt_of_le z3 kk.size;have K4:=K3.trans kk;have r4:=o4.rd;replace r3:=r3.keep kk;clear o4)
   | (go_at_call 54;refine (C4.out _ K4).mono ?_;clear kk;rintro e w5 ⟨v5,rfl,o5,kk⟩;have z5:w.heap.size<w5.heap.size:=Nat.lt_of_lt_of_le z4 kk.size;have K5:=K4.trans kk;have r5:=o5.rd;replace r4:=r4.keep kk;replace r3:=r3.keep kk;clear o5)
   | (go_at_call 50;refine (l2Join_any _ _ _ _ _ r1 r2 HF.out.2.2.2.1 HF.out.1).mono ?_;clear kk;rintro e w3 ⟨v3,rfl,o3,kk⟩;have z3:w.heap.size<w3.heap.size:=Nat.lt_of_lt_of_le z2 kk.size;have K3:=K2.trans kk;have r3:=o3.rd;clear o3 r1 r2)
   | (go_at_call 50;refine (l2Join_any _ _ _ _ _ r4 r5 HF.out.2.2.2.2.1 HF.out.2.1).mono ?_;clear kk;rintro e w6 ⟨v6,rfl,o6,kk⟩;have z6:w.heap.size<w6.heap.size:=Nat.lt_of_lt_of_le z5 kk.size;have K6:=K5.trans kk;have r6:=o6.rd;replace r3:=r3.keep kk;clear o6 r4 r5)
   | (go_at_call 50;refine (l2Join_any _ _ _ _ _ r3 r6 HF.out.2.2.2.2.2.1 HF.out.2.2.1).mono ?_;clear kk;rintro e w7 ⟨v7,rfl,o7,kk⟩)))
 all_goals
  go_wp2;go_ret;exact⟨_,rfl,by rw[HE.out,HF.out.2.2.2.2.2.2];exact o7.base_le (by have:=K6.size;omega),K6.trans kk⟩
theorem l12Ok_any (w:World)(vd v vF vR:Value)(dss:List (List Dd))(es:List Ev)(f rows:List Int)(hd:RdW w vd dss)(h:RdE w v es)(hf:Rd w vF f)(hr:Rd w vR rows)(h3:3≤es.length)(hn:es.length≤12)(hm:∀i,i<dss.length→(dss.getD i []).length≤1048576)(hin:∀j,3≤j→j<es.length→∃i k:Nat,(es.getD j zE).1=(i:Int)∧(es.getD j zE).2.1=(k:Int)∧i<dss.length∧k<(dss.getD i []).length)(W:Webs es f rows)(hlr:rows.length≤36)(hrw:∀j,j<rows.length→0≤rows.getD j 0∧rows.getD j 0<(es.length:Int))(hl:(idxB rdE es).length≤f.length)(hb:∀i,i<(idxB rdE es).length→0≤f.getD i 0∧f.getD i 0<(es.length:Int)):
  Calls Tryz.prog 26 #[vd,v,.agg #[vF,vR]] w fun e w'=>e = .returned (.bool (!roundB (pwL es f rows)&&!roundB (liftL (swL dss es f rows) (clsB es))))∧Keep w w':=by
 have hpw:webB (pwL es f rows)=true:=(show Web es.length (pwL es f rows) from (web_four (plc_line hn).1 W.fw W.rw' W.ag).1).b;have hsw:Web es.length (swL dss es f rows):=(web_four (kep_line (dss:=dss) hn).1 (ow_line W).1 W.rw' W.ag).1;have hcl:(clsB es).length=es.length:=by unfold clsB;rw[if_pos hn,List.length_map]
 have hlw:=web_lift hsw hcl;have HL:Hid ((clsB es).map (fun c=>liftR (swL dss es f rows) (clsB es) c (swL dss es f rows).length)=liftL (swL dss es f rows) (clsB es)):=Lib.hid (by unfold liftL;rw[if_pos ⟨hsw.b,by rw[hcl,hsw.2.1]⟩]);have hsl:Web (swL dss es f rows).length (swL dss es f rows):=by rw[hsw.2.1];exact hsw
 have hcc:(clsB es).length=(swL dss es f rows).length:=by rw[hcl,hsw.2.1]
 have hlb:webB (liftL (swL dss es f rows) (clsB es))=true:=hlw.1.b;have C1:=Lib.hid (fun (U:World) (kU:Keep w U)=>l11Web_any U v vF vR es f rows (h.keep kU) (hf.keep kU) (hr.keep kU) hn W hlr hrw hl hb);have C2:=Lib.hid (fun (U:World) (kU:Keep w U)=>l12Web_any U vd v vF vR dss es f rows (hd.keep kU) (h.keep kU) (hf.keep kU) (hr.keep kU) h3 hn hm hin W hlr hrw hl hb);have C3:=Lib.hid (fun (U:World) (kU:Keep w U)=>specClassesOf_any U v es (h.keep kU) (by omega));clear hlw hsw hcl W hlr hrw hl hb hin hm h3 hd hn;obtain⟨aF,cF,rfl,-⟩:=hf;obtain⟨aR,cR,rfl,-⟩:=hr;obtain⟨ae,ce,rfl,-⟩:=h;generalize pwL es f rows=PW at *;generalize swL dss es f rows=SW at *;generalize clsB es=CL at *;go_enter Tryz.func26,Tryz.ntmps26
 go_wp2_with fail
 refine (C1.out _ ((Keep.refl w).alloc _)).mono ?_;rintro e w1 ⟨v1,rfl,o1,k1⟩;have c0:=box_cell k1 0;have c1:=box_cell k1 1;simp at c0 c1;have z0:=box_size k1;have K1:=((Keep.refl w).alloc _).trans k1;go_wp2_with fail
 refine (l3Round_any _ _ _ _ o1.row hpw).mono ?_;rintro e w2 ⟨rfl,k2⟩;have K2:=K1.trans k2;replace c0:=(k2.cell z0).trans c0;replace c1:=(k2.cell z0).trans c1;cases hq:roundB PW
 ·
  go_wp2_with fail
  refine (C2.out _ K2).mono ?_;rintro e w3 ⟨v3,rfl,o3,k3⟩;have K3:=K2.trans k3;go_wp2_with fail
  refine (C3.out _ K3).mono ?_;rintro e w4 ⟨v4,rfl,o4,k4⟩;have K4:=K3.trans k4;go_wp2_with fail
  refine (l3Lift_any _ _ _ SW CL (o3.rd.keep k4) o4.rd hsl hcc).mono ?_;rw[HL.out];rintro e w5 ⟨v5,rfl,o5,k5⟩;have K5:=K4.trans k5;go_wp2_with fail
  refine (l3Round_any _ _ _ _ o5 hlb).mono ?_;rintro e w6 ⟨rfl,k6⟩;have K6:=K5.trans k6;go_wp2;go_ret;exact⟨by rw[hq];rfl,K6⟩
 ·
  go_wp2;go_ret;exact⟨by rw[hq];rfl,K2⟩
theorem specSlowOk_any (w:World)(v vF vR:Value)(dss:List (List Dd))(f rows:List Int)(h:RdW w v dss)(hf:Rd w vF f)(hr:Rd w vR rows)(hcap:rows.length≤capZ vR)(hx:dss.length≤1048576)(hm:∀i,i<dss.length→(dss.getD i []).length≤1048576)(hfl:f.length≤1048576)(hrl:rows.length≤1048576):
  Calls Tryz.prog 8 #[v,.agg #[vF,vR]] w fun e w'=>e = .returned (.bool (slowB dss f rows))∧Keep w w':=by
 have C:=fun (W:World) (kW:Keep w W)=>specTaleOk_any W v vF vR dss f rows (h.keep kW) (hf.keep kW) (hr.keep kW) hcap hx hm hfl hrl
 have KK:Keep w ((w.alloc (.cells #[vF,vR] 31)).drew):=((Keep.refl w).alloc _).drew;have z1:w.heap.size<((w.alloc (.cells #[vF,vR] 31)).drew).heap.size:=by rw[heap_drew,heap_size];omega
 have b0:((w.alloc (.cells #[vF,vR] 31)).drew).cell? ⟨w.heap.size,0,none⟩=some vF:=box_cell (Keep.refl _) 0;have b1:((w.alloc (.cells #[vF,vR] 31)).drew).cell? ⟨w.heap.size,1,none⟩=some vR:=box_cell (Keep.refl _) 1;cases hb:taleB dss f rows
 ·
  have HE:Hid (slowB dss f rows=false):=Lib.hid (by rw[slowB,hb];rfl);rw[hb] at C;obtain⟨aF,cF,rfl,-⟩:=hf;obtain⟨aR,cR,rfl,-⟩:=hr;go_enter Tryz.func8,Tryz.ntmps8
  go_wp2;refine wp_region_held_drew (S:=(fun w'=>w'.cell? ⟨w.heap.size,0,none⟩=some (.slice aF f.length cF)∧w'.cell? ⟨w.heap.size,1,none⟩=some (.slice aR rows.length cR))) (by kernel_rfl) ?_ (fun hHeld=>?_)
  · go_keep
  refine takeQ 0 5 (v:=?_) ?_ ?_;rotate_left
  ·
   intro wx hSw;go_simp;with_reducible rfl
  refine takeQ 1 6 (v:=?_) ?_ ?_;rotate_left
  ·
   intro wx hSw;go_simp;with_reducible rfl
  simp only[Act.put,List.setIfInBounds_toArray,List.set_cons_zero,List.set_cons_succ];refine wpAnyH_ready (rs:=[2]) (by kernel_rfl) (by simp) ?_;refine AllReadyH.cons rfl (fun K hK=>?_) AllReadyH.nil;go_simp;refine (C _ KK).mono ?_;rintro e wz ⟨rfl,kk⟩;have z0:=z1;have KK:=KK.trans kk;have z1:=Nat.lt_of_lt_of_le z1 kk.size;go_wp2_with fail
  refine hK.out _ _ ?_ (fun hHeld=>?_)
  · exact⟨(kk.cell z0).trans hHeld.1,(kk.cell z0).trans hHeld.2⟩
  clear hK K;refine takeQ 3 8 (v:=?_) ?_ ?_;rotate_left
  ·
   intro wx hSw;go_simp;with_reducible rfl
  simp only[Act.put,List.setIfInBounds_toArray,List.set_cons_zero,List.set_cons_succ];refine skipH 4 9 rfl rfl (by kernel_rfl) (by kernel_rfl) (by kernel_rfl) (fun _ _ _ h=>h) (by rfl) (by assumption) ?_;simp only[Act.put,List.setIfInBounds_toArray,List.set_cons_zero,List.set_cons_succ];refine skipH 5 10 rfl rfl (by kernel_rfl) (by kernel_rfl) (by kernel_rfl) (fun _ _ _ h=>h) (by rfl) (by assumption) ?_;simp only[Act.put,List.setIfInBounds_toArray,List.set_cons_zero,List.set_cons_succ];refine skipH 6 11 rfl rfl (by kernel_rfl) (by kernel_rfl) (by kernel_rfl) (fun _ _ _ h=>h) (by rfl) (by assumption) ?_;simp only[Act.put,List.setIfInBounds_toArray,List.set_cons_zero,List.set_cons_succ];refine skipH 7 12 rfl rfl (by kernel_rfl) (by kernel_rfl) (by kernel_rfl) (fun _ _ _ h=>h) (by rfl) (by assumption) ?_;simp only[Act.put,List.setIfInBounds_toArray,List.set_cons_zero,List.set_cons_succ];refine skipH 8 13 rfl rfl (by kernel_rfl) (by kernel_rfl) (by kernel_rfl) (fun _ _ _ h=>h) (by rfl) (by assumption) ?_;refine takeQ 9 14 (v:=?_) ?_ ?_;rotate_left
  ·
   intro wx hSw;go_simp;with_reducible rfl
  refine takeQ 10 4 (v:=?_) ?_ ?_;rotate_left
  ·
   intro wx hSw;go_simp;with_reducible rfl
  simp only[Act.put,List.setIfInBounds_toArray,List.set_cons_zero,List.set_cons_succ];refine wpAnyH_done (by kernel_rfl) ?_ _;go_wp2;go_ret;exact⟨by rw[HE.out];rfl,KK⟩
 ·
  obtain⟨⟨u1,u2⟩,e1,h12,r2,r3,r4,s1,s2,s3⟩:=tale_facts hb;have TW:=(tale_webs hb).1;obtain⟨hbw,_,_⟩:=tale_use hb
  have g3:3≤(evsW dss dss.length).length:=by
   obtain⟨⟨t,ht⟩,_⟩:=evs_good u2 dss.length (Nat.le_refl _);rw[ht,List.length_append];exact Nat.le_add_right _ _
  have hin:∀j,3≤j→j<(evsW dss dss.length).length→∃i k:Nat,((evsW dss dss.length).getD j zE).1=(i:Int)∧((evsW dss dss.length).getD j zE).2.1=(k:Int)∧i<dss.length∧k<(dss.getD i []).length:=by
   intro j h3 hj;obtain⟨i,k,_,_,_,e1,q1,q2,_⟩:=(events_law hbw).2.2.2.2 j h3 hj;refine⟨i,k,?_,?_,q1,q2⟩
   · rw[List.getD_eq_getElem?_getD,e1];rfl
   · rw[List.getD_eq_getElem?_getD,e1];rfl
  rw[hb] at C;have CL:=fun (W:World) (kW:Keep w W) (v2:Value) (a2:RdE W v2 (evsW dss dss.length))=>l12Ok_any W v v2 vF vR dss (evsW dss dss.length) f rows (h.keep kW) a2 (hf.keep kW) (hr.keep kW) g3 h12 hm hin TW r2 r3 (by omega) (fun i hi=>s3 i (by omega))
  have HC:=Lib.hid CL;clear CL s1 hin g3 hbw TW;obtain⟨aF,cF,rfl,-⟩:=hf;obtain⟨aR,cR,rfl,-⟩:=hr;have HE0:Hid (slowB dss f rows=(!roundB (pwL (evsW dss dss.length) f rows)&&!roundB (liftL (swL dss (evsW dss dss.length) f rows) (clsB (evsW dss dss.length))))):=Lib.hid (by rw[slowB,hb,e1];rfl);clear e1 hb;generalize (!roundB (pwL (evsW dss dss.length) f rows)&&!roundB (liftL (swL dss (evsW dss dss.length) f rows) (clsB (evsW dss dss.length))))=AN at HE0 HC;go_enter Tryz.func8,Tryz.ntmps8
  go_wp2;refine wp_region_held_drew (S:=(fun w'=>w'.cell? ⟨w.heap.size,0,none⟩=some (.slice aF f.length cF)∧w'.cell? ⟨w.heap.size,1,none⟩=some (.slice aR rows.length cR))) (by kernel_rfl) ?_ (fun hHeld=>?_)
  · go_keep
  refine takeQ 0 5 (v:=?_) ?_ ?_;rotate_left
  ·
   intro wx hSw;go_simp;with_reducible rfl
  refine takeQ 1 6 (v:=?_) ?_ ?_;rotate_left
  ·
   intro wx hSw;go_simp;with_reducible rfl
  simp only[Act.put,List.setIfInBounds_toArray,List.set_cons_zero,List.set_cons_succ];refine wpAnyH_ready (rs:=[2]) (by kernel_rfl) (by simp) ?_;refine AllReadyH.cons rfl (fun K hK=>?_) AllReadyH.nil;go_simp;refine (C _ KK).mono ?_;rintro e wz ⟨rfl,kk⟩;have z0:=z1;have KK:=KK.trans kk;have z1:=Nat.lt_of_lt_of_le z1 kk.size;go_wp2_with fail
  refine hK.out _ _ ?_ (fun hHeld=>?_)
  · exact⟨(kk.cell z0).trans hHeld.1,(kk.cell z0).trans hHeld.2⟩
  clear hK K;refine takeQ 3 8 (v:=?_) ?_ ?_;rotate_left
  ·
   intro wx hSw;go_simp;with_reducible rfl
  refine takeQ 4 9 (v:=?_) ?_ ?_;rotate_left
  ·
   intro wx hSw;go_simp;with_reducible rfl
  refine takeQ 5 10 (v:=?_) ?_ ?_;rotate_left
  ·
   intro wx hSw;go_simp;with_reducible rfl
  refine takeQ 7 12 (v:=?_) ?_ ?_;rotate_left
  ·
   intro wx hSw;go_simp;with_reducible rfl
  simp only[Act.put,List.setIfInBounds_toArray,List.set_cons_zero,List.set_cons_succ];refine wpAnyH_ready (rs:=[6]) (by kernel_rfl) (by simp) ?_;refine AllReadyH.cons rfl (fun K hK=>?_) AllReadyH.nil;go_simp;refine (l6Events_any _ _ _ (h.keep KK) u1 u2).mono ?_;rintro e wz2 ⟨v2,rfl,a2,kk⟩;have z0:=z1;have KK:=KK.trans kk;have z1:=Nat.lt_of_lt_of_le z1 kk.size;have a2r:=a2.rd;obtain⟨ae,ce,rfl,-⟩:=id a2r;go_wp2_with fail
  refine hK.out _ _ ?_ (fun hHeld=>?_)
  · exact⟨(kk.cell z0).trans hHeld.1,(kk.cell z0).trans hHeld.2⟩
  clear hK K;refine wpAnyH_ready (rs:=[8]) (by kernel_rfl) (by simp) ?_;refine AllReadyH.cons rfl (fun K hK=>?_) AllReadyH.nil;go_simp;refine (HC.out _ KK _ a2r).mono ?_;rintro e wz3 ⟨rfl,kk⟩;have z0:=z1;have KK:=KK.trans kk;have z1:=Nat.lt_of_lt_of_le z1 kk.size;go_wp2_with fail
  refine hK.out _ _ ?_ (fun hHeld=>?_)
  · exact⟨(kk.cell z0).trans hHeld.1,(kk.cell z0).trans hHeld.2⟩
  clear hK K;refine takeQ 9 14 (v:=?_) ?_ ?_;rotate_left
  ·
   intro wx hSw;go_simp;with_reducible rfl
  refine takeQ 10 4 (v:=?_) ?_ ?_;rotate_left
  ·
   intro wx hSw;go_simp;with_reducible rfl
  simp only[Act.put,List.setIfInBounds_toArray,List.set_cons_zero,List.set_cons_succ];refine wpAnyH_done (by kernel_rfl) ?_ _;go_wp2;go_ret;exact⟨by rw[HE0.out];rfl,KK⟩
end Go.Proofs.YtgikcfdckddgpabGreat
