/- Gathered texts. -/
import Derived.Test.YtgikcfdckddgpabGreatMH
import Derived.Deep.QuietTactic
import Derived.BigQuiet
import Derived.BigRegion
import Derived.RegionTactic
import Derived.Deep.RegionHeld3
set_option maxRecDepth 100000
set_option maxHeartbeats 8000000
namespace Go.Proofs.YtgikcfdckddgpabGreat
open Go.ChangeShapes Go.WideShapes Go.ChangeAt Go.RowKit
theorem workB_useI {dss:List (List Dd)}{f:List Int}(h:sourceB dss f=true):workB dss=true∧srcB (chcL (eventsB dss)) f=true:=by
 rw[sourceB,Bool.and_eq_true] at h;exact h
theorem implFromWeb_any (w:World)(v vf:Value)(dss:List (List Dd))(f:List Int)(h:RdW w v dss)(hf:Rd w vf f)(hx:dss.length≤1048576)(hm:∀i,i<dss.length→(dss.getD i []).length≤1048576)(hfl:f.length≤1048576):
  Calls Tryz.prog 85 #[v,vf] w fun e w'=>∃v',e = .returned v'∧Row w' w.heap.size v' (fwB dss f)∧Keep w w':=by
 cases hs:sourceB dss f
 ·
  have HE:Hid (fwB dss f=[]):=Lib.hid (by rw[fwB,hs];rfl);have C:=implSourceOk_any w v vf dss f h hf hx hm hfl;rw[hs] at C;go_enter Tryz.func85,Tryz.ntmps85
  go_wp2_with fail
  refine C.mono ?_;rintro e w1 ⟨rfl,k1⟩;have s1:=k1.size;go_wp2;go_ret;exact⟨_,rfl,by rw[HE.out];exact (row_empty w1 _).base_le s1,k1.alloc _⟩
 ·
  obtain⟨hb,hs2⟩:=workB_useI hs;have HE:Hid (fwB dss f=fwL (eventsB dss) f):=Lib.hid (by rw[fwB,if_pos hs]);have h12:(eventsB dss).length≤12:=by have:=eventsB_len9 dss;omega
  obtain⟨sl,su⟩:=src_use h12 hs2;have C:=implSourceOk_any w v vf dss f h hf hx hm hfl;rw[hs] at C
  have rl:(idxB rdE (eventsB dss)).length≤12:=by
   unfold idxB;rw[if_pos h12];have:=idxK_len rdE (eventsB dss) (eventsB dss).length;omega
  have rin:∀i,i<(idxB rdE (eventsB dss)).length→0≤(idxB rdE (eventsB dss)).getD i 0∧(idxB rdE (eventsB dss)).getD i 0<((eventsB dss).length:Int):=by
   intro i hi
   have hm:(idxB rdE (eventsB dss)).getD i 0∈idxB rdE (eventsB dss):=by
    rw[List.getD_eq_getElem?_getD,List.getElem?_eq_getElem hi];exact List.getElem_mem hi
   refine idxK_lt rdE (eventsB dss) _ _ ?_;unfold idxB at hm ⊢;rw[if_pos h12] at hm ⊢;exact hm
  have fin:∀i,i<(idxB rdE (eventsB dss)).length→0≤f.getD i 0∧f.getD i 0<((eventsB dss).length:Int):=fun i hi=>(su i hi).1
  have HL:Hid (fwL (eventsB dss) f=fwK (eventsB dss).length (idxB rdE (eventsB dss)) f (idxB rdE (eventsB dss)).length):=Lib.hid rfl;clear su;go_enter Tryz.func85,Tryz.ntmps85
  go_wp2_with fail
  refine C.mono ?_;rintro e w1 ⟨rfl,k1⟩;have s1:=k1.size;go_wp2_with fail
  refine (implEventsOf_any _ _ _ (h.keep k1) hx hm).mono ?_;rintro e w2 ⟨v2,rfl,a2,k2⟩;have s2:=k2.size;have re:=a2.rd;generalize eventsB dss=es at *;obtain⟨ae,ce,rfl,-⟩:=id re;go_wp2_with fail
  refine (blank_any _ _ h12).mono ?_;rintro e w3 ⟨rfl,rb,k3⟩;have s3:=k3.size;go_wp2_with fail
  refine (implReadsOf_any _ _ _ (re.keep k3) (by omega)).mono ?_;rintro e w4 ⟨vr,rfl,or4,k4⟩;have s4:=k4.size;have hr3:=rb.lt;generalize idxB rdE es=rs at *;have hF4:=hf.keep (((k1.trans k2).trans k3).trans k4);have hK4:Keep w w4:=((k1.trans k2).trans k3).trans k4
  have N2:vr.ownBlock=none∨vr.ownBlock≠some w2.heap.size:=by
   cases hu:vr.ownBlock with
   |none=>exact .inl rfl
   |some k=>exact .inr (fun e=>by have:=or4.ge k hu;have:=Option.some.inj e;omega)
  have hFB:0<f.length→(vf.ownBlock=none∨vf.ownBlock≠some w2.heap.size):=by
   intro hpos;obtain⟨a,c,rfl,hv⟩:=hf;rcases hv with hv|⟨b,o,rfl,hb,_⟩
   · rw[hv] at hpos;simp at hpos
   · exact .inr (by simp[Value.ownBlock];omega)
  have HFB:=Lib.hid hFB;clear hFB;have R4:=or4.rd;have rb4:RowAt w4 w2.heap.size (fwK es.length rs f 0):=rb.keep k4;have hb2:w.heap.size≤w2.heap.size:=by omega
  obtain⟨ar,cr,rfl,-⟩:=id R4;obtain⟨af,cf,rfl,-⟩:=id hf;have RIN:=Lib.hid rin;have FIN:=Lib.hid fin;have l1:rs.length≤f.length:=by omega
  clear rin fin sl a2 re k1 k2 k3 k4 C h hx hm rb or4 hs hs2 hb hr3 s1 s2 s3 s4 hf;go_wp2;go_loopw [22] (fun i wr=>∃k:Nat,k≤rs.length∧i = .int .i64 k∧RowAt wr w2.heap.size (fwK es.length rs f k)∧Rd wr (.slice ar rs.length cr) rs∧Keep w wr∧Rd wr (.slice af f.length cf) f) (fun i _=>rs.length-(intOf i).toNat)
  case atStart=>exact⟨0,Nat.zero_le _,rfl,rb4,R4,hK4,hF4⟩
  case round=>
   obtain⟨k,hk,rfl,hr,hR,hK,hF⟩:=hrel;clear rb4 R4 hK4 hF4;by_cases hlt:k<rs.length
   ·
    obtain⟨r,hr0⟩:=Int.eq_ofNat_of_zero_le (RIN.out k hlt).1;obtain⟨t,ht0⟩:=Int.eq_ofNat_of_zero_le (FIN.out k hlt).1;have hte:t<es.length:=by have:=(FIN.out k hlt).2;omega
    have hW:=(fw_line (n:=es.length) (rs:=rs) (f:=f) h12 k (fun i hi=>RIN.out i (by omega)) (fun i hi=>FIN.out i (by omega))).1;have hBl:(fwK es.length rs f k).length=es.length:=hW.2.1
    have HC:Hid (fwK es.length rs f (k+1)=(fwK es.length rs f k).set t (gAdd ((fwK es.length rs f k).getD t 0) (r:Int))):=Lib.hid (by
     rw[fwK,ht0,hr0,Int.toNat_natCast])
    obtain⟨a',c',he',hR'⟩:=id hR;simp only[Value.slice.injEq,true_and] at he';obtain⟨rfl,rfl⟩:=he';rcases hR' with h0|⟨br,orr,rfl,hbr,hcr⟩
    · exfalso;rw[h0] at hlt;simp at hlt
    have d3:=hcr k hlt;rw[hr0] at d3;obtain⟨a2,c2,he2,hF'⟩:=id hF;simp only[Value.slice.injEq,true_and] at he2;obtain⟨rfl,rfl⟩:=he2;rcases hF' with h0|⟨bf,off,rfl,hbf,hcf⟩
    · exfalso;rw[h0] at l1;simp only[List.length_nil] at l1;omega
    have d4:=hcf k (by omega);rw[ht0] at d4;clear hcr hcf hr0 ht0 hW;have i1:(0:Int)≤(k:Int):=Int.natCast_nonneg _;have i2:(k:Int)<(rs.length:Int):=by omega
    have i3:(k:Int)<(f.length:Int):=by omega
    have CL:=line_any wr w2.heap.size es.length es.length (fwK es.length rs f k) t (r:Int) hr hBl hte;rw[←HC.out] at CL;clear hBl;go_wp2_with fail
    refine CL.mono ?_;rintro e w5 ⟨rfl,hr5,hg5⟩;have hR5:=hR.keptR hg5 N2;have hF5:=hF.keptR hg5 (HFB.out (by omega));have hK5:Keep w w5:=hK.grown hg5 (by simp;omega);clear CL hR hF hK hr;go_wp2;go_roundw;case rel=>exact⟨k+1,by omega,by go_num,hr5,hR5,hK5,hF5⟩
    case measure=>simp[intOf];omega
   ·
    obtain rfl:k=rs.length:=by omega
    go_wp2;go_ret;refine⟨_,rfl,?_,hK⟩;rw[HE.out,HL.out];have hW:=(fw_line (n:=es.length) (rs:=rs) (f:=f) h12 rs.length (fun i hi=>RIN.out i (by omega)) (fun i hi=>FIN.out i (by omega))).1;exact .inr ⟨w2.heap.size,es.length,by rw[hW.2.1];rfl,hb2,hr⟩
theorem Rd.upto {w:World}{a:Option Addr}{n c:Nat}{zs:List Int}(h:Rd w (.slice a n c) zs){k:Nat}(hk:k≤zs.length):Rd w (.slice a k c) (zs.take k):=by
 obtain⟨a',c',he,hr⟩:=h;simp only[Value.slice.injEq] at he;obtain⟨rfl,rfl,rfl⟩:=he;have hl:(zs.take k).length=k:=by rw[List.length_take];omega
 refine⟨_,_,by rw[hl],?_⟩;rcases hr with hr|⟨b,off,rfl,hb,hc⟩
 · exact .inl (by rw[hr];simp)
 ·
  refine .inr ⟨b,off,rfl,hb,fun i hi=>?_⟩;rw[hc i (by omega),List.getD_eq_getElem?_getD,List.getD_eq_getElem?_getD,List.getElem?_take,if_pos (by omega)]
theorem implRowsOk_any (w:World)(v vf:Value)(dss:List (List Dd))(f:List Int)(h:RdW w v dss)(hf:Rd w vf f)(hcap:f.length≤capZ vf)(hx:dss.length≤1048576)(hm:∀i,i<dss.length→(dss.getD i []).length≤1048576)(hfl:f.length≤1048576):
  Calls Tryz.prog 86 #[v,vf] w fun e w'=>e = .returned (.bool (rowsB dss f))∧Keep w w':=by
 have h12:(eventsB dss).length≤12:=by have:=eventsB_len9 dss;omega
 have sl:=seats_36 h12;have HS:=Lib.hid (fun i hi=>(seat_rises h12 (i:=i) hi).2);go_enter Tryz.func86,Tryz.ntmps86
 go_wp2_with fail
 refine (implEventsOf_any _ _ _ h hx hm).mono ?_;rintro e w2 ⟨v2,rfl,a2,k2⟩;go_wp2_with fail
 refine (seatsOf_any _ _ _ a2.rd h12).mono ?_;rintro e w3 ⟨v3,rfl,rc,k3⟩;have K3:=k2.trans k3;have hf3:=hf.keep K3;have HE:Hid (workB dss=true→rowsB dss f=(decide (f.length=(seatsL (eventsB dss)).length)&&sitK (seatsL (eventsB dss)) f f.length)):=Lib.hid (fun hb=>by rw[sit_same hb,rowsB,hb];rfl);generalize seatsL (eventsB dss)=c at rc HE HS sl;obtain⟨ac,cc,rfl,-⟩:=id rc;obtain⟨af,cf,rfl,-⟩:=id hf3;have hcf:f.length≤cf:=hcap;go_wp2_with fail
 refine (implWorkOk_any _ _ _ (h.keep K3) hx hm).mono ?_;rintro e w4 ⟨rfl,k4⟩;have K4:=K3.trans k4;have hf4:=hf3.keep k4;have rc4:=rc.keep k4;clear h a2 k2 k3 rc hf hf3 K3 k4 hx hm h12 hcap;cases hb:workB dss
 ·
  have HN:Hid (rowsB dss f=false):=Lib.hid (by rw[rowsB,hb];rfl);go_wp2;go_ret;exact⟨by rw[HN.out];rfl,K4⟩
 have HE2:Hid (rowsB dss f=(decide (f.length=c.length)&&sitK c f f.length)):=Lib.hid (HE.out hb);clear HE;by_cases hl:f.length=c.length
 ·
  have hlb:((f.length:Int) != (c.length:Int))=false:=by simp[hl]
  have l1:f.length≤c.length:=by omega
  have HR:Hid (rowsB dss f=sitK c f f.length):=Lib.hid (by rw[HE2.out,decide_eq_true hl];rfl);clear hl HE2;go_wp2;go_loopw [23] (fun i wr=>∃k:Nat,k≤f.length∧i = .int .i64 k∧Hid (sitK c f k=true)∧Keep w4 wr) (fun i _=>f.length-(intOf i).toNat)
  case atStart=>exact⟨0,Nat.zero_le _,rfl,Lib.hid rfl,Keep.refl _⟩
  case round=>
   obtain⟨k,hk,rfl,hS,hK⟩:=hrel;by_cases hlt:k<f.length
   ·
    have rck:=rc4.keep hK;have hfk:=hf4.keep hK;have hft:=hfk.upto (k:=k) hk;obtain⟨a',c',he',rck⟩:=rck;simp only[Value.slice.injEq,true_and] at he';obtain⟨rfl,rfl⟩:=he';rcases rck with h|⟨b,o,rfl,hbb,hc⟩
    · exfalso;rw[h] at l1;simp only[List.length_nil] at l1;omega
    obtain⟨a',c',he',hfk⟩:=hfk;simp only[Value.slice.injEq,true_and] at he';obtain⟨rfl,rfl⟩:=he';rcases hfk with h|⟨b2,o2,rfl,hb2,hc2⟩
    · exfalso;rw[h] at hlt;simp at hlt
    obtain⟨vi,d1,r2⟩:=hc k (by omega);have d2:=hc2 k hlt;have ck:=HS.out k (by omega);have tk:(f.take k).length≤1048576:=by rw[List.length_take];omega
    clear hc hc2;have HB:Hid (sitK c f (k+1)=(sitK c f k&&(isB (c.getD k []) (f.getD k 0)&&!isB (f.take k) (f.getD k 0)))):=Lib.hid rfl;generalize f.getD k 0=n at d2 HB;generalize c.getD k []=zs at r2 ck HB;generalize f.take k=ft at hft tk HB;obtain⟨az,cz,rfl,-⟩:=id r2;have i1:(0:Int)≤(k:Int):=Int.natCast_nonneg _;have i2:(k:Int)<(c.length:Int):=by omega
    have i3:(k:Int)<(f.length:Int):=by omega
    have i4:(k:Int)≤(cf:Int):=by omega
    have CI:=contains_any wr _ zs r2 (by omega) n;have CJ:=contains_any wr _ ft hft (by omega) n;cases hi:isB zs n
    ·
     have HN:Hid (sitK c f f.length=false):=Lib.hid (sitK_false (k:=k+1) (by rw[HB.out,hi];simp) _ hlt);rw[hi] at CI;clear CJ;go_wp2_with fail
     refine CI.mono ?_;rintro e w5 ⟨rfl,rfl⟩;go_wp2;go_ret;exact⟨by rw[HR.out,HN.out];rfl,K4.trans hK⟩
    ·
     rw[hi] at CI;cases hj:isB ft n
     ·
      have HN:Hid (sitK c f (k+1)=true):=Lib.hid (by rw[HB.out,hi,hj,hS.out];rfl);rw[hj] at CJ;go_wp2_with fail
      refine CI.mono ?_;rintro e w5 ⟨rfl,rfl⟩;go_wp2_with fail
      refine CJ.mono ?_;rintro e w6 ⟨rfl,rfl⟩;go_wp2;go_roundw;case rel=>exact⟨k+1,by omega,by go_num,HN,hK⟩
      case measure=>simp[intOf];omega
     ·
      have HN:Hid (sitK c f f.length=false):=Lib.hid (sitK_false (k:=k+1) (by rw[HB.out,hi,hj];simp) _ hlt);rw[hj] at CJ;go_wp2_with fail
      refine CI.mono ?_;rintro e w5 ⟨rfl,rfl⟩;go_wp2_with fail
      refine CJ.mono ?_;rintro e w6 ⟨rfl,rfl⟩;go_wp2;go_ret;exact⟨by rw[HR.out,HN.out];rfl,K4.trans hK⟩
   ·
    obtain rfl:k=f.length:=by omega
    go_wp2;go_ret;exact⟨by rw[HR.out,hS.out];rfl,K4.trans hK⟩
 ·
  have hlb:((f.length:Int) != (c.length:Int))=true:=by simp;omega
  have HR:Hid (rowsB dss f=false):=Lib.hid (by rw[HE2.out,decide_eq_false hl];rfl);clear hl HE2;go_wp2;go_ret;exact⟨by rw[HR.out];rfl,K4⟩
theorem implRowWeb_any (w:World)(v vf:Value)(dss:List (List Dd))(f:List Int)(h:RdW w v dss)(hf:Rd w vf f)(hcap:f.length≤capZ vf)(hx:dss.length≤1048576)(hm:∀i,i<dss.length→(dss.getD i []).length≤1048576)(hfl:f.length≤1048576):
  Calls Tryz.prog 56 #[v,vf] w fun e w'=>∃v',e = .returned v'∧Row w' w.heap.size v' (rwB dss f)∧Keep w w':=by
 have C:=implRowsOk_any w v vf dss f h hf hcap hx hm hfl;cases hs:rowsB dss f
 ·
  have HE:Hid (rwB dss f=[]):=Lib.hid (by rw[rwB,hs];rfl);rw[hs] at C;go_enter Tryz.func56,Tryz.ntmps56
  go_wp2_with fail
  refine C.mono ?_;rintro e w1 ⟨rfl,k1⟩;have s1:=k1.size;go_wp2;go_ret;exact⟨_,rfl,by rw[HE.out];exact (row_empty w1 _).base_le s1,k1.alloc _⟩
 ·
  have h12:(eventsB dss).length≤12:=by have:=eventsB_len9 dss;omega
  have hrl:rowsL (eventsB dss) f=true:=by rw[rowsB,Bool.and_eq_true] at hs;exact hs.2
  obtain⟨-,-,fin⟩:=rows_use h12 hrl;have HE:Hid (rwB dss f=pwAll (eventsB dss) f f.length):=Lib.hid (by rw[pw_same h12 fin,rwB,if_pos hs]);have HW:=Lib.hid (web_pwAll h12 fin);have HX:=Lib.hid (fun (i:Nat) (st:List Int) hi hst=>web_pwIn (es:=eventsB dss) (n:=(eventsB dss).length) (i:=i) (st:=st) fin hi hst);have FIN:=Lib.hid fin;rw[hs] at C;clear fin hrl hs;go_enter Tryz.func56,Tryz.ntmps56
  go_wp2_with fail
  refine C.mono ?_;rintro e w1 ⟨rfl,k1⟩;have s1:=k1.size;go_wp2_with fail
  refine (implEventsOf_any _ _ _ (h.keep k1) hx hm).mono ?_;rintro e w2 ⟨v2,rfl,a2,k2⟩;have s2:=k2.size;have re:=a2.rd;generalize eventsB dss=es at *;obtain⟨ae,ce,rfl,re⟩:=re;go_wp2_with fail
  refine (blank_any _ _ h12).mono ?_;rintro e w3 ⟨rfl,rb,k3⟩;have K2:=k1.trans k2;have hf2:=hf.keep K2;obtain⟨af,cf,rfl,-⟩:=id hf;have hcf:f.length≤cf:=hcap;have sw:w.heap.size≤w2.heap.size:=by omega
  clear C h hx hm a2 k1 k2 hf s1 s2 hcap;go_wp2;go_loopw [23] (fun i wr=>∃k:Nat,k≤f.length∧i = .int .i64 k∧RowAt wr w2.heap.size (pwAll es f k)∧Keep w2 wr) (fun i _=>f.length-(intOf i).toNat)
  case atStart=>exact⟨0,Nat.zero_le _,rfl,rb,k3⟩
  case round=>
   obtain⟨k,hk,rfl,hr,hK⟩:=hrel;clear rb k3;by_cases hlt:k<f.length
   ·
    have hfk:=hf2.keep hK;obtain⟨a',c',he',hfk⟩:=hfk;simp only[Value.slice.injEq,true_and] at he';obtain⟨rfl,rfl⟩:=he';rcases hfk with h0|⟨bf,off,rfl,hbf,hcf'⟩
    · exfalso;rw[h0] at hlt;simp at hlt
    obtain⟨rb,hrb⟩:=Int.eq_ofNat_of_zero_le (FIN.out k hlt).1;have hrbl:rb<es.length:=by have:=(FIN.out k hlt).2;omega
    have d1:=hcf' k hlt;rw[hrb] at d1;have HN:Hid (pwAll es f (k+1)=pwIn es f k (pwAll es f k) k):=Lib.hid rfl;have HWI:=Lib.hid (HX.out k (pwAll es f k) hlt (HW.out k hk).1);generalize pwAll es f k=S0 at hr HN HWI;have i1:(0:Int)≤(k:Int):=Int.natCast_nonneg _;have i2:(k:Int)<(f.length:Int):=by omega
    have i3:(k:Int)≤(cf:Int):=by omega
    clear hcf';go_wp2;clear d1;obtain⟨wo,rfl⟩:∃wo:World,wo=wr:=⟨_,rfl⟩;go_loopw [32] (fun i wr=>∃q:Nat,q≤k∧i = .int .i64 q∧RowAt wr w2.heap.size (pwIn es f k S0 q)∧Keep w2 wr) (fun i _=>k-(intOf i).toNat)
    case atStart=>exact⟨0,Nat.zero_le _,rfl,hr,hK⟩
    case round=>
     clear hr hK;obtain⟨q,hq,rfl,hr,hK⟩:=hrel;by_cases hqk:q<k
     ·
      have hfk:=hf2.keep hK;obtain⟨a',c',he',hfk⟩:=hfk;simp only[Value.slice.injEq,true_and] at he';obtain⟨rfl,rfl⟩:=he';rcases hfk with h0|⟨bf',off',he,hbf',hcf'⟩
      · exfalso;rw[h0] at hlt;simp at hlt
      simp only[Option.some.injEq,Addr.mk.injEq,and_true] at he;obtain⟨rfl,rfl⟩:=he;obtain⟨ra,hra⟩:=Int.eq_ofNat_of_zero_le (FIN.out q (by omega)).1;have hral:ra<es.length:=by have:=(FIN.out q (by omega)).2;omega
      have d2:=hcf' q (by omega);rw[hra] at d2;clear hcf';rcases re with h0|⟨be,oe,rfl,hbe,hce⟩
      · exfalso;rw[h0] at hral;simp at hral
      have AX:=(hce ra _ (evs_get hral)).keep hbe hK;have AY:=(hce rb _ (evs_get hrbl)).keep hbe hK
      have HH:Hid (((es.getD ra zE).2.2.2.1==(es.getD rb zE).2.2.2.1)=true→pwIn es f k S0 (q+1)=(pwIn es f k S0 q).set ra (gAdd ((pwIn es f k S0 q).getD ra 0) (rb:Int))):=Lib.hid (fun e=>by
       rw[pwIn,hra,hrb];unfold plE
       rw[Int.toNat_natCast,Int.toNat_natCast,if_pos e])
      have HM:Hid (((es.getD ra zE).2.2.2.1==(es.getD rb zE).2.2.2.1)=false→pwIn es f k S0 (q+1)=pwIn es f k S0 q):=Lib.hid (fun e=>by
       rw[pwIn,hra,hrb];unfold plE
       rw[Int.toNat_natCast,Int.toNat_natCast,if_neg (by rw[e];simp)])
      have hBl:=(HWI.out q hq).1.2.1;clear hce hra;generalize es.getD ra zE=ex at AX HH HM;generalize es.getD rb zE=ey at AY HH HM;obtain⟨x0,x1,x2,x3,x4,x5⟩:=ex;obtain⟨y0,y1,y2,y3,y4,y5⟩:=ey;obtain⟨A0,A1,A2,A3,A4,A5⟩:=atE AX;obtain⟨B0,B1,B2,B3,B4,B5⟩:=atE AY;clear AX AY;simp only at HH HM;generalize pwIn es f k S0 q=S at hr HH HM hBl;have n1:(0:Int)≤(q:Int):=Int.natCast_nonneg _;have n2:(q:Int)<(k:Int):=by omega
      have n3:(0:Int)≤(ra:Int):=Int.natCast_nonneg _;have n4:(ra:Int)<(es.length:Int):=by omega
      have n5:(0:Int)≤(rb:Int):=Int.natCast_nonneg _;have n6:(rb:Int)<(es.length:Int):=by omega
      have z1:be<wr.drew.heap.size:=Nat.lt_of_lt_of_le hbe hK.size;have CA:=fun u=>areAt_any u x0 x1 x2 x3 x4 x5 y0 y1 y2 y3 y4 y5
      have HO:Hid (onpE (x0,x1,x2,x3,x4,x5) (y0,y1,y2,y3,y4,y5)=(x3==y3)):=Lib.hid rfl;rw[HO.out] at CA;clear HO;cases ht:(x3==y3)
      ·
       have HE1:Hid (pwIn es f k S0 (q+1)=S):=Lib.hid (HM.out ht);rw[ht] at CA;clear HH HM ht;go_wp2
       go_region_held3 (fun w'=>w'.cell? ⟨be,oe+ra*6,none⟩=some (.int .i64 x0)∧w'.cell? ⟨be,oe+ra*6+1,none⟩=some (.int .i64 x1)∧w'.cell? ⟨be,oe+ra*6+2,none⟩=some (.bool x2)∧w'.cell? ⟨be,oe+ra*6+3,none⟩=some (.int .i64 x3)∧w'.cell? ⟨be,oe+ra*6+4,none⟩=some (.int .i64 x4)∧w'.cell? ⟨be,oe+ra*6+5,none⟩=some (.int .i64 x5)∧w'.cell? ⟨be,oe+rb*6,none⟩=some (.int .i64 y0)∧w'.cell? ⟨be,oe+rb*6+1,none⟩=some (.int .i64 y1)∧w'.cell? ⟨be,oe+rb*6+2,none⟩=some (.bool y2)∧w'.cell? ⟨be,oe+rb*6+3,none⟩=some (.int .i64 y3)∧w'.cell? ⟨be,oe+rb*6+4,none⟩=some (.int .i64 y4)∧w'.cell? ⟨be,oe+rb*6+5,none⟩=some (.int .i64 y5))
        (first|go_keep|(go_split_ands;refine⟨?_,?_,?_,?_,?_,?_,?_,?_,?_,?_,?_,?_⟩<;>(rw[kk.cell (by assumption)];assumption)))
        ((go_at_call 88;refine (CA _).mono ?_;rintro e wz ⟨rfl,kk⟩))
       all_goals
        clear A0 A1 A2 A3 A4 A5 B0 B1 B2 B3 B4 B5;go_wp2;go_roundw;case rel=>exact⟨q+1,by omega,by go_num,by rw[HE1.out];exact hr.drew.keep kk,hK.drew.trans kk⟩
        case measure=>simp[intOf];omega
      ·
       have HE1:Hid (pwIn es f k S0 (q+1)=S.set ra (gAdd (S.getD ra 0) (rb:Int))):=Lib.hid (HH.out ht);rw[ht] at CA;clear HH HM ht;go_wp2
       go_region_held3 (fun w'=>w'.cell? ⟨be,oe+ra*6,none⟩=some (.int .i64 x0)∧w'.cell? ⟨be,oe+ra*6+1,none⟩=some (.int .i64 x1)∧w'.cell? ⟨be,oe+ra*6+2,none⟩=some (.bool x2)∧w'.cell? ⟨be,oe+ra*6+3,none⟩=some (.int .i64 x3)∧w'.cell? ⟨be,oe+ra*6+4,none⟩=some (.int .i64 x4)∧w'.cell? ⟨be,oe+ra*6+5,none⟩=some (.int .i64 x5)∧w'.cell? ⟨be,oe+rb*6,none⟩=some (.int .i64 y0)∧w'.cell? ⟨be,oe+rb*6+1,none⟩=some (.int .i64 y1)∧w'.cell? ⟨be,oe+rb*6+2,none⟩=some (.bool y2)∧w'.cell? ⟨be,oe+rb*6+3,none⟩=some (.int .i64 y3)∧w'.cell? ⟨be,oe+rb*6+4,none⟩=some (.int .i64 y4)∧w'.cell? ⟨be,oe+rb*6+5,none⟩=some (.int .i64 y5))
        (first|go_keep|(go_split_ands;refine⟨?_,?_,?_,?_,?_,?_,?_,?_,?_,?_,?_,?_⟩<;>(rw[kk.cell (by assumption)];assumption)))
        ((go_at_call 88;refine (CA _).mono ?_;rintro e wz ⟨rfl,kk⟩))
       all_goals
        clear A0 A1 A2 A3 A4 A5 B0 B1 B2 B3 B4 B5;have hr5:=hr.drew.keep kk;have hK5:=hK.drew.trans kk;go_wp2_with fail
        refine (line_any _ w2.heap.size es.length es.length S ra (rb:Int) hr5 hBl hral).mono ?_;rintro e w7 ⟨rfl,R7,g7⟩;have hK7:Keep w2 w7:=hK5.grown g7 (by simp);go_wp2;go_roundw;case rel=>exact⟨q+1,by omega,by go_num,by rw[HE1.out];exact R7,hK7⟩
        case measure=>simp[intOf];omega
     ·
      obtain rfl:q=k:=by omega
      go_wp2;go_roundw;case rel=>exact⟨q+1,by omega,by go_num,by rw[HN.out];exact hr,hK⟩
      case measure=>simp[intOf];omega
   ·
    obtain rfl:k=f.length:=by omega
    have hl:=(HW.out f.length (Nat.le_refl _)).1.2.1;go_wp2;go_ret;exact⟨_,rfl,by rw[HE.out];exact .inr ⟨w2.heap.size,es.length,by rw[hl];rfl,sw,hr⟩,K2.trans hK⟩
theorem pg_zero:pgC (List.replicate 12 0)=#[.int .i64 0,.int .i64 0,.int .i64 0,.int .i64 0,.int .i64 0,.int .i64 0,.int .i64 0,.int .i64 0,.int .i64 0,.int .i64 0,.int .i64 0,.int .i64 0]:=rfl
theorem pageOf_any (w:World)(v vF vR:Value)(dss:List (List Dd))(f rows:List Int)(h:RdW w v dss)(hf:Rd w vF f)(hr:Rd w vR rows)(hcap:rows.length≤capZ vR)(hx:dss.length≤1048576)(hm:∀i,i<dss.length→(dss.getD i []).length≤1048576)(hfl:f.length≤1048576)(hrl:rows.length≤1048576):
  Calls Tryz.prog 90 #[v,.agg #[vF,vR]] w fun e w'=>e = .returned (pgV (pageB dss f rows))∧Keep w w':=by
 have CS:=fun (W:World) (kW:Keep w W)=>implSourceOk_any W v vF dss f (h.keep kW) (hf.keep kW) hx hm hfl
 have CR:=fun (W:World) (kW:Keep w W)=>implRowsOk_any W v vR dss rows (h.keep kW) (hr.keep kW) hcap hx hm hrl
 have HT:Hid (taleB dss f rows=(sourceB dss f&&rowsB dss rows)):=Lib.hid rfl;have C0:(pgC (List.replicate 12 0)).size=12:=rfl;obtain⟨aF,cF,rfl,-⟩:=id hf;obtain⟨aR,cR,rfl,-⟩:=id hr;obtain⟨W3,hW3⟩:∃W3,W3=(((w.alloc (.cells #[.slice aF f.length cF,.slice aR rows.length cR] 31)).alloc (.cells (pgC (List.replicate 12 0)) 109)).alloc (.cells (pgC (List.replicate 12 0)) 109)):=⟨_,rfl⟩;have K0:Keep w W3:=by rw[hW3];exact (((Keep.refl w).alloc _).alloc _).alloc _
 have z0:W3.heap.size=w.heap.size+3:=by rw[hW3];simp
 have c0:W3.cell? ⟨w.heap.size,0,none⟩=some (.slice aF f.length cF):=by rw[hW3];exact box_cell (((Keep.refl _).alloc _).alloc _) 0
 have c1:W3.cell? ⟨w.heap.size,1,none⟩=some (.slice aR rows.length cR):=by rw[hW3];exact box_cell (((Keep.refl _).alloc _).alloc _) 1
 have p1:Pg W3 (w.heap.size+1) (List.replicate 12 0):=by
  have:=(Pg.new (w:=w.alloc (.cells #[.slice aF f.length cF,.slice aR rows.length cR] 31)) (List.replicate 12 0)).keep ((Keep.refl _).alloc (.cells (pgC (List.replicate 12 0)) 109));rw[heap_size] at this;rw[hW3];exact this
 have p2:Pg W3 (w.heap.size+1+1) (List.replicate 12 0):=by
  have:=(Pg.new (w:=(w.alloc (.cells #[.slice aF f.length cF,.slice aR rows.length cR] 31)).alloc (.cells (pgC (List.replicate 12 0)) 109)) (List.replicate 12 0));rw[heap_size,heap_size] at this;rw[hW3];exact this
 generalize hS:sourceB dss f=S at CS HT;generalize hR:rowsB dss rows=R at CR HT;have HW:Hid (W3=(((w.alloc (.cells #[.slice aF f.length cF,.slice aR rows.length cR] 31)).alloc (.cells (pgC (List.replicate 12 0)) 109)).alloc (.cells (pgC (List.replicate 12 0)) 109))):=Lib.hid hW3;have HF:(S&&R)=false→∀(W:World),Keep W3 W→Hid (Keep w (W.setRow (w.heap.size+1) (pgC (List.replicate 12 0)))∧(W.setRow (w.heap.size+1) (pgC (List.replicate 12 0))).heap[w.heap.size+1]? = some (.cells (pgC (List.replicate 12 0)) 109 (0,0))∧pageB dss f rows=List.replicate 12 0):=fun e W kW=>Lib.hid ⟨(K0.trans kW).grown (grown_setRow _ _ _) (fun k hk=>by have:=Option.some.inj hk;omega),heap_setRow_same _ _ _ _ _ (p1.keep kW),by rw[pageB,HT.out,e];rfl⟩
 have BT:Hid (W3.heap[w.heap.size]? = some (taleC (.slice aF f.length cF) (.slice aR rows.length cR))):=Lib.hid (by rw[hW3];exact box_heap (((Keep.refl _).alloc _).alloc _));clear hW3;have B0:=Lib.hid c0;have B1:=Lib.hid c1;have P1:=Lib.hid p1;have P2:=Lib.hid p2;clear c0 c1 p1 p2;go_enter Tryz.func90,Tryz.ntmps90
 go_wp2_with fail
 rw[←pg_zero,←HW.out];refine (CS _ K0).mono ?_;rintro e w1 ⟨rfl,k1⟩;have c0:=(k1.cell (by omega)).trans B0.out;have c1:=(k1.cell (by omega)).trans B1.out;cases S
 ·
  have HF:=HF rfl _ k1;clear c0 c1;have q1:=P1.out.keep k1;have q2:=P2.out.keep k1;unfold Pg at q1 q2;go_wp2_with (first|refine wpList_load_row rfl 109 _ rfl (w.heap.size+1+1) rfl 109 _ (0,0) _ q2 Tryz.underlying109 rfl (by rw[C0];exact page_info) ?_|refine wpList_store_row rfl 109 _ _ rfl (w.heap.size+1) _ rfl rfl 109 _ q1 (by rw[C0];exact page_info) rfl (pg_one _) ?_)
  refine bodyPost_ret (results_row (by rfl) _ _ (w.heap.size+1) 109 _ (0,0) _ rfl HF.out.2.1 Tryz.underlying109 rfl (by rw[C0];exact page_info)) rfl ?_;exact⟨by rw[HF.out.2.2],HF.out.1⟩
 ·
  go_wp2_with fail
  refine (CR _ (K0.trans k1)).mono ?_;rintro e w2 ⟨rfl,k2⟩;have k12:=k1.trans k2;replace c0:=(k2.cell (by have:=k1.size;omega)).trans c0;replace c1:=(k2.cell (by have:=k1.size;omega)).trans c1;cases R
  ·
   have HF:=HF rfl _ k12;clear c0 c1;have q1:=P1.out.keep k12;have q2:=P2.out.keep k12;unfold Pg at q1 q2;go_wp2_with (first|refine wpList_load_row rfl 109 _ rfl (w.heap.size+1+1) rfl 109 _ (0,0) _ q2 Tryz.underlying109 rfl (by rw[C0];exact page_info) ?_|refine wpList_store_row rfl 109 _ _ rfl (w.heap.size+1) _ rfl rfl 109 _ q1 (by rw[C0];exact page_info) rfl (pg_one _) ?_)
   refine bodyPost_ret (results_row (by rfl) _ _ (w.heap.size+1) 109 _ (0,0) _ rfl HF.out.2.1 Tryz.underlying109 rfl (by rw[C0];exact page_info)) rfl ?_;exact⟨by rw[HF.out.2.2],HF.out.1⟩
  ·
   have hT:taleB dss f rows=true:=by rw[HT.out];rfl
   obtain⟨hx12,sl,f12,r36,-,-,ru,fu,-⟩:=page_use hT;have HE:Hid (pageB dss f rows=pgK (idxB rdE (eventsB dss)) f (sitS rows rows.length) (idxB rdE (eventsB dss)).length):=Lib.hid (by rw[pageB,if_pos hT];rfl);have RU:=Lib.hid ru;have FU:=Lib.hid fu;have SL:=Lib.hid sl;clear HF hT ru fu sl CS CR HT HW;have K2:=K0.trans k12;have q1:=P1.out.keep k12;have q2:=P2.out.keep k12;have z2:=k12.size;have BT:Hid (w2.heap[w.heap.size]? = some (taleC (.slice aF f.length cF) (.slice aR rows.length cR))):=Lib.hid ((Below.block k12 _ (by omega)).trans BT.out);have Q1:=Lib.hid q1;clear P1 P2 q1 k1 k2 k12;go_wp2;clear c0 c1;go_loopw [26] (fun i wr=>∃k:Nat,k≤rows.length∧i = .int .i64 k∧Pg wr (w.heap.size+1+1) (sitS rows k)∧w2.grownBy wr (some (w.heap.size+1+1))) (fun i _=>rows.length-(intOf i).toNat)
   case atStart=>exact⟨0,Nat.zero_le _,rfl,q2,World.grownBy.refl _ _⟩
   case round=>
    obtain⟨k,hk,rfl,hp,G⟩:=hrel;clear q2;have K3:Keep w wr:=K2.grown G (fun j hj=>by have:=Option.some.inj hj;omega);by_cases hlt:k<rows.length
    ·
     have hrk:=hr.keep K3;obtain⟨a',c',he',hrk⟩:=hrk;simp only[Value.slice.injEq,true_and] at he';obtain⟨rfl,rfl⟩:=he';rcases hrk with h0|⟨bf,off,rfl,hbf,hcf'⟩
     · exfalso;rw[h0] at hlt;simp at hlt
     obtain⟨rb,hrb⟩:=Int.eq_ofNat_of_zero_le (RU.out k hlt).1;have hrbl:rb<12:=by have:=(RU.out k hlt).2;omega
     have d1:=hcf' k hlt;rw[hrb] at d1;have HN:Hid (sitS rows (k+1)=(sitS rows k).set rb (k:Int)):=Lib.hid (by rw[sitS,hrb,Int.toNat_natCast]);have hl:(sitS rows k).length=12:=sitS_len _ _;have d2:=hp.cell (j:=rb) (by omega);have d3:=hp.free rb;generalize sitS rows k=S0 at hp HN hl d2;have i1:(0:Int)≤(k:Int):=Int.natCast_nonneg _;have i2:(k:Int)<(rows.length:Int):=by omega
     have j1:(0:Int)≤(rb:Int):=Int.natCast_nonneg _;have j2:(rb:Int)<12:=by omega
     clear hcf' hl hrb;go_wp2;go_roundw;case rel=>exact⟨k+1,by omega,by go_num,by rw[HN.out];exact hp.set rb _,grown_trans G (grown_set _ _ _ _)⟩
     case measure=>simp[intOf];omega
    ·
     obtain rfl:k=rows.length:=by omega
     go_wp2_with fail
     refine (implEventsOf_any _ _ _ (h.keep K3) hx hm).mono ?_;rintro e w4 ⟨v4,rfl,a4,k4⟩;have bt:=(G.block w.heap.size (by omega) (fun e=>by have:=Option.some.inj e;omega)).trans BT.out;have q1:=Q1.out.kept G (fun e=>by have:=Option.some.inj e;omega);have zr:=G.size;have re:=a4.rd;go_wp2_with fail
     refine (implReadsOf_any _ _ _ re (by omega)).mono ?_;rintro e w5 ⟨v5,rfl,o5,k5⟩;have K5:=(K3.trans k4).trans k5;have k45:=k4.trans k5;replace bt:=(Below.block k45 _ (by omega)).trans bt;replace q1:=q1.keep k45;replace hp:=hp.keep k45;have z4:=k4.size;have hB:w.heap.size+1+1<w4.heap.size:=by omega
     have z5:=k5.size;clear re a4 k4 k5 k45 G BT Q1 K3 K2 hr hcap;generalize eventsB dss=es at *;generalize idxB rdE es=rs at *;have HS:Hid (∀k,(pgK rs f (sitS rows rows.length) k).length=12):=Lib.hid (fun k=>by rw[pgK_len,sitS_len]);obtain⟨a5,c5,rfl,-⟩:=o5.rd;have R12:rs.length≤12:=by rw[SL.out];exact f12
     go_wp2;go_loopw [39] (fun i wr=>∃k:Nat,k≤rs.length∧i = .int .i64 k∧Pg wr (w.heap.size+1+1) (pgK rs f (sitS rows rows.length) k)∧w5.grownBy wr (some (w.heap.size+1+1))) (fun i _=>rs.length-(intOf i).toNat)
     case atStart=>exact⟨0,Nat.zero_le _,rfl,hp,World.grownBy.refl _ _⟩
     case round=>
      clear hp;obtain⟨k,hk,rfl,hp,G⟩:=hrel;have K6:Keep w wr:=K5.grown G (fun j hj=>by have:=Option.some.inj hj;omega);by_cases hlt:k<rs.length
      ·
       have hlf:k<f.length:=by rw[←SL.out];exact hlt
       have hrk:=(o5.other hB G).rd;obtain⟨a',c',he',hrk⟩:=hrk;simp only[Value.slice.injEq,true_and] at he';obtain⟨rfl,rfl⟩:=he';rcases hrk with h0|⟨bf,off,rfl,hbf,hcf'⟩
       · exfalso;rw[h0] at hlt;simp at hlt
       have hfk:=hf.keep K6;obtain⟨a',c',he',hfk⟩:=hfk;simp only[Value.slice.injEq,true_and] at he';obtain⟨rfl,rfl⟩:=he';rcases hfk with h0|⟨bg,oft,rfl,hbg,hcg'⟩
       · exfalso;rw[h0] at hlf;simp at hlf
       have bk:=(G.block w.heap.size (by omega) (fun e=>by have:=Option.some.inj e;omega)).trans bt;have c0:wr.cell? ⟨w.heap.size,0,none⟩=some _:=cell_of_row _ _ 0 _ _ (0,0) bk;obtain⟨⟨f0,f1⟩,⟨r0,r1⟩,-⟩:=FU.out k hlf;obtain⟨rb,hrb⟩:=Int.eq_ofNat_of_zero_le r0;obtain⟨fb,hfb⟩:=Int.eq_ofNat_of_zero_le f0;have hrbl:rb<12:=by omega
       have hfbl:fb<12:=by omega
       have d1:=hcf' k hlt;rw[hrb] at d1;have e1:=hcg' k hlf;rw[hfb] at e1;have HN:Hid (pgK rs f (sitS rows rows.length) (k+1)=(pgK rs f (sitS rows rows.length) k).set rb ((pgK rs f (sitS rows rows.length) k).getD fb 0)):=Lib.hid (by rw[pgK,hrb,hfb,Int.toNat_natCast,Int.toNat_natCast]);have hl:=HS.out k;have d2:=hp.cell (j:=rb) (by omega);have d3:=hp.free rb;have d4:=hp.cell (j:=fb) (by omega);generalize pgK rs f (sitS rows rows.length) k=S0 at hp HN hl d2 d4;have i1:(0:Int)≤(k:Int):=Int.natCast_nonneg _;have i2:(k:Int)<(rs.length:Int):=by omega
       have i3:(k:Int)<(f.length:Int):=by omega
       have j1:(0:Int)≤(rb:Int):=Int.natCast_nonneg _;have j2:(rb:Int)<12:=by omega
       have l1:(0:Int)≤(fb:Int):=Int.natCast_nonneg _;have l2:(fb:Int)<12:=by omega
       clear hcf' hcg' hl hrb hfb f0 f1 r0 r1 bk bt q1;go_wp2;go_roundw;case rel=>exact⟨k+1,by omega,by go_num,by rw[HN.out];exact hp.set rb _,grown_trans G (grown_set _ _ _ _)⟩
       case measure=>simp[intOf];omega
      ·
       obtain rfl:k=rs.length:=by omega
       have q3:=q1.kept G (fun e=>by have:=Option.some.inj e;omega);have hl:=HS.out rs.length;rw[←HE.out] at hl hp;have PS:=pg_size hl;have PI:(Tryz.prog.info? 109).map (·.size)=some (pgC (pageB dss f rows)).size:=by rw[PS];exact page_info
       have HF:Hid (Keep w (wr.setRow (w.heap.size+1) (pgC (pageB dss f rows)))∧(wr.setRow (w.heap.size+1) (pgC (pageB dss f rows))).heap[w.heap.size+1]? = some (.cells (pgC (pageB dss f rows)) 109 (0,0))):=Lib.hid ⟨K6.grown (grown_setRow _ _ _) (fun k hk=>by have:=Option.some.inj hk;omega),heap_setRow_same _ _ _ _ _ q3⟩;have HO:Hid ((pgC (List.replicate 12 0)).size=(pgC (pageB dss f rows)).size):=Lib.hid (by rw[PS];rfl);have HI:=Lib.hid PI;have HP:=Lib.hid (pg_one (pageB dss f rows));clear PI PS hl HE HS bt q1;unfold Pg at hp q3;obtain⟨P,hP⟩:∃P,P=pgC (pageB dss f rows):=⟨_,rfl⟩;rw[←hP] at hp HI HF HO HP;have HQ:=Lib.hid hP;clear hP;go_wp2_with (first|refine wpList_load_row rfl 109 _ rfl (w.heap.size+1+1) rfl 109 _ (0,0) _ hp Tryz.underlying109 rfl HI.out ?_|refine wpList_store_row rfl 109 _ _ rfl (w.heap.size+1) _ rfl rfl 109 _ q3 HI.out HO.out HP.out ?_)
       refine bodyPost_ret (results_row (by rfl) _ _ (w.heap.size+1) 109 _ (0,0) _ rfl HF.out.2 Tryz.underlying109 rfl HI.out) rfl ?_;exact⟨by rw[HQ.out],HF.out.1⟩
theorem idx_top {es:List Ev}(hx:es.length≤12)(t:Ev→Bool):(idxB t es).length≤12:=by
 unfold idxB;rw[if_pos hx];have:=idxK_len t es es.length;omega
theorem implAgainstWeb_any (w:World)(v vF vR:Value)(dss:List (List Dd))(f rows:List Int)(h:RdW w v dss)(hf:Rd w vF f)(hr:Rd w vR rows)(hcap:rows.length≤capZ vR)(hx:dss.length≤1048576)(hm:∀i,i<dss.length→(dss.getD i []).length≤1048576)(hfl:f.length≤1048576)(hrl:rows.length≤1048576):
  Calls Tryz.prog 57 #[v,.agg #[vF,vR]] w fun e w'=>∃v',e = .returned v'∧Row w' w.heap.size v' (agB dss f rows)∧Keep w w':=by
 have C:=fun (W:World) (kW:Keep w W)=>pageOf_any W v vF vR dss f rows (h.keep kW) (hf.keep kW) (hr.keep kW) hcap hx hm hfl hrl
 have CB:=fun (W:World)=>isBlank_any W (pageB dss f rows) (pageB_len dss f rows)
 rw[page_blank] at CB;have hPl:=pageB_len dss f rows;have HP:taleB dss f rows=true→Hid (pageB dss f rows=pageL (eventsB dss) f rows):=fun e=>Lib.hid (by rw[pageB,if_pos e])
 obtain⟨P,hP⟩:∃P,P=pageB dss f rows:=⟨_,rfl⟩;rw[←hP] at C CB hPl HP;clear hP;obtain⟨aF,cF,rfl,-⟩:=hf;obtain⟨aR,cR,rfl,-⟩:=hr;have PI:(Tryz.prog.info? 109).map (·.size)=some (pgC P).size:=by rw[pg_size hPl];exact page_info
 have HI:=Lib.hid PI;have HO:Hid ((pgC (List.replicate 12 0)).size=(pgC P).size):=Lib.hid (by rw[pg_size hPl];rfl);have H1:=Lib.hid (pg_one P);clear PI;go_enter Tryz.func57,Tryz.ntmps57
 go_wp2_with fail
 refine (C _ ((Keep.refl w).alloc _)).mono ?_;rintro e w1 ⟨rfl,k1⟩;have K1:=((Keep.refl w).alloc _).trans k1;have hz:=Pg.new (w:=w1) (List.replicate 12 0);have h1:((w1.alloc (.cells (pgC (List.replicate 12 0)) 109)).setRow w1.heap.size (pgC P)).heap[w1.heap.size]? = some (.cells (pgC P) 109 (0,0)):=heap_setRow_same _ _ _ _ _ hz;have k2:Keep w1 ((w1.alloc (.cells (pgC (List.replicate 12 0)) 109)).setRow w1.heap.size (pgC P)):=((Keep.refl w1).alloc _).grown (grown_setRow _ _ _) (fun k hk=>by have:=Option.some.inj hk;omega);clear k1 C;unfold Pg at hz;go_wp2_with (first|refine wpList_store_row rfl 109 _ _ rfl w1.heap.size _ rfl rfl 109 _ hz HI.out HO.out H1.out ?_|refine wpList_load_row rfl 109 _ rfl w1.heap.size rfl 109 _ (0,0) _ h1 Tryz.underlying109 rfl HI.out ?_|fail)
 have HH:=Lib.hid h1;have z1:w1.heap.size<((w1.alloc (.cells (pgC (List.replicate 12 0)) 109)).setRow w1.heap.size (pgC P)).heap.size:=by simp
 refine (CB _).mono ?_;rintro e w2 ⟨rfl,k3⟩;have K2:=(K1.trans k2).trans k3;have s1:=K1.size;have pg:Pg w2 w1.heap.size P:=(Below.block k3 _ z1).trans HH.out;clear hz h1 k2 k3 z1 HH HI HO H1 CB;cases hb:taleB dss f rows
 ·
  have HE:Hid (agB dss f rows=[]):=Lib.hid (by rw[agB,hb];rfl);have s2:=K2.size;clear hb HP;go_wp2;go_ret;exact⟨_,rfl,by rw[HE.out];exact (row_empty w2 _).base_le s2,K2.alloc _⟩
 ·
  have HP:=HP hb;obtain⟨h12,sl,f12,-,-,-,-,fu,-⟩:=page_use hb;have fin:∀i,i<(idxB rdE (eventsB dss)).length→0≤(idxB rdE (eventsB dss)).getD i 0∧(idxB rdE (eventsB dss)).getD i 0<((eventsB dss).length:Int):=fun i hi=>(fu i (by omega)).2.1
  have HE:Hid (agB dss f rows=agO (eventsB dss) P (idxB rdE (eventsB dss)) (idxB rdE (eventsB dss)).length):=Lib.hid (by rw[HP.out,ag_same hb]);have HWO:=Lib.hid (web_agO (p:=P) h12 fin);have HWI:=Lib.hid (fun (r:Nat) (p0:Int) (st:List Int) hr hst=>web_agI (p:=P) (ws:=idxB (toE p0) (eventsB dss)) (n:=(eventsB dss).length) (r:=r) (st:=st) (fun j hj=>(idx_all h12 (get_mem hj)).1) hr hst);have FIN:=Lib.hid fin;have WIN:=Lib.hid (fun (p0:Int) (j:Nat) (hj:j<(idxB (toE p0) (eventsB dss)).length)=>(idx_all h12 (get_mem hj)).1);have R12:(idxB rdE (eventsB dss)).length≤12:=by omega
  clear fin fu sl f12 hb HP;go_wp2_with fail
  refine (implEventsOf_any _ _ _ (h.keep K2) hx hm).mono ?_;rintro e w3 ⟨v3,rfl,a3,k3⟩;have s3:=k3.size;have s2:=K2.size;replace pg:=pg.keep k3;have re:=a3.rd;have K3:=K2.trans k3;generalize eventsB dss=es at *;obtain⟨ae,ce,rfl,re'⟩:=id re;go_wp2_with fail
  refine (blank_any _ _ h12).mono ?_;rintro e w4 ⟨rfl,rb,k4⟩;have s4:=rb.lt;go_wp2_with fail
  refine (implReadsOf_any _ _ _ (re.keep k4) (by omega)).mono ?_;rintro e w5 ⟨v5,rfl,o5,k5⟩;have s5:=k5.size;replace rb:=rb.keep k5;have k35:=k4.trans k5;obtain⟨a5,c5,rfl,-⟩:=o5.rd;generalize idxB rdE es=rs at *;clear a3 k4 k5 K1 K2 k3 h hx hm hcap;have pl:=pg.lt;go_wp2;go_loopw [26] (fun i wr=>∃k:Nat,k≤rs.length∧i = .int .i64 k∧RowAt wr w3.heap.size (agO es P rs k)∧w5.grownBy wr (some w3.heap.size)) (fun i _=>rs.length-(intOf i).toNat)
  case atStart=>exact⟨0,Nat.zero_le _,rfl,rb,World.grownBy.refl _ _⟩
  case round=>
   obtain⟨k,hk,rfl,hr,G⟩:=hrel;clear rb;have kr:Keep w3 wr:=k35.grown G (fun j hj=>by have:=Option.some.inj hj;omega);by_cases hlt:k<rs.length
   ·
    have hrk:=(o5.other (by omega) G).rd;obtain⟨a',c',he',hrk⟩:=hrk;simp only[Value.slice.injEq,true_and] at he';obtain⟨rfl,rfl⟩:=he';rcases hrk with h0|⟨bf,off,rfl,hbf,hcf'⟩
    · exfalso;rw[h0] at hlt;simp at hlt
    obtain⟨ra,hra⟩:=Int.eq_ofNat_of_zero_le (FIN.out k hlt).1;have hral:ra<es.length:=by have:=(FIN.out k hlt).2;omega
    have d1:=hcf' k hlt;rw[hra] at d1;clear hcf';rcases re' with h0|⟨be,oe,rfl,hbe,hce⟩
    · exfalso;rw[h0] at hral;simp at hral
    have AX:=(hce ra _ (evs_get hral)).keep hbe kr;have CW:=fun (W:World) (kW:Keep w3 W)=>implWritesTo_any W _ es (re.keep kW) (by omega) (es.getD ra zE).2.2.2.1
    have HN:Hid (agO es P rs (k+1)=agI P ra (idxB (toE (es.getD ra zE).2.2.2.1) es) (agO es P rs k) (idxB (toE (es.getD ra zE).2.2.2.1) es).length):=Lib.hid (by rw[agO,hra];unfold plE;rw[Int.toNat_natCast]);have HX:=Lib.hid (HWI.out ra (es.getD ra zE).2.2.2.1 (agO es P rs k) hral (HWO.out k hk).1);have HW:=Lib.hid (WIN.out (es.getD ra zE).2.2.2.1);generalize agO es P rs k=S0 at hr HN HX;generalize es.getD ra zE=ex at AX CW HN HX HW;obtain⟨x0,x1,x2,x3,x4,x5⟩:=ex;obtain⟨A0,A1,A2,A3,A4,A5⟩:=atE AX;simp only at CW HN HX HW A3;clear AX hce A0 A1 A2 A4 A5 hra;have i1:(0:Int)≤(k:Int):=Int.natCast_nonneg _;have i2:(k:Int)<(rs.length:Int):=by omega
    have i3:(0:Int)≤(ra:Int):=Int.natCast_nonneg _;have i4:(ra:Int)<(es.length:Int):=by omega
    go_wp2_with fail
    refine (CW _ kr).mono ?_;rintro e w6 ⟨v6,rfl,o6,k6⟩;clear CW d1 A3;have W12:=idx_top h12 (toE x3);generalize idxB (toE x3) es=ws at *;obtain⟨a6,c6,rfl,-⟩:=o6.rd;replace hr:=hr.keep k6;have kr6:=kr.trans k6;have sr:=G.size;have G6:w5.grownBy w6 (some w3.heap.size):=grown_trans G ⟨Below.os k6,Below.tape k6,Below.output k6,Below.size k6,fun i hi _=>Below.block k6 i hi⟩;clear kr G;go_wp2;go_loopw [38] (fun i wq=>∃q:Nat,q≤ws.length∧i = .int .i64 q∧RowAt wq w3.heap.size (agI P ra ws S0 q)∧w6.grownBy wq (some w3.heap.size)) (fun i _=>ws.length-(intOf i).toNat)
    case atStart=>exact⟨0,Nat.zero_le _,rfl,hr,World.grownBy.refl _ _⟩
    case round=>
     clear hr;obtain⟨q,hq,rfl,hr,Gq⟩:=hrel;have kq:Keep w3 wr:=kr6.grown Gq (fun j hj=>by have:=Option.some.inj hj;omega);by_cases hqk:q<ws.length
     ·
      have hrk:=(o6.other (by omega) Gq).rd;obtain⟨a',c',he',hrk⟩:=hrk;simp only[Value.slice.injEq,true_and] at he';obtain⟨rfl,rfl⟩:=he';rcases hrk with h0|⟨bg,ofg,rfl,hbg,hcg'⟩
      · exfalso;rw[h0] at hqk;simp at hqk
      obtain⟨rb,hrb⟩:=Int.eq_ofNat_of_zero_le (HW.out q hqk).1;have hrbl:rb<es.length:=by have:=(HW.out q hqk).2;omega
      have d2:=hcg' q hqk;rw[hrb] at d2;have pq:=pg.keep kq;have p1:=pq.cell (j:=ra) (by omega);have p2:=pq.cell (j:=rb) (by omega);have hBl:=(HX.out q hq).1.2.1;have HY:P.getD ra 0<P.getD rb 0→Hid (agI P ra ws S0 (q+1)=(agI P ra ws S0 q).set ra (gAdd ((agI P ra ws S0 q).getD ra 0) (rb:Int))):=fun e=>Lib.hid (by rw[agI,hrb,Int.toNat_natCast,if_pos (decide_eq_true e)])
      have HM:¬P.getD ra 0<P.getD rb 0→Hid (agI P ra ws S0 (q+1)=agI P ra ws S0 q):=fun e=>Lib.hid (by rw[agI,hrb,Int.toNat_natCast,if_neg (by simpa using e)])
      clear hcg' hrb;generalize agI P ra ws S0 q=S at hr HY HM hBl;generalize P.getD ra 0=pa at p1 HY HM;generalize P.getD rb 0=pb at p2 HY HM;have n1:(0:Int)≤(q:Int):=Int.natCast_nonneg _;have n2:(q:Int)<(ws.length:Int):=by omega
      have n3:(0:Int)≤(rb:Int):=Int.natCast_nonneg _;have n4:(rb:Int)<12:=by omega
      have n5:(ra:Int)<12:=by omega
      have n6:(0:Int)≤(ra:Int):=Int.natCast_nonneg _;by_cases hp:pa<pb
      ·
       have HE1:=HY hp;clear HY HM;go_wp2;go_quiet (fail)
       clear p1 p2 d2;go_wp2_with fail
       refine (line_any _ w3.heap.size es.length es.length S ra (rb:Int) (hr.drewN _) hBl hral).mono ?_;rintro e w7 ⟨rfl,R7,g7⟩;have G7:=grown_trans (grown_trans Gq (grown_draw wr _ _)) g7;go_wp2;go_roundw;case rel=>exact⟨q+1,by omega,by go_num,by rw[HE1.out];exact R7,G7⟩
       case measure=>simp[intOf];omega
      ·
       have HE1:=HM hp;have hp':pb≤pa:=by omega
       clear HY HM;go_wp2;go_quiet (fail)
       clear p1 p2 d2;go_wp2;go_roundw;case rel=>exact⟨q+1,by omega,by go_num,by rw[HE1.out];exact hr.drewN _,grown_trans Gq (grown_draw wr _ _)⟩
       case measure=>simp[intOf];omega
     ·
      obtain rfl:q=ws.length:=by omega
      go_wp2;go_roundw;case rel=>exact⟨k+1,by omega,by go_num,by rw[HN.out];exact hr,grown_trans G6 Gq⟩
      case measure=>simp[intOf];omega
   ·
    obtain rfl:k=rs.length:=by omega
    have hl:=(HWO.out rs.length (Nat.le_refl _)).1.2.1;go_wp2;go_ret;exact⟨_,rfl,by rw[HE.out];exact .inr ⟨w3.heap.size,es.length,by rw[hl];rfl,by omega,hr⟩,K3.trans kr⟩
end Go.Proofs.YtgikcfdckddgpabGreat
