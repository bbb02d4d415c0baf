/- Gathered texts. -/
import Derived.Test.YtflehmepjhikcaaGreatDoorMG
import Derived.BigRegion
import Derived.Deep.Cut
import Derived.BigQuiet
import Derived.Lib.Hide
import Derived.Test.YtflehmepjhikcaaGreatDoorME
import Derived.Deep.RegionHeld3
import Derived.Deep.QuietTactic
import Derived.Maps.AppendAt
import Derived.Laws.OwnMore
import Derived.OwnWalk
import Derived.Deep.CutRange
set_option maxRecDepth 100000
set_option maxHeartbeats 8000000
namespace Go.Proofs.YtflehmepjhikcaaGreatDoor
open Go.ChangeShapes Go.WideShapes Go.ChangeAt Go.RowKit
abbrev KAR:=@List.setIfInBounds_toArray
abbrev KBU:=@AllReadyH.cons
abbrev KBb:=@AllReadyH.nil
abbrev KBl:=@wpAnyH_ready
abbrev KCz:=@Calls.quiet_of_same
theorem A6 (lo x hi:Int)(w:World):
  Calls Tryz.prog 98 #[.int .i64 lo,.int .i64 x,.int .i64 hi] w fun e w'=>e = .returned (.bool (Co x lo hi))/\w'=w:=by
 go_enter Tryz.func98,Tryz.ntmps98
 go_wp2
 all_goals
  go_ret;exact⟨BE (by rw[KBg];unfold Co;simp;omega),rfl⟩
def Vk (k:Int):Int:=if k=1\/k=2\/k=3 then 2 else 0
def Vl (k:Int):Int:=if k=2\/k=3 then 9 else 0
def Qu (k:Int):Int:=if k=2\/k=3 then 1 else 0
def Vj (k:Int):Int:=if k=1\/k=2 then 9 else 0
theorem Ua (k:Int)(w:World):
  Calls Tryz.prog 171 #[.int .i64 k] w fun e w'=>e = .returned (.tuple #[FL 1 0 (Qu k) 0,FL 4 (Vk k) (Vl k) (Vj k)])/\AC w w':=by
 have hk:k=1\/k=2\/k=3\/(¬k=1/\¬k=2/\¬k=3):=by omega
 rcases hk with rfl|rfl|rfl|⟨h1,h2,h3⟩
 all_goals
  go_enter Tryz.func171,Tryz.ntmps171
  go_wp2;go_region
  go_wp2;refine bodyPost_ret (RI (by rfl) _ _ _ _ _ _ _ _ _ _ _ rfl (by simp only[Bs,Az,AD];repeat (first|exact KAP rfl|exact KAP trivial|rw[KAQ (by omega)])) rfl (by simp only[Bs,Az,AD];repeat (first|exact KAP rfl|exact KAP trivial|rw[KAQ (by omega)])) Tryz.underlying82 rfl (by kernel_rfl) (by kernel_rfl)) rfl ?_;refine⟨?_,(((((AC.refl w).alloc _).alloc _).alloc _).alloc _).drew⟩;first|rfl|simp[FL,Qu,Vk,Vl,Vj,h1,h2,h3]
theorem UB (k p v g:Int):Ec k p v g=(Co k 1 4&&Co p 0 (Vk k)&&Co v (Qu k) (Vl k)&&Co g 0 (Vj k)):=by
 have hk:k=1\/k=2\/k=3\/k=4\/¬(1<=k/\k<=4):=by omega
 rw[KBg];rcases hk with rfl|rfl|rfl|rfl|h
 all_goals
  simp[Ec,Co,Vk,Vl,Qu,Vj];omega
theorem IX (k p v g:Int)(w:World):
  Calls Tryz.prog 158 #[FL k p v g] w fun e w'=>e = .returned (.bool (Ec k p v g))/\AC w w':=by
 rw[UB];unfold FL;go_enter Tryz.func158,Tryz.ntmps158
 go_wp2_with fail
 refine (Ua _ _).mono ?_;rintro e w1 ⟨rfl,k1⟩;have hs:=IL k1;have c0:w1.cell? ⟨w.heap.size,0,none⟩=some (.int .i64 k):=AO k1 0;have c1:w1.cell? ⟨w.heap.size,1,none⟩=some (.int .i64 p):=AO k1 1;have c2:w1.cell? ⟨w.heap.size,2,none⟩=some (.int .i64 v):=AO k1 2;have c3:w1.cell? ⟨w.heap.size,3,none⟩=some (.int .i64 g):=AO k1 3;have K1:AC w w1:=((AC.refl w).alloc _).trans k1;clear k1;go_wp2_with (go_at_call 98;refine (A6 _ _ _ _).mono ?_;rintro e w' ⟨rfl,rfl⟩)
 all_goals
  go_ret;exact⟨BE (by simp[*]),(K1.alloc _).alloc _⟩
theorem PC (w:World)(vR vV:Value)(rs vs:List Int)(n:Int)(a:Addr)(hr:Rd w vR rs)(hv:Rd w vV vs)(hn:KH w a)(h0:0<=n)(h1:n<=12)(lr:rs.length<=2097152)(lv:vs.length<=2097152):
  Calls Tryz.prog 68 #[.agg #[vR,vV],.int .i64 n] w fun e w'=>∃v,e = .returned v/\Oj a (Q0 n rs vs) v/\AC w w':=by
 obtain⟨aR,cR,rfl,hr⟩:=hr;obtain⟨aV,cV,rfl,hv⟩:=hv;have HE:Hid (Q0 n rs vs=((decide (rs.length<=6)&&decide (rs.length=vs.length))&&II n rs vs rs.length)):=AN rfl;have hw:IntKind.i64.wrap (n-1)=n-1:=by rw[KAk];omega
 have K1:AC w (w.alloc (.cells #[.slice aR rs.length cR,.slice aV vs.length cV] 27)):=(AC.refl w).alloc _;have HR:=AN hr;have HV:=AN hv;clear hr hv;obtain⟨wA,Ho⟩:∃W:World,W=w.alloc (.cells #[.slice aR rs.length cR,.slice aV vs.length cV] 27):=⟨_,rfl⟩;rw[<-Ho] at K1;have b0:wA.cell? ⟨w.heap.size,0,none⟩=some (.slice aR rs.length cR):=by rw[Ho];exact AO (AC.refl _) 0
 have b1:wA.cell? ⟨w.heap.size,1,none⟩=some (.slice aV vs.length cV):=by rw[Ho];exact AO (AC.refl _) 1
 have g0:wA.cell? ⟨0,0,none⟩=some (Ti a):=(hn.keep K1).out;clear hn;by_cases hl:rs.length=vs.length
 ·
  have hle:((rs.length:Int) != (vs.length:Int))=false:=by rw[hl];simp
  by_cases h6:6<rs.length
  ·
   have d6:(6:Int)<(rs.length:Int):=by omega
   have HN:Hid (Q0 n rs vs=false):=AN (by rw[HE.out,KAi (by omega)];rfl);clear hl;go_enter Tryz.func68,Tryz.ntmps68
   go_upto_region 1 with fail
   rw[<-Ho];clear Ho;go_wp2;go_ret;exact⟨_,rfl,.inr ⟨HN.out,_,rfl⟩,K1⟩
  ·
   have d6:decide ((6:Int)<(rs.length:Int))=false:=by rw[decide_eq_false_iff_not];omega
   have XL:=AN hl;have HN:Hid (Q0 n rs vs=II n rs vs rs.length):=AN (by rw[HE.out,KAl (by omega),KAl hl];rfl);clear hl;go_enter Tryz.func68,Tryz.ntmps68
   go_upto_region 1 with fail
   rw[<-Ho];clear Ho;go_wp2;go_loop [5,6,26] (fun _ _ i=>∃k:Nat,k<=rs.length/\i = .int .i64 k/\Hid (II n rs vs k=true)) (fun _ _ i=>rs.length-(intOf i).toNat)
   case atStart=>exact⟨0,KAb _,rfl,AN rfl⟩
   case round=>
    obtain⟨k,hk,rfl,hq⟩:=hrel;by_cases hlt:k<rs.length
    ·
     have hlt2:k<vs.length:=by have:=XL.out;omega
     rcases HR.out with q|⟨bR,oR,rfl,hbR,dR⟩
     . exfalso;rw[q] at hlt;simp at hlt
     rcases HV.out with q|⟨bV,oV,rfl,pM,dV⟩
     . exfalso;rw[q] at hlt2;simp at hlt2
     have e1:=(K1.cell hbR).trans (dR k hlt);have e2:=(K1.cell pM).trans (dV k hlt2);have i1:(0:Int)<=(k:Int):=KAK _;have i2:(k:Int)<(rs.length:Int):=by omega
     have i3:(k:Int)<(vs.length:Int):=by omega
     have XS:Hid (II n rs vs (k+1)=((Co (rs.getD k 0) 0 (n-1)||Co (rs.getD k 0) 100 102)&&Co (vs.getD k 0) 0 9)):=AN (by
      show (II n rs vs k&&_)=_;rw[hq.out,KBi]
      rfl)
     have C1:=fun (W:World)=>A6 0 (rs.getD k 0) (n-1) W
     have C2:=fun (W:World)=>A6 100 (rs.getD k 0) 102 W
     have C3:=fun (W:World)=>A6 0 (vs.getD k 0) 9 W
     generalize rs.getD k 0=x at e1 C1 C2 XS;generalize vs.getD k 0=y at e2 C3 XS;generalize Co x 0 (n-1)=A at C1 XS;generalize Co x 100 102=A2 at C2 XS;generalize Co y 0 9=B at C3 XS;clear dR dV hlt2;go_wp2_with fail
     refine (C1 _).mono ?_;rintro e w1 ⟨rfl,rfl⟩;cases A
     ·
      go_wp2_with fail
      refine (C2 _).mono ?_;rintro e w2 ⟨rfl,rfl⟩;cases A2
      ·
       clear C3;go_wp2;go_ret;exact⟨_,rfl,.inr ⟨by rw[HN.out];exact IJ (k:=k+1) (by rw[XS.out];rfl) (by omega),_,rfl⟩,K1⟩
      ·
       go_wp2_with fail
       refine (C3 _).mono ?_;rintro e w3 ⟨rfl,rfl⟩;cases B
       ·
        go_wp2;go_ret;exact⟨_,rfl,.inr ⟨by rw[HN.out];exact IJ (k:=k+1) (by rw[XS.out];rfl) (by omega),_,rfl⟩,K1⟩
       ·
        go_wp2;go_round
        case rel=>exact⟨k+1,by omega,by go_num,AN (by rw[XS.out];rfl)⟩
        case measure=>simp[intOf];omega
     ·
      go_wp2_with fail
      refine (C3 _).mono ?_;rintro e w3 ⟨rfl,rfl⟩;cases B
      ·
       go_wp2;go_ret;exact⟨_,rfl,.inr ⟨by rw[HN.out];exact IJ (k:=k+1) (by rw[XS.out];rfl) (by omega),_,rfl⟩,K1⟩
      ·
       go_wp2;go_round
       case rel=>exact⟨k+1,by omega,by go_num,AN (by rw[XS.out];rfl)⟩
       case measure=>simp[intOf];omega
    ·
     obtain rfl:k=rs.length:=by omega
     go_wp2;go_ret;exact⟨_,rfl,.inl ⟨by rw[HN.out];exact hq.out,rfl⟩,K1⟩
 ·
  have hle:((rs.length:Int) != (vs.length:Int))=true:=by simp;omega
  have HN:Hid (Q0 n rs vs=false):=AN (by rw[HE.out,KAi hl,KDN,KCe]);clear hl;go_enter Tryz.func68,Tryz.ntmps68
  go_upto_region 1 with fail
  rw[<-Ho];clear Ho;go_wp2;go_ret;exact⟨_,rfl,.inr ⟨HN.out,_,rfl⟩,K1⟩
theorem MM (s t:Int)(w:World):
  Calls Tryz.prog 131 #[.int .i64 s,.int .i64 t] w fun e w'=>e = .returned (.int .i64 (bits .and .i64 s t))/\w'=w:=by
 go_enter Tryz.func131,Tryz.ntmps131
 go_wp2;go_ret;exact⟨rfl,rfl⟩
theorem Us (s t:Int)(w:World):
  Calls Tryz.prog 127 #[.int .i64 s,.int .i64 t] w fun e w'=>e = .returned (.int .i64 (bits .or .i64 s t))/\w'=w:=by
 go_enter Tryz.func127,Tryz.ntmps127
 go_wp2;go_ret;exact⟨rfl,rfl⟩
theorem De (a:Option Addr)(n c:Nat)(w:World):
  Calls Tryz.prog 101 #[.slice a n c] w fun e w'=>e = .returned (.int .i64 (n:Int))/\w'=w:=by
 go_enter Tryz.func101,Tryz.ntmps101
 go_wp2;go_ret;exact⟨rfl,rfl⟩
theorem W6 (d:Dd):(d.1=3/\UG d=2)\/(d.1=1/\UG d=1)\/(d.1=2/\UG d=1)\/(¬d.1=3/\¬d.1=1/\¬d.1=2/\UG d=0):=by
 unfold UG
 repeat' split
 all_goals omega
theorem UH (w:World)(v:Value)(ds:List Dd)(h:Jg w v ds)(hx:ds.length<=1048576):
  Calls Tryz.prog 102 #[v] w fun e w'=>e = .returned (.int .i64 (PW ds ds.length))/\AC w w':=by
 obtain⟨a,c,rfl,h⟩:=h;go_enter Tryz.func102,Tryz.ntmps102
 go_wp2;go_loopw [3,8] (fun n i wr=>∃k:Nat,∃m:Int,k<=ds.length/\n = .int .i64 m/\i = .int .i64 k/\Hid (m=PW ds k)/\0<=m/\m<=2*k/\AC w wr) (fun _ i _=>ds.length-(intOf i).toNat)
 case atStart=>exact⟨0,0,KAb _,rfl,rfl,AN rfl,by omega,by omega,AC.refl _⟩
 case round=>
  obtain⟨k,m,hk,rfl,rfl,hm,m0,m1,hK⟩:=hrel;by_cases hlt:k<ds.length
  ·
   rcases h with h|⟨b,o,rfl,hb,hc⟩
   . exfalso;rw[h] at hlt;simp at hlt
   obtain⟨A0,A1,A2,A3⟩:=(hc k hlt).keep hb hK;clear hc;have HE:Hid (m+UG (ds.getD k zD)=PW ds (k+1)):=AN (by rw[PW,hm.out]);have CS:=W6 (ds.getD k zD);clear hm;obtain⟨d,hd⟩:∃d,d=ds.getD k zD:=⟨_,rfl⟩;rw[<-hd] at A0 A1 A2 A3 HE CS;clear hd;obtain⟨x0,x1,x2,x3⟩:=d;simp only at A0 A1 A2 A3 CS;have hbw:b<wr.heap.size:=KAC hb hK.size;have i1:(0:Int)<=(k:Int):=KAK _;have i2:(k:Int)<(ds.length:Int):=by omega
   rcases CS with ⟨rfl,e⟩|⟨rfl,e⟩|⟨rfl,e⟩|⟨n3,n1,n2,e⟩
   ·
    rw[e] at HE;clear e;go_wp2;go_roundw;case rel=>exact⟨k+1,m+2,by omega,by go_num,by go_num,HE,by omega,by omega,hK.alloc _⟩
    case measure=>simp[intOf];omega
   ·
    rw[e] at HE;clear e;go_wp2;go_roundw;case rel=>exact⟨k+1,m+1,by omega,by go_num,by go_num,HE,by omega,by omega,hK.alloc _⟩
    case measure=>simp[intOf];omega
   ·
    rw[e] at HE;clear e;go_wp2;go_roundw;case rel=>exact⟨k+1,m+1,by omega,by go_num,by go_num,HE,by omega,by omega,hK.alloc _⟩
    case measure=>simp[intOf];omega
   ·
    rw[e,Int.add_zero] at HE;clear e;have e3:(x0==3)=false:=by simp[n3]
    have e1:(x0==1)=false:=by simp[n1]
    have e2:(x0==2)=false:=by simp[n2]
    clear n3 n1 n2;go_wp2;go_roundw;case rel=>exact⟨k+1,m,by omega,by go_num,by go_num,HE,by omega,by omega,hK.alloc _⟩
    case measure=>simp[intOf];omega
  ·
   obtain rfl:k=ds.length:=by omega
   go_wp2;go_ret;exact⟨by rw[hm.out];rfl,hK⟩
theorem Fj (w:World)(v:Value)(ds:List Dd)(h:Jg w v ds)(hx:ds.length<=1048576):
  Calls Tryz.prog 128 #[v] w fun e w'=>e = .returned (.int .i64 (gC ds))/\AC w w':=by
 obtain⟨a,c,rfl,h⟩:=h;go_enter Tryz.func128,Tryz.ntmps128
 go_wp2;go_loopw [3,8] (fun n i wr=>∃k:Nat,∃m:Int,k<=ds.length/\n = .int .i64 m/\i = .int .i64 k/\Hid (m=gK ds k)/\AC w wr) (fun _ i _=>ds.length-(intOf i).toNat)
 case atStart=>exact⟨0,0,KAb _,rfl,rfl,AN rfl,AC.refl _⟩
 case round=>
  obtain⟨k,m,hk,rfl,rfl,hm,hK⟩:=hrel;by_cases hlt:k<ds.length
  ·
   rcases h with h|⟨b,o,rfl,hb,hc⟩
   . exfalso;rw[h] at hlt;simp at hlt
   obtain⟨A0,A1,A2,A3⟩:=(hc k hlt).keep hb hK;clear hc;have HE:Hid (gK ds (k+1)=if Qe (ds.getD k zD)=0 then m else MU m (Qe (ds.getD k zD))):=AN (by rw[gK,hm.out]);clear hm;obtain⟨d,hd⟩:∃d,d=ds.getD k zD:=⟨_,rfl⟩;rw[<-hd] at A0 A1 A2 A3 HE;clear hd;obtain⟨x0,x1,x2,x3⟩:=d;unfold Qe at HE;simp only at A0 A1 A2 A3 HE;have hbw:b<wr.heap.size:=KAC hb hK.size;have i1:(0:Int)<=(k:Int):=KAK _;have i2:(k:Int)<(ds.length:Int):=by omega
   by_cases h0:x3=0
   ·
    subst h0;go_wp2;go_roundw;case rel=>exact⟨k+1,m,by omega,by go_num,by go_num,AN (by rw[HE.out,KAP rfl]),hK.alloc _⟩
    case measure=>simp[intOf];omega
   ·
    have e0:(x3 != 0)=true:=by simp[h0]
    have HF:Hid (gK ds (k+1)=MU m x3):=AN (by rw[HE.out,KAQ h0]);clear h0 HE;go_wp2_with fail
    refine (fU _ _ _).mono ?_;rintro e wz ⟨rfl,rfl⟩;go_wp2;go_roundw;case rel=>exact⟨k+1,_,by omega,rfl,by go_num,AN HF.out.symm,hK.alloc _⟩
    case measure=>simp[intOf];omega
  ·
   obtain rfl:k=ds.length:=by omega
   go_wp2;go_ret;exact⟨by rw[hm.out];rfl,hK⟩
theorem WZ {α:Type}{f:α->Bool}{l:List α}{k:Nat}(z:α)(h:k<l.length)(h1:(l.take k).all f=true)(h2:f (l.getD k z)=true):(l.take (k+1)).all f=true:=by
 rw[KBQ,KAH h,List.all_append,h1];rw[IT,KAH h] at h2
 simpa using h2
theorem FP (w:World)(v:Value)(ds:List Dd)(h:Jg w v ds)(hx:ds.length<=1048576):
  Calls Tryz.prog 129 #[v] w fun e w'=>e = .returned (.bool (ds.all Fy))/\AC w w':=by
 obtain⟨a,c,rfl,h⟩:=h;go_enter Tryz.func129,Tryz.ntmps129
 go_wp2;go_loopw [7] (fun i wr=>∃k:Nat,k<=ds.length/\i = .int .i64 k/\Hid ((ds.take k).all Fy=true)/\AC w wr) (fun i _=>ds.length-(intOf i).toNat)
 case atStart=>exact⟨0,KAb _,rfl,AN (by simp),AC.refl _⟩
 case round=>
  obtain⟨k,hk,rfl,hm,hK⟩:=hrel;by_cases hlt:k<ds.length
  ·
   rcases h with h|⟨b,o,rfl,hb,hc⟩
   . exfalso;rw[h] at hlt;simp at hlt
   obtain⟨A0,A1,A2,A3⟩:=(hc k hlt).keep hb hK;clear hc;have HT:Fy (ds.getD k zD)=true->Hid ((ds.take (k+1)).all Fy=true):=fun e=>AN (WZ zD hlt hm.out e)
   have HF:Fy (ds.getD k zD)=false->Hid (ds.all Fy=false):=fun e=>AN (QQ zD k hlt e)
   clear hm;obtain⟨d,hd⟩:∃d,d=ds.getD k zD:=⟨_,rfl⟩;rw[<-hd] at A0 A1 A2 A3 HT HF;clear hd;obtain⟨x0,x1,x2,x3⟩:=d;simp only at A0 A1 A2 A3;have hbw:b<wr.heap.size:=KAC hb hK.size;have i1:(0:Int)<=(k:Int):=KAK _;have i2:(k:Int)<(ds.length:Int):=by omega
   cases hd:Ec x0 x1 x2 x3
   ·
    have HE:=HF hd;clear HT HF;go_wp2_with fail
    refine (IX _ _ _ _ _).mono ?_;rintro e wz ⟨rfl,kk⟩;go_wp2;go_ret;exact⟨by rw[HE.out];rfl,(hK.alloc _).trans kk⟩
   ·
    have HE:=HT hd;clear HT HF;go_wp2_with fail
    refine (IX _ _ _ _ _).mono ?_;rintro e wz ⟨rfl,kk⟩;go_wp2;go_roundw;case rel=>exact⟨k+1,by omega,by go_num,HE,(hK.alloc _).trans kk⟩
    case measure=>simp[intOf];omega
  ·
   obtain rfl:k=ds.length:=by omega
   rw[KBK] at hm;go_wp2;go_ret;exact⟨by rw[hm.out];rfl,hK⟩
abbrev Wn (x0 x1 x2 x3:Int):Obj:= .cells #[.int .i64 x0,.int .i64 x1,.int .i64 x2,.int .i64 x3] 82
theorem Jg.cut {w:World}{b o:Nat}{ds:List Dd}{c k:Nat}(hk:k<=ds.length)(hb:b<w.heap.size)(hc:∀i,i<ds.length->Tl w b (o+i*4) (ds.getD i zD)):
  Jg w (.slice (some ⟨b,o,none⟩) k (ds.length+c)) (ds.take k):=by
 refine⟨some ⟨b,o,none⟩,ds.length+c-k,?_,.inr ⟨b,o,rfl,hb,fun i hi=>?_⟩⟩
 ·
  rw[KAz,KBh hk]
  congr 1
  omega
 ·
  rw[KAz] at hi;rw[QF ds k i zD (by omega)];exact hc i (by omega)
theorem Uz {ds:List Dd}{k:Nat}(h:Fv ds k=true)(hp:Ih ds k=false):Fv ds (k+1)=true:=by rw[Fv,h,hp];rfl
theorem kZ {ds:List Dd}{k:Nat}(hk:k<ds.length)(hp:Ih ds k=true):Fv ds ds.length=false:=by
 refine ON (k:=k+1) ?_ _ hk;rw[Fv,hp];simp
theorem FE (w:World)(v:Value)(ds:List Dd)(h:Jg w v ds)(hx:ds.length<=1048576):
  Calls Tryz.prog 130 #[v] w fun e w'=>e = .returned (.bool (Fv ds ds.length))/\AC w w':=by
 obtain⟨a,c,rfl,h⟩:=h;go_enter Tryz.func130,Tryz.ntmps130
 go_wp2;go_loopw [3,7] (fun j i wr=>∃k:Nat,k<=ds.length/\i = .int .i64 k/\Hid (Fv ds k=true)/\AC w wr) (fun _ i _=>ds.length-(intOf i).toNat)
 case atStart=>exact⟨0,KAb _,rfl,AN rfl,AC.refl _⟩
 case round=>
  obtain⟨k,hk,rfl,hm,hK⟩:=hrel;by_cases hlt:k<ds.length
  ·
   rcases h with h|⟨b,o,rfl,hb,hc⟩
   . exfalso;rw[h] at hlt;simp at hlt
   obtain⟨A0,A1,A2,A3⟩:=(hc k hlt).keep hb hK;have hbw:b<wr.heap.size:=KAC hb hK.size;have i1:(0:Int)<=(k:Int):=KAK _;have i2:(k:Int)<(ds.length:Int):=by omega
   have HP:Hid (Ih ds k=(decide (0<k)&&(Qe (ds.getD k zD) != Qe (ds.getD (k-1) zD))&&Fk (gK ds k) (Qe (ds.getD k zD)))):=AN rfl;by_cases h0:k=0
   ·
    have HT:=AN (Uz hm.out (by rw[HP.out];simp[h0]));have d0:decide (0<k)=false:=by simp[h0]
    clear hm HP hc;obtain⟨d,hd⟩:∃d,d=ds.getD k zD:=⟨_,rfl⟩;rw[<-hd] at A0 A1 A2 A3;clear hd h0;obtain⟨x0,x1,x2,x3⟩:=d;simp only at A0 A1 A2 A3;go_wp2;go_quiet (fail)
    go_wp2;go_roundw;case rel=>exact⟨k+1,by omega,by go_num,HT,(hK.alloc _).drewN _⟩
    case measure=>simp[intOf];omega
   ·
    obtain⟨r,rfl⟩:∃r:Nat,k=r+1:=⟨k-1,by omega⟩;rw[KCk] at HP;have B3:=((hc r (by omega)).keep hb hK).2.2.2;have RT:Jg w (.slice (some ⟨b,o,none⟩) (r+1) (ds.length+c)) (ds.take (r+1)):=Jg.cut (by omega) hb hc;have HG:=AN (jG ds (r+1) (by omega));have HL:=AN (show (ds.take (r+1)).length=r+1 by rw[KAz];omega);clear hc;have j1:(0:Int)<=(r:Int):=KAK _;have j2:(r:Int)<(ds.length:Int):=by omega
    have d2:(r:Int)+1<(ds.length:Int):=by omega
    have d5:(r:Int)+1<=(ds.length:Int)+(c:Int):=by omega
    have d6:(0:Int)<=(r:Int)+1:=by omega
    have d7:((r+1:Nat):Int)<=((ds.length+c:Nat):Int):=by omega
    have d3:IntKind.i64.wrap (r:Int)=(r:Int):=by rw[KAk];omega
    have d4:wrap64 (r:Int)=(r:Int):=EZ _ (by omega) (by omega);obtain⟨d,hd⟩:∃d,d=ds.getD (r+1) zD:=⟨_,rfl⟩;rw[<-hd] at A0 A1 A2 A3 HP;clear hd;obtain⟨p,hp⟩:∃p,p=(ds.getD r zD).2.2.2:=⟨_,rfl⟩;rw[<-hp] at B3;have HQ:Hid (Qe (ds.getD r zD)=p):=AN (by rw[hp];rfl);clear hp;rw[HQ.out] at HP;clear HQ;obtain⟨x0,x1,x2,x3⟩:=d;unfold Qe at HP;simp only at A0 A1 A2 A3 HP;by_cases he:x3=p
    ·
     subst he;have HT:=AN (Uz hm.out (by rw[HP.out];simp));have ne:(x3 != x3)=false:=by simp
     clear HP hm;go_wp2;go_quiet (fail)
     go_wp2;go_roundw;case rel=>exact⟨r+1+1,by omega,by go_num,HT,(hK.alloc _).drewN _⟩
     case measure=>simp[intOf];omega
    ·
     have ne:(x3 != p)=true:=by simp[he]
     clear he;cases hin:Fk (gK ds (r+1)) x3
     ·
      have HT:=AN (Uz hm.out (by rw[HP.out,hin];simp));clear HP hm;go_wp2;have KK:AC w ((wr.alloc (Wn x0 x1 x2 x3)).drew):=(hK.alloc _).drew;have z1:wr.heap.size<((wr.alloc (Wn x0 x1 x2 x3)).drew).heap.size:=by rw[Az,AD];omega
      have z2:b<((wr.alloc (Wn x0 x1 x2 x3)).drew).heap.size:=by rw[Az,AD];omega
      go_region_held3 (fun w'=>w'.cell? ⟨wr.heap.size,3,none⟩=some (.int .i64 x3)/\w'.cell? ⟨b,o+r*4+3,none⟩=some (.int .i64 p))
       (first|go_keep|(go_split_ands;refine⟨?_,?_⟩<;>(rw[kk.cell (by assumption)];assumption)))
       ((first
        | (go_at_call 128;refine (Fj _ _ _ (RT.keep KK) (by rw[HL.out];omega)).mono ?_;rw[HG.out];rintro e wz ⟨rfl,kk⟩;have KK:=KK.trans kk;have z1:=KAC z1 kk.size;have z2:=KAC z2 kk.size)
        | (go_at_call 159;refine (Va _ _ _).mono ?_;rintro e wy ⟨rfl,rfl⟩)))
      all_goals
       go_wp2;go_roundw;case rel=>exact⟨r+1+1,by omega,by go_num,HT,KK⟩
       case measure=>simp[intOf];omega
     ·
      have HT:=AN (kZ hlt (by rw[HP.out,hin,ne];simp));clear HP hm;go_wp2;have KK:AC w ((wr.alloc (Wn x0 x1 x2 x3)).drew):=(hK.alloc _).drew;have z1:wr.heap.size<((wr.alloc (Wn x0 x1 x2 x3)).drew).heap.size:=by rw[Az,AD];omega
      have z2:b<((wr.alloc (Wn x0 x1 x2 x3)).drew).heap.size:=by rw[Az,AD];omega
      go_region_held3 (fun w'=>w'.cell? ⟨wr.heap.size,3,none⟩=some (.int .i64 x3)/\w'.cell? ⟨b,o+r*4+3,none⟩=some (.int .i64 p))
       (first|go_keep|(go_split_ands;refine⟨?_,?_⟩<;>(rw[kk.cell (by assumption)];assumption)))
       ((first
        | (go_at_call 128;refine (Fj _ _ _ (RT.keep KK) (by rw[HL.out];omega)).mono ?_;rw[HG.out];rintro e wz ⟨rfl,kk⟩;have KK:=KK.trans kk;have z1:=KAC z1 kk.size;have z2:=KAC z2 kk.size)
        | (go_at_call 159;refine (Va _ _ _).mono ?_;rintro e wy ⟨rfl,rfl⟩)))
      all_goals
       go_wp2;go_ret;exact⟨by rw[HT.out];rfl,KK⟩
  ·
   obtain rfl:k=ds.length:=by omega
   go_wp2;go_ret;exact⟨by rw[hm.out];rfl,hK⟩
abbrev uG (v:Value)(t:Int):Obj:= .cells #[v,.int .i64 t] 169
theorem Ul {ds:List Dd}{t:Int}(h5:ds.length<=5)(ha:ds.all Fy=true)(ht:Fv ds ds.length=true)(h0:(bits .and .i64 (gC ds) t==0)=true):Cu ds t=true:=by
 rw[Cu,KAl h5,ha,ht,h0];rfl
theorem MD (w:World)(v:Value)(t:Int)(ds:List Dd)(h:Jg w v ds)(hx:ds.length<=1048576):
  Calls Tryz.prog 100 #[.agg #[v,.int .i64 t]] w fun e w'=>e = .returned (.bool (Cu ds t))/\AC w w':=by
 have KK:AC w ((w.alloc (uG v t)).drew):=((AC.refl w).alloc _).drew;have z1:w.heap.size<((w.alloc (uG v t)).drew).heap.size:=by rw[Az,AD];omega
 obtain⟨a,c,hv,-⟩:=id h;subst hv;by_cases h5:ds.length<=5
 ·
  have e5:decide (ds.length<=5)=true:=KAl h5;have e5':decide ((ds.length:Int)<=5)=true:=KAl (by omega);have g5:(ds.length:Int)<=5:=by omega
  cases ha:ds.all Fy
  ·
   have HE:Hid (Cu ds t=false):=AN (by rw[Cu,ha];simp);go_enter Tryz.func100,Tryz.ntmps100
   go_wp2;refine wp_region_held_drew (S:=(fun w'=>w'.cell? ⟨w.heap.size,0,none⟩=some (.slice a ds.length (ds.length+c))/\w'.cell? ⟨w.heap.size,1,none⟩=some (.int .i64 t))) (by kernel_rfl) ?_ (fun hHeld=>?_)
   . go_keep
   refine Ax 0 3 (v:=?_) ?_ ?_;rotate_left
   ·
    intro wx hSw;go_simp;with_reducible rfl
   refine Ax 1 4 (v:=?_) ?_ ?_;rotate_left
   ·
    intro wx hSw;go_simp;with_reducible rfl
   simp only[Act.put,KAR,KAa,KAc];refine KBl (rs:=[2]) (by kernel_rfl) (by simp) ?_;refine KBU rfl (fun K hK=>?_) KBb;go_simp;refine (De _ _ _ _).mono ?_;rintro e wz ⟨rfl,rfl⟩;go_wp2_with fail
   refine hK.out _ _ ?_ (fun hHeld=>?_)
   . exact hHeld
   clear hK K;refine Ax 3 6 (v:=?_) ?_ ?_;rotate_left
   ·
    intro wx hSw;go_simp;with_reducible rfl
   refine Ax 4 7 (v:=?_) ?_ ?_;rotate_left
   ·
    intro wx hSw;go_simp;with_reducible rfl
   refine Ax 5 8 (v:=?_) ?_ ?_;rotate_left
   ·
    intro wx hSw;go_simp;with_reducible rfl
   refine Ax 6 9 (v:=?_) ?_ ?_;rotate_left
   ·
    intro wx hSw;go_simp;with_reducible rfl
   simp only[Act.put,KAR,KAa,KAc];refine KBl (rs:=[7]) (by kernel_rfl) (by simp) ?_;refine KBU rfl (fun K hK=>?_) KBb;go_simp;refine (FP _ _ _ (h.keep KK) hx).mono ?_;rw[ha];rintro e wz1 ⟨rfl,kk⟩;have z0:=z1;have KK:=KK.trans kk;have z1:=KAC z1 kk.size;go_wp2_with fail
   refine hK.out _ _ ?_ (fun hHeld=>?_)
   . exact⟨(kk.cell z0).trans hHeld.1,(kk.cell z0).trans hHeld.2⟩
   clear hK K;refine Ax 8 11 (v:=?_) ?_ ?_;rotate_left
   ·
    intro wx hSw;go_simp;with_reducible rfl
   refine Ax 9 12 (v:=?_) ?_ ?_;rotate_left
   ·
    intro wx hSw;go_simp;with_reducible rfl
   simp only[Act.put,KAR,KAa,KAc];refine DY 10 13 rfl rfl (by kernel_rfl) (by kernel_rfl) (by kernel_rfl) (fun _ _ _ h=>h) (by rfl) (by assumption) ?_;simp only[Act.put,KAR,KAa,KAc];refine DY 11 14 rfl rfl (by kernel_rfl) (by kernel_rfl) (by kernel_rfl) (fun _ _ _ h=>h) (by rfl) (by assumption) ?_;simp only[Act.put,KAR,KAa,KAc];refine DY 12 15 rfl rfl (by kernel_rfl) (by kernel_rfl) (by kernel_rfl) (fun _ _ _ h=>h) (by rfl) (by assumption) ?_;refine Ax 13 16 (v:=?_) ?_ ?_;rotate_left
   ·
    intro wx hSw;go_simp;with_reducible rfl
   refine Ax 14 17 (v:=?_) ?_ ?_;rotate_left
   ·
    intro wx hSw;go_simp;with_reducible rfl
   simp only[Act.put,KAR,KAa,KAc];refine DY 15 18 rfl rfl (by kernel_rfl) (by kernel_rfl) (by kernel_rfl) (fun _ _ _ h=>h) (by rfl) (by assumption) ?_;simp only[Act.put,KAR,KAa,KAc];refine DY 16 19 rfl rfl (by kernel_rfl) (by kernel_rfl) (by kernel_rfl) (fun _ _ _ h=>h) (by rfl) (by assumption) ?_;simp only[Act.put,KAR,KAa,KAc];refine DY 17 20 rfl rfl (by kernel_rfl) (by kernel_rfl) (by kernel_rfl) (fun _ _ _ h=>h) (by rfl) (by assumption) ?_;simp only[Act.put,KAR,KAa,KAc];refine DY 18 21 rfl rfl (by kernel_rfl) (by kernel_rfl) (by kernel_rfl) (fun _ _ _ h=>h) (by rfl) (by assumption) ?_;simp only[Act.put,KAR,KAa,KAc];refine DY 19 22 rfl rfl (by kernel_rfl) (by kernel_rfl) (by kernel_rfl) (fun _ _ _ h=>h) (by rfl) (by assumption) ?_;simp only[Act.put,KAR,KAa,KAc];refine DY 20 23 rfl rfl (by kernel_rfl) (by kernel_rfl) (by kernel_rfl) (fun _ _ _ h=>h) (by rfl) (by assumption) ?_;simp only[Act.put,KAR,KAa,KAc];refine DY 21 24 rfl rfl (by kernel_rfl) (by kernel_rfl) (by kernel_rfl) (fun _ _ _ h=>h) (by rfl) (by assumption) ?_;refine Ax 22 25 (v:=?_) ?_ ?_;rotate_left
   ·
    intro wx hSw;go_simp;with_reducible rfl
   refine Ax 23 2 (v:=?_) ?_ ?_;rotate_left
   ·
    intro wx hSw;go_simp;with_reducible rfl
   simp only[Act.put,KAR,KAa,KAc];refine wpAnyH_done (by kernel_rfl) ?_ _;go_wp2;go_ret;exact⟨by rw[HE.out];rfl,KK⟩
  ·
   cases ht:Fv ds ds.length
   ·
    have HE:Hid (Cu ds t=false):=AN (by rw[Cu,ht];simp);go_enter Tryz.func100,Tryz.ntmps100
    go_wp2;refine wp_region_held_drew (S:=(fun w'=>w'.cell? ⟨w.heap.size,0,none⟩=some (.slice a ds.length (ds.length+c))/\w'.cell? ⟨w.heap.size,1,none⟩=some (.int .i64 t))) (by kernel_rfl) ?_ (fun hHeld=>?_)
    . go_keep
    refine Ax 0 3 (v:=?_) ?_ ?_;rotate_left
    ·
     intro wx hSw;go_simp;with_reducible rfl
    refine Ax 1 4 (v:=?_) ?_ ?_;rotate_left
    ·
     intro wx hSw;go_simp;with_reducible rfl
    simp only[Act.put,KAR,KAa,KAc];refine KBl (rs:=[2]) (by kernel_rfl) (by simp) ?_;refine KBU rfl (fun K hK=>?_) KBb;go_simp;refine (De _ _ _ _).mono ?_;rintro e wz ⟨rfl,rfl⟩;go_wp2_with fail
    refine hK.out _ _ ?_ (fun hHeld=>?_)
    . exact hHeld
    clear hK K;refine Ax 3 6 (v:=?_) ?_ ?_;rotate_left
    ·
     intro wx hSw;go_simp;with_reducible rfl
    refine Ax 4 7 (v:=?_) ?_ ?_;rotate_left
    ·
     intro wx hSw;go_simp;with_reducible rfl
    refine Ax 5 8 (v:=?_) ?_ ?_;rotate_left
    ·
     intro wx hSw;go_simp;with_reducible rfl
    refine Ax 6 9 (v:=?_) ?_ ?_;rotate_left
    ·
     intro wx hSw;go_simp;with_reducible rfl
    simp only[Act.put,KAR,KAa,KAc];refine KBl (rs:=[7]) (by kernel_rfl) (by simp) ?_;refine KBU rfl (fun K hK=>?_) KBb;go_simp;refine (FP _ _ _ (h.keep KK) hx).mono ?_;rw[ha];rintro e wz1 ⟨rfl,kk⟩;have z0:=z1;have KK:=KK.trans kk;have z1:=KAC z1 kk.size;go_wp2_with fail
    refine hK.out _ _ ?_ (fun hHeld=>?_)
    . exact⟨(kk.cell z0).trans hHeld.1,(kk.cell z0).trans hHeld.2⟩
    clear hK K;refine Ax 8 11 (v:=?_) ?_ ?_;rotate_left
    ·
     intro wx hSw;go_simp;with_reducible rfl
    refine Ax 9 12 (v:=?_) ?_ ?_;rotate_left
    ·
     intro wx hSw;go_simp;with_reducible rfl
    refine Ax 10 13 (v:=?_) ?_ ?_;rotate_left
    ·
     intro wx hSw;go_simp;with_reducible rfl
    refine Ax 11 14 (v:=?_) ?_ ?_;rotate_left
    ·
     intro wx hSw;go_simp;with_reducible rfl
    simp only[Act.put,KAR,KAa,KAc];refine KBl (rs:=[12]) (by kernel_rfl) (by simp) ?_;refine KBU rfl (fun K hK=>?_) KBb;go_simp;refine (FE _ _ _ (h.keep KK) hx).mono ?_;rw[ht];rintro e wz2 ⟨rfl,kk⟩;have z0:=z1;have KK:=KK.trans kk;have z1:=KAC z1 kk.size;go_wp2_with fail
    refine hK.out _ _ ?_ (fun hHeld=>?_)
    . exact⟨(kk.cell z0).trans hHeld.1,(kk.cell z0).trans hHeld.2⟩
    clear hK K;refine Ax 13 16 (v:=?_) ?_ ?_;rotate_left
    ·
     intro wx hSw;go_simp;with_reducible rfl
    refine Ax 14 17 (v:=?_) ?_ ?_;rotate_left
    ·
     intro wx hSw;go_simp;with_reducible rfl
    simp only[Act.put,KAR,KAa,KAc];refine DY 15 18 rfl rfl (by kernel_rfl) (by kernel_rfl) (by kernel_rfl) (fun _ _ _ h=>h) (by rfl) (by assumption) ?_;simp only[Act.put,KAR,KAa,KAc];refine DY 16 19 rfl rfl (by kernel_rfl) (by kernel_rfl) (by kernel_rfl) (fun _ _ _ h=>h) (by rfl) (by assumption) ?_;simp only[Act.put,KAR,KAa,KAc];refine DY 17 20 rfl rfl (by kernel_rfl) (by kernel_rfl) (by kernel_rfl) (fun _ _ _ h=>h) (by rfl) (by assumption) ?_;simp only[Act.put,KAR,KAa,KAc];refine DY 18 21 rfl rfl (by kernel_rfl) (by kernel_rfl) (by kernel_rfl) (fun _ _ _ h=>h) (by rfl) (by assumption) ?_;simp only[Act.put,KAR,KAa,KAc];refine DY 19 22 rfl rfl (by kernel_rfl) (by kernel_rfl) (by kernel_rfl) (fun _ _ _ h=>h) (by rfl) (by assumption) ?_;simp only[Act.put,KAR,KAa,KAc];refine DY 20 23 rfl rfl (by kernel_rfl) (by kernel_rfl) (by kernel_rfl) (fun _ _ _ h=>h) (by rfl) (by assumption) ?_;simp only[Act.put,KAR,KAa,KAc];refine DY 21 24 rfl rfl (by kernel_rfl) (by kernel_rfl) (by kernel_rfl) (fun _ _ _ h=>h) (by rfl) (by assumption) ?_;refine Ax 22 25 (v:=?_) ?_ ?_;rotate_left
    ·
     intro wx hSw;go_simp;with_reducible rfl
    refine Ax 23 2 (v:=?_) ?_ ?_;rotate_left
    ·
     intro wx hSw;go_simp;with_reducible rfl
    simp only[Act.put,KAR,KAa,KAc];refine wpAnyH_done (by kernel_rfl) ?_ _;go_wp2;go_ret;exact⟨by rw[HE.out];rfl,KK⟩
   ·
    cases h0:(bits .and .i64 (gC ds) t==0)
    ·
     have HE:Hid (Cu ds t=false):=AN (by rw[Cu,h0];simp);go_enter Tryz.func100,Tryz.ntmps100
     go_wp2
     go_region_held3 (fun w'=>w'.cell? ⟨w.heap.size,0,none⟩=some (.slice a ds.length (ds.length+c))/\w'.cell? ⟨w.heap.size,1,none⟩=some (.int .i64 t))
      (first|go_keep|(go_split_ands;refine⟨?_,?_⟩<;>(rw[kk.cell (by assumption)];assumption)))
      ((first
       | (go_at_call 101;refine (De _ _ _ _).mono ?_;rintro e wz ⟨rfl,rfl⟩)
       | (go_at_call 129;refine (FP _ _ _ (h.keep KK) hx).mono ?_;rintro e wz ⟨rfl,kk⟩;have KK:=KK.trans kk;have z1:=KAC z1 kk.size)
       | (go_at_call 130;refine (FE _ _ _ (h.keep KK) hx).mono ?_;rintro e wz ⟨rfl,kk⟩;have KK:=KK.trans kk;have z1:=KAC z1 kk.size)
       | (go_at_call 128;refine (Fj _ _ _ (h.keep KK) hx).mono ?_;rintro e wz ⟨rfl,kk⟩;have KK:=KK.trans kk;have z1:=KAC z1 kk.size)
       | (go_at_call 131;refine (MM _ _ _).mono ?_;rintro e wz ⟨rfl,rfl⟩)))
     all_goals
      go_wp2;go_ret;exact⟨by rw[HE.out];rfl,KK⟩
    ·
     have HE:Hid (Cu ds t=true):=AN (Ul h5 ha ht h0);go_enter Tryz.func100,Tryz.ntmps100
     go_wp2
     go_region_held3 (fun w'=>w'.cell? ⟨w.heap.size,0,none⟩=some (.slice a ds.length (ds.length+c))/\w'.cell? ⟨w.heap.size,1,none⟩=some (.int .i64 t))
      (first|go_keep|(go_split_ands;refine⟨?_,?_⟩<;>(rw[kk.cell (by assumption)];assumption)))
      ((first
       | (go_at_call 101;refine (De _ _ _ _).mono ?_;rintro e wz ⟨rfl,rfl⟩)
       | (go_at_call 129;refine (FP _ _ _ (h.keep KK) hx).mono ?_;rintro e wz ⟨rfl,kk⟩;have KK:=KK.trans kk;have z1:=KAC z1 kk.size)
       | (go_at_call 130;refine (FE _ _ _ (h.keep KK) hx).mono ?_;rintro e wz ⟨rfl,kk⟩;have KK:=KK.trans kk;have z1:=KAC z1 kk.size)
       | (go_at_call 128;refine (Fj _ _ _ (h.keep KK) hx).mono ?_;rintro e wz ⟨rfl,kk⟩;have KK:=KK.trans kk;have z1:=KAC z1 kk.size)
       | (go_at_call 131;refine (MM _ _ _).mono ?_;rintro e wz ⟨rfl,rfl⟩)))
     all_goals
      go_wp2;go_ret;exact⟨by rw[HE.out];rfl,KK⟩
 ·
  have e5:decide (ds.length<=5)=false:=KAi h5;have e5':decide ((ds.length:Int)<=5)=false:=KAi (by omega);have HE:Hid (Cu ds t=false):=AN (by rw[Cu,e5];rfl);go_enter Tryz.func100,Tryz.ntmps100
  go_wp2;go_quiet ((go_at_call 101;exact KCz (De _ _ _ _)))
  go_wp2;go_ret;exact⟨by rw[HE.out];rfl,((AC.refl w).alloc _).drewN _⟩
theorem Tryz.vJ:(Tryz.prog.info? 169).map (fun i=>(i.zero,i.size,i.bytes))=some (some (.agg #[.slice none 0 0,.int .i64 0]),2,32):=by kernel_rfl
abbrev l7 (v:Value)(t:Int):Obj:= .cells #[v,.int .i64 t] 169
def RdC (w:World)(v:Value)(AA:List (List Dd)):Prop:=
 ∃(a:Option Addr) (cap:Nat),v = .slice a AA.length cap /\
  (AA=[]\/∃b,a=some ⟨b,0,none⟩/\b<w.heap.size/\∀i,i<AA.length->∃vi,w.cell? ⟨b,i*2,none⟩=some vi/\Jg w vi (AA.getD i [])/\w.cell? ⟨b,i*2+1,none⟩=some (.int .i64 (Gr AA i)))
def KU (V:Nat->Value)(AA:List (List Dd))(k:Nat):List Value:=(List.range k).flatMap fun i=>[V i,.int .i64 (Gr AA i)]
theorem Jm (V:Nat->Value)(AA:List (List Dd))(k:Nat):KU V AA (k+1)=KU V AA k++[V k,.int .i64 (Gr AA k)]:=by
 unfold KU;rw[KBx,KB7];simp
theorem LV (V:Nat->Value)(AA:List (List Dd)):∀k,(KU V AA k).length=k*2
 | 0=>rfl
 |k+1=>by rw[Jm,KAJ,LV V AA k];simp;omega
theorem M5 (V:Nat->Value)(AA:List (List Dd)):∀k i,i<k->(KU V AA k)[i*2]? = some (V i)/\(KU V AA k)[i*2+1]? = some (.int .i64 (Gr AA i))
 | 0,i,h=>by omega
 |k+1,i,h=>by
  rw[Jm];by_cases e:i<k
  ·
   have ih:=M5 V AA k i e;have hl:=LV V AA k;rw[KAu (by omega),KAu (by omega)];exact ih
  ·
   obtain rfl:i=k:=by omega
   have hl:=LV V AA i;rw[KAy (by omega),KAy (by omega),hl];simp
theorem qM {w0 w:World}{base:Nat}{v:Value}{V:Nat->Value}{AA:List (List Dd)}(h:w.ownsRow base 169 2 v AA.length (KU V AA AA.length))(k:AC w0 w)(hV:∀i,i<AA.length->Jg w0 (V i) (AA.getD i [])):RdC w v AA:=by
 have h2:=h;have hlt:=KAY h;rcases h.2 with ⟨rfl,hn⟩|⟨g,cap,cur,rfl,hb,hg,_,_,hs,_⟩
 ·
  have:AA=[]:=KAZ hn;subst this;exact⟨none,0,rfl,.inl rfl⟩
 ·
  refine⟨_,_,rfl,.inr ⟨g,rfl,(hlt g rfl).2,fun i hi=>?_⟩⟩;have hc:=M5 V AA AA.length i hi;have c1:=KAp h2 (i*2) (by omega);have c2:=KAp h2 (i*2+1) (by omega);exact⟨V i,by rw[c1,hc.1],(hV i hi).keep k,by rw[c2,hc.2]⟩
theorem KV (w0 w:World)(kw:AC w0 w)(v:Value)(AA:List (List Dd))(h:Fw w0 v AA)(hx:AA.length<=3)(hm:∀i,i<AA.length->(AA.getD i []).length<=1048576):
  Calls Tryz.prog 99 #[v] w fun e w'=>∃v',e = .returned v'/\(∃V:Nat->Value,w'.ownsRow w.heap.size 169 2 v' AA.length (KU V AA AA.length)/\∀i,i<AA.length->Jg w0 (V i) (AA.getD i []))/\AC w w':=by
 obtain⟨a,c,rfl,h⟩:=h;have start:(w.alloc (.cells #[] 169)).ownsRow w.heap.size 169 2 (.slice (some ⟨w.heap.size,0,none⟩) 0 0) 0 []:=KAo w #[] 0 (KAM _) (by decide) rfl;obtain⟨i0,hi,hz0,hz1,hz2⟩:=info_parts Tryz.vJ
 obtain⟨V,hV⟩:∃V:Nat->Value,∀i,i<AA.length->Jg w0 (V i) (AA.getD i [])/\∀b o,a=some ⟨b,o,none⟩->b<w0.heap.size/\w0.cell? ⟨b,o+i,none⟩=some (V i):=by
  rcases h with h|⟨b,o,rfl,hb,hc⟩
  . exact⟨fun _=>Value.bool false,fun i hi=>by rw[h] at hi;simp at hi⟩
  ·
   obtain⟨V,hV⟩:=Deep.choose_lt hc;refine⟨V,fun i hi=>⟨(hV i hi).2,fun b' o' e=>?_⟩⟩;simp only[KAg,KA6,KBX] at e;obtain⟨rfl,rfl⟩:=e;exact⟨hb,(hV i hi).1⟩
 have hA:AA.length=0\/∃b o,a=some ⟨b,o,none⟩:=by
  rcases h with h|⟨b,o,rfl,hb,hc⟩
  . left;rw[h];rfl
  . exact .inr ⟨b,o,rfl⟩
 clear h;go_enter Tryz.func99,Tryz.ntmps99
 go_wp2;go_loopw [3,4,11] (fun x t i wr=>∃k:Nat,k<=AA.length/\i = .int .i64 k/\t = .int .i64 (Gr AA k)/\wr.ownsRow w.heap.size 169 2 x k (KU V AA k)/\AC w wr) (fun _ _ i _=>AA.length-(intOf i).toNat)
 case atStart=>exact⟨0,KAb _,rfl,rfl,start,(AC.refl w).alloc _⟩
 case round=>
  obtain⟨k,hk,rfl,rfl,ho,hK⟩:=hrel;clear start;by_cases hlt:k<AA.length
  ·
   obtain⟨b,o,rfl⟩:∃b o,a=some ⟨b,o,none⟩:=hA.resolve_left (by omega);obtain⟨hR,hC⟩:=hV k hlt;obtain⟨hb,hC⟩:=hC b o rfl;have hmk:=hm k hlt;have HM:=AN (Jm V AA k);have HT:Hid (Gr AA (k+1)=bits .or .i64 (Gr AA k) (gC (AA.getD k []))):=AN rfl;have HV:=AN hV;clear hV hm hA;obtain⟨ds,hds⟩:∃ds,ds=AA.getD k []:=⟨_,rfl⟩;rw[<-hds] at hR hmk HT;clear hds;generalize Gr AA k=t at HM HT;have hK0:=kw.trans hK;have d1:=(hK0.cell hb).trans hC;have R1:=hR.keep hK0;obtain⟨u,hu⟩:∃u,u=V k:=⟨_,rfl⟩;rw[<-hu] at d1 R1 HM;have R0:=hR;rw[<-hu] at R0;clear hu hC hR;obtain⟨ai,ci,rfl,-⟩:=id R1;have hbw:b<wr.heap.size:=KAC hb hK0.size;have hsz:=hK.size;have i1:(0:Int)<=(k:Int):=KAK _;have i2:(k:Int)<(AA.length:Int):=by omega
   have ho2:=KAs ho (((AC.refl wr).alloc (l7 (.slice ai ds.length (ds.length+ci)) t)).alloc (.cells #[.slice ai ds.length (ds.length+ci),.int .i64 t] 169)).grownBy (by cases u3.ownBlock<;>simp);go_wp2_with (at_builtin;refine KAf _ rfl _ _ 164 rfl w.heap.size 169 i0 (.agg #[.slice none 0 0,.int .i64 0]) 2 32 Tryz.underlying164 hi hz0 hz1 hz2 rfl (by decide) _ _ _ rfl ho2 ⟨_,0,none⟩ 1 1 [.slice ai ds.length (ds.length+ci),.int .i64 t] rfl rfl ?c1 ?c2 ?c3 ?c4 ?c5 ?_)
   case c1=>
    intro j u hj
    match j,hj with
    | 0,hj=>simp at hj;subst hj;simp[Addr.add]
    | 1,hj=>simp at hj;subst hj;simp[Addr.add]
    |n+2,hj=>simp at hj
   case c2=>intro u hu;simp at hu;rcases hu with rfl|rfl<;>rfl
   case c3=>unfold maxLen;first|omega|(simp;omega)
   case c4=>first|omega|(simp;omega)
   case c5=>first|omega|(simp;omega)
   intro v' w2 hown' hgrow _ _;rw[<-HM.out] at hown';have hK2:AC w w2:=((hK.alloc _).alloc _).grown hgrow (fun g hg=>(KAY ho g hg).1)
   have uo:w2.heap[wr.heap.size]? = some (l7 (.slice ai ds.length (ds.length+ci)) t):=
    (hgrow.block wr.heap.size (by rw[AD,AD];omega) (fun e=>by have:=(KAY ho _ e.symm).2;omega)).trans (by rw[Bs,KAQ (by rw[AD];omega),Bs,KAP rfl])
   have b0:w2.cell? ⟨wr.heap.size,0,none⟩=some (.slice ai ds.length (ds.length+ci)):=by rw[KAL w2 _ 0 _ _ (0,0) uo];rfl
   have R2:=R0.keep (kw.trans hK2);clear hgrow uo;go_wp2_with fail
   refine (Fj _ _ _ R2 hmk).mono ?_;rintro e w3 ⟨rfl,k3⟩;have ho3:=KAs hown' k3.grownBy (by cases v'.ownBlock<;>simp);go_wp2_with fail
   refine (Us _ _ _).mono ?_;rintro e w4 ⟨rfl,rfl⟩;go_wp2;go_roundw;case rel=>exact⟨k+1,by omega,by go_num,by rw[HT.out],ho3,hK2.trans k3⟩
   case measure=>simp[intOf];omega
  ·
   obtain rfl:k=AA.length:=by omega
   go_wp2;go_ret;exact⟨_,rfl,⟨V,ho,fun i hi=>(hV i hi).1⟩,hK⟩
theorem QW (w:World)(v:Value)(AA:List (List Dd))(h:Fw w v AA)(hx:AA.length<=3)(hm:∀i,i<AA.length->(AA.getD i []).length<=1048576):
  Calls Tryz.prog 99 #[v] w fun e w'=>∃v',e = .returned v'/\RdC w' v' AA/\AC w w':=
 (KV w w (AC.refl w) v AA h hx hm).mono fun _ _ ⟨v',he,⟨_,ho,hV⟩,hK⟩=>⟨v',he,qM ho hK hV,hK⟩
def nJ (w0 wc w:World)(v:Value)(AA:List (List Dd)):Prop:=
 ∃(b c:Nat) (V:Nat->Value),v = .slice (some ⟨b,0,none⟩) AA.length c/\wc.heap.size<=b/\b<w.heap.size /\
  ∀i,i<AA.length->Jg w0 (V i) (AA.getD i [])/\w.cell? ⟨b,i*2,none⟩=some (V i)/\w.cell? ⟨b,i*2+1,none⟩=some (.int .i64 (Gr AA i))
theorem SF (w0 w:World)(kw:AC w0 w)(v:Value)(AA:List (List Dd))(h:Fw w0 v AA)(h1:1<=AA.length)(hx:AA.length<=3)(hm:∀i,i<AA.length->(AA.getD i []).length<=1048576):
  Calls Tryz.prog 99 #[v] w fun e w'=>∃v',e = .returned v'/\nJ w0 w w' v' AA/\AC w w':=by
 refine (KV w0 w kw v AA h hx hm).mono fun _ w' ⟨v',he,⟨V,ho,hV⟩,hK⟩=>⟨v',he,?_,hK⟩
 have hlt:=KAY ho;have h2:=ho;rcases ho.2 with ⟨_,hn⟩|⟨g,cap,cur,rfl,hb,hg,_,_,hs,_⟩
 . omega
 ·
  refine⟨g,cap,V,rfl,hb,(hlt g rfl).2,fun i hi=>?_⟩;have hc:=M5 V AA AA.length i hi;have c1:=KAp h2 (i*2) (by omega);have c2:=KAp h2 (i*2+1) (by omega);exact⟨hV i hi,by rw[c1,hc.1],by rw[c2,hc.2]⟩
theorem Nm (d:List Dd):∀l:List (List Dd),CQ (l++[d])=CQ l+d.length
 | []=>by simp[CQ]
 |x::r=>by rw[KBr,CQ,CQ,Nm d r];omega
theorem Ux {α:Type}(l:List α)(k:Nat)(z:α)(h:k<l.length):l.take (k+1)=l.take k++[l.getD k z]:=by
 rw[KBQ,KAH h,IT,KAH h];rfl
theorem Uk {ds:List Dd}{t:Int}(h:Cu ds t=true):ds.length<=5:=by
 simp only[Cu,KAO,KAN] at h;exact h.1.1.1
theorem Cs (w:World)(v:Value)(AA:List (List Dd))(h:Fw w v AA)(hx:AA.length<=1048576)(hm:∀i,i<AA.length->(AA.getD i []).length<=1048576):
  Calls Tryz.prog 67 #[v] w fun e w'=>e = .returned (.bool (AL AA))/\AC w w':=by
 have RW:=h;obtain⟨a,c,rfl,h⟩:=h;clear h;have HW:=AN (Td AA);cases hb:Co (AA.length:Int) 1 3
 ·
  have HE:Hid (AL AA=false):=by
   refine AN ?_;simp[Co] at hb;rw[HW.out,KAi (by omega)];rfl
  go_enter Tryz.func67,Tryz.ntmps67
  go_wp2_with (go_at_call 98;refine (A6 _ _ _ _).mono ?_;rintro e w' ⟨rfl,rfl⟩)
  go_ret;exact⟨by rw[HE.out];rfl,AC.refl _⟩
 ·
  have h13:1<=AA.length/\AA.length<=3:=by simp[Co] at hb;omega
  have HW2:Hid (AL AA=(CG AA AA.length&&decide (CQ AA<=12)&&decide (SU AA AA.length<=6))):=AN (by rw[HW.out,KAl h13];rfl);have h3:=h13.2;clear h13 HW;go_enter Tryz.func67,Tryz.ntmps67
  go_wp2_with fail
  refine (A6 _ _ _ _).mono ?_;rintro e w' ⟨rfl,rfl⟩;go_wp2_with fail
  refine (QW _ _ _ RW h3 hm).mono ?_;rintro e w1 ⟨v1,rfl,rc,k1⟩;clear hb RW;obtain⟨a1,c1,rfl,rc⟩:=rc;go_wp2;go_loopw [3,4,14] (fun n m i wr=>∃k x:Nat,∃y:Int,k<=AA.length/\n = .int .i64 x/\m = .int .i64 y/\i = .int .i64 k/\Hid (x=CQ (AA.take k)/\y=SU AA k/\CG AA k=true)/\x<=5*k/\0<=y/\y<=10*k/\AC w1 wr) (fun _ _ i _=>AA.length-(intOf i).toNat)
  case atStart=>exact⟨0,0,0,KAb _,rfl,rfl,rfl,AN ⟨by simp[CQ],rfl,rfl⟩,by omega,by omega,by omega,AC.refl _⟩
  case round=>
   obtain⟨k,x,y,hk,rfl,rfl,rfl,hM,x5,y0,y1,hK⟩:=hrel;by_cases hlt:k<AA.length
   ·
    rcases rc with h|⟨b,rfl,hb,hc⟩
    . exfalso;rw[h] at hlt;simp at hlt
    obtain⟨vi,e1,r1,e2⟩:=hc k hlt;have hmk:=hm k hlt;clear hc hm;have HR:Hid (CG AA (k+1)=(CG AA k&&Cu (AA.getD k []) (Gr AA k))):=AN rfl;have HV:Hid (SU AA (k+1)=SU AA k+PW (AA.getD k []) (AA.getD k []).length):=AN rfl;have HN:Hid (CQ (AA.take (k+1))=CQ (AA.take k)+(AA.getD k []).length):=AN (by rw[Ux AA k [] hlt,Nm]);obtain⟨ds,hds⟩:∃ds,ds=AA.getD k []:=⟨_,rfl⟩;rw[<-hds] at r1 hmk HR HV HN;clear hds;generalize Gr AA k=t at e2 HR;have d1:=(hK.cell hb).trans e1;have d2:=(hK.cell hb).trans e2;have r1:=r1.keep hK;obtain⟨ai,ci,rfl,-⟩:=id r1;have hbw:b<wr.heap.size:=KAC hb hK.size;have i1:(0:Int)<=(k:Int):=KAK _;have i2:(k:Int)<(AA.length:Int):=by omega
    clear e1 e2;cases hr:Cu ds t
    ·
     have HE:Hid (AL AA=false):=AN (by
      rw[HW2.out,GR (k:=k+1) (by rw[HR.out,hr];simp) _ hlt]
      rfl)
     have HRR:=AN hr;clear hr;go_wp2_with fail
     refine (MD _ _ _ _ (r1.keep ((AC.refl _).alloc _)) hmk).mono ?_;rw[HRR.out];rintro e wz ⟨rfl,kk⟩;go_wp2;go_ret;exact⟨by rw[HE.out];rfl,k1.trans ((hK.alloc _).trans kk)⟩
    ·
     have l5:=Uk hr;have HRR:=AN hr;have EK:=Zd ds ds.length;clear hr;go_wp2_with fail
     refine (MD _ _ _ _ (r1.keep ((AC.refl _).alloc _)) hmk).mono ?_;rw[HRR.out];rintro e wz ⟨rfl,kk⟩;have b0:wz.cell? ⟨wr.heap.size,0,none⟩=some (.slice ai ds.length (ds.length+ci)):=AO kk 0;have bs:wr.heap.size<wz.heap.size:=IL kk;have r2:=r1.keep (((AC.refl _).alloc _).trans kk);have hKz:=(hK.alloc (.cells #[.slice ai ds.length (ds.length+ci),.int .i64 t] 169)).trans kk;clear d1 d2 kk;go_wp2_with fail
     refine (De _ _ _ _).mono ?_;rintro e w3 ⟨rfl,rfl⟩;go_wp2_with fail
     refine (UH _ _ _ r2 hmk).mono ?_;rintro e w4 ⟨rfl,k4⟩;have HH:Hid (x+ds.length=CQ (AA.take (k+1))/\y+PW ds ds.length=SU AA (k+1)/\CG AA (k+1)=true):=AN ⟨by rw[HN.out,hM.out.1],by rw[HV.out,hM.out.2.1],by rw[HR.out,hM.out.2.2,HRR.out];rfl⟩;generalize PW ds ds.length=ev at EK HH;go_wp2;go_roundw;case rel=>exact⟨k+1,x+ds.length,y+ev,by omega,by go_num,by go_num,by go_num,HH,by omega,by omega,by omega,hKz.trans k4⟩
     case measure=>simp[intOf];omega
   ·
    obtain rfl:k=AA.length:=by omega
    rw[KBK] at hM;have HE:Hid (AL AA=(decide (x<=12)&&decide (y<=6))):=AN (by rw[HW2.out,hM.out.2.2,hM.out.1,hM.out.2.1];rfl);clear hM HW2 rc hm;by_cases h12:x<=12
    ·
     have e12:(x:Int)<=12:=by omega
     by_cases h6:y<=6
     ·
      go_wp2;go_ret;exact⟨by rw[HE.out,KAl h12,KAl h6];rfl,k1.trans hK⟩
     ·
      have e6:(6:Int)<y:=by omega
      go_wp2;go_ret;exact⟨by rw[HE.out,KAl h12,KAi (show ¬y<=6 by omega)];rfl,k1.trans hK⟩
    ·
     have e12:(12:Int)<(x:Int):=by omega
     go_wp2;go_ret;exact⟨by rw[HE.out,KAi (show ¬x<=12 by omega)];rfl,k1.trans hK⟩
def iA (w w':World)(e:Ending)(vs:Array Value):Prop:=
 ∃B,e = .returned (.slice (some ⟨B,0,none⟩) vs.size vs.size)/\w'.heap[B]? = some (.cells vs 187)/\w.heap.size<=B/\AC w w'
theorem YM (p v g:Int)(w:World):Calls Tryz.prog 120 #[FL 1 p v g] w fun e w'=>iA w w' e #[YG p]:=by
 go_enter Tryz.func120,Tryz.ntmps120
 go_wp2;go_ret;exact⟨w.heap.size+1,rfl,by rw[Bs,KAP (AD w _).symm],by omega,((AC.refl w).alloc _).alloc _⟩
theorem YP (p v g:Int)(w:World):Calls Tryz.prog 120 #[FL 2 p v g] w fun e w'=>iA w w' e #[U5 p v]:=by
 go_enter Tryz.func120,Tryz.ntmps120
 go_wp2;go_ret;exact⟨w.heap.size+1,rfl,by rw[Bs,KAP (AD w _).symm],by omega,((AC.refl w).alloc _).alloc _⟩
theorem YN (p v g:Int)(w:World):Calls Tryz.prog 120 #[FL 3 p v g] w fun e w'=>iA w w' e #[YG p,U5 p v]:=by
 go_enter Tryz.func120,Tryz.ntmps120
 go_wp2;go_ret;exact⟨w.heap.size+1,rfl,by rw[Bs,KAP (AD w _).symm],by omega,((AC.refl w).alloc _).alloc _⟩
theorem YO (p v g:Int)(w:World):Calls Tryz.prog 120 #[FL 4 p v g] w fun e w'=>iA w w' e #[]:=by
 go_enter Tryz.func120,Tryz.ntmps120
 go_wp2;go_ret;exact⟨w.heap.size+1,rfl,by rw[Bs,KAP (AD w _).symm],by omega,((AC.refl w).alloc _).alloc _⟩
theorem G4 (w:World)(v:Value)(ds:List Dd)(h:Jg w v ds)(k:Nat)(hk:k<ds.length)(hx:ds.length<=1048576):
  Calls Tryz.prog 119 #[v,.int .i64 k] w fun e w'=>e = .returned (.bool (G2 ds k))/\AC w w':=by
 obtain⟨a,c,rfl,h⟩:=h;rcases h with h|⟨b,o,rfl,hb,hc⟩
 . exfalso;rw[h] at hk;simp at hk
 have A3:=(hc k hk).2.2.2;have i1:(0:Int)<=(k:Int):=KAK _;have i2:(k:Int)<(ds.length:Int):=by omega
 have HP:Hid (G2 ds k=(decide (0<k)&&((ds.getD k zD).2.2.2 != 0)&&((ds.getD k zD).2.2.2==(ds.getD (k-1) zD).2.2.2))):=AN rfl;by_cases h0:k=0
 ·
  have HT:Hid (G2 ds k=false):=AN (by rw[HP.out];simp[h0]);have d0:decide (0<k)=false:=by simp[h0]
  generalize (ds.getD k zD).2.2.2=x3 at A3;clear HP hc h0;go_enter Tryz.func119,Tryz.ntmps119
  go_wp2;go_quiet (fail)
  go_wp2;go_ret;exact⟨by rw[HT.out];rfl,(AC.refl w).drewN _⟩
 ·
  obtain⟨r,rfl⟩:∃r:Nat,k=r+1:=⟨k-1,by omega⟩;rw[KCk] at HP;have B3:=(hc r (by omega)).2.2.2;clear hc h0;have j1:(0:Int)<=(r:Int):=KAK _;have j2:(r:Int)<(ds.length:Int):=by omega
  have d2:(r:Int)+1<(ds.length:Int):=by omega
  have d6:(0:Int)<=(r:Int)+1:=by omega
  have d3:IntKind.i64.wrap (r:Int)=(r:Int):=by rw[KAk];omega
  have d4:wrap64 (r:Int)=(r:Int):=EZ _ (by omega) (by omega);generalize (ds.getD (r+1) zD).2.2.2=x3 at A3 HP;generalize (ds.getD r zD).2.2.2=y3 at B3 HP;by_cases e0:x3=0
  ·
   have HT:Hid (G2 ds (r+1)=false):=AN (by rw[HP.out];simp[e0]);have q0:(x3 != 0)=false:=by simp[e0]
   clear HP e0;go_enter Tryz.func119,Tryz.ntmps119
   go_wp2;go_quiet (fail)
   go_wp2;go_ret;exact⟨by rw[HT.out];rfl,(AC.refl w).drewN _⟩
  ·
   have q0:(x3 != 0)=true:=by simp[e0]
   have q1:(decide (0<r+1))=true:=by simp
   have HT:Hid (G2 ds (r+1)=(x3==y3)):=AN (by rw[HP.out,q0,q1];simp);clear HP e0 q1;go_enter Tryz.func119,Tryz.ntmps119
   go_wp2;go_quiet (fail)
   go_wp2;go_ret;exact⟨by rw[HT.out];rfl,(AC.refl w).drewN _⟩
theorem En (w:World)(v:Value)(es:List Ev)(h:Yu w v es)(hx:es.length<=1048576)(h1:1<=es.length)(go:Bool):
  Calls Tryz.prog 118 #[v,.bool go] w fun e w'=>e = .returned (.int .i64 (Od es go))/\AC w w':=by
 obtain⟨a,c,rfl,h⟩:=h;rcases h with h|⟨b,o,rfl,hb,hc⟩
 . exfalso;rw[h] at h1;simp at h1
 cases go
 ·
  have HT:Hid (Od es false=(es.length:Int)):=AN (by simp[Od]);go_enter Tryz.func118,Tryz.ntmps118
  go_wp2;go_ret;exact⟨by rw[HT.out];rfl,AC.refl w⟩
 ·
  obtain⟨m,hm⟩:∃m,es.length=m+1:=⟨es.length-1,by omega⟩;have AT:=hc m _ (Mh (by omega));have HT:Hid (Od es true=gF (es.getD m zE)):=AN (by simp[Od,Nl,hm]);generalize es.getD m zE=e at AT HT;obtain⟨x0,x1,x2,x3,x4,x5⟩:=e;obtain⟨-,-,-,-,-,A5⟩:=qw AT;clear AT hc;rw[hm];have j1:(0:Int)<=(m:Int):=KAK _;have d3:IntKind.i64.wrap (m:Int)=(m:Int):=by rw[KAk];omega
  have d4:wrap64 (m:Int)=(m:Int):=EZ _ (by omega) (by omega);clear hm;go_enter Tryz.func118,Tryz.ntmps118
  go_wp2;go_ret;exact⟨by rw[HT.out];rfl,AC.refl w⟩
theorem U0 {AA:List (List Dd)}(h:AL AA=true):1<=AA.length/\AA.length<=3/\∀i,i<AA.length->GQ (AA.getD i [])=true:=by
 simp only[AL,KAO,KAN] at h;obtain⟨⟨⟨⟨h1,h2⟩,_⟩,_⟩,_⟩:=h;exact⟨h1.1,h1.2,fun i hi=>Bm [] h2 i hi⟩
abbrev cO (v:Value)(t:Int):Obj:= .cells #[v,.int .i64 t] 169
abbrev dO (k p v g:Int):Obj:= .cells #[.int .i64 k,.int .i64 p,.int .i64 v,.int .i64 g] 82
theorem Dg (w:World)(v:Value)(AA:List (List Dd))(h:Fw w v AA)(hx:AA.length<=1048576)(hm:∀i,i<AA.length->(AA.getD i []).length<=1048576):
  Calls Tryz.prog 90 #[v] w fun e w'=>∃v',e = .returned v'/\GV w' w.heap.size v' (AB AA)/\AC w w':=by
 cases hb:AL AA
 ·
  have HE:Hid (AB AA=[]):=AN (by rw[AB,hb];rfl);have O:∀w1:World,AC w w1->GV (w1.alloc (.cells #[] 85)) w.heap.size (.slice (some ⟨w1.heap.size,0,none⟩) 0 0) []:=fun w1 k1=>KAo w1 #[] 0 k1.size (by decide) (by simp)
  go_enter Tryz.func90,Tryz.ntmps90
  go_wp2_with fail
  refine (Cs _ _ _ h hx hm).mono ?_;rintro e w1 ⟨rfl,k1⟩;go_wp2;go_ret;exact⟨_,rfl,by rw[HE.out];exact O w1 k1,k1.alloc _⟩
 ·
  obtain⟨h1,h3,u2⟩:=U0 hb;have HE:Hid (AB AA=UI AA AA.length):=AN (by rw[AB,KAP hb,(PX hb AA.length (KAM _)).1]);obtain⟨j0,hj,hy0,hy1,hy2⟩:=info_parts Tryz.Z7;go_enter Tryz.func90,Tryz.ntmps90
  go_wp2_with fail
  refine (Cs _ _ _ h hx hm).mono ?_;rintro e w0 ⟨rfl,k0⟩;go_wp2_with fail
  refine (IK _).mono ?_;rintro e w1 ⟨x1,rfl,a1,k1⟩;go_wp2_with fail
  refine (SF w _ (k0.trans k1) _ _ h h1 h3 hm).mono ?_;rintro e w2 ⟨v2,rfl,rc,k2⟩;have K01:AC w0 w2:=k1.trans k2;have hsz0:=k0.size;clear hb h hm hx;obtain⟨b,c1,V,rfl,hbl,hbu,hc⟩:=rc;have HR:∀i,i<AA.length->Jg w (V i) (AA.getD i []):=fun i hi=>(hc i hi).1
  obtain⟨ob,hob⟩:∃ob,w2.heap[b]? = some ob:=⟨_,KBq hbu⟩
  have HC:∀wq:World,wq.heap[b]? = some ob->∀i,i<AA.length->wq.cell? ⟨b,i*2,none⟩=some (V i)/\wq.cell? ⟨b,i*2+1,none⟩=some (.int .i64 (Gr AA i)):=fun wq hq i hi=>by
   have e:wq.heap[b]? = w2.heap[b]?:=hq.trans hob.symm;have f:∀j,wq.cell? ⟨b,j,none⟩=w2.cell? ⟨b,j,none⟩:=fun j=>by simp only[World.cell?,e]
   exact⟨(f _).trans (hc i hi).2.1,(f _).trans (hc i hi).2.2⟩
  clear hc;have L0:LP w0 w2 x1 Ci [(b,ob)]:=LP.add ⟨a1.keep k2,K01,by simp⟩ b ob (fun e=>by have:=(a1.lt _ e).2;omega) hob;clear a1 hob hbl;go_wp2;go_loopw [3,20] (fun x i wr=>∃k:Nat,∃es:List Ev,k<=AA.length/\i = .int .i64 k/\Hid (es=UI AA k)/\1<=es.length/\es.length<=3+10*k/\LP w0 wr x es [(b,ob)]) (fun _ i _=>AA.length-(intOf i).toNat)
  case atStart=>exact⟨0,Ci,KAb _,rfl,AN rfl,by decide,by decide,L0⟩
  case round=>
   clear L0 K01 k2 hbu;obtain⟨k,es,hk,rfl,hE,he1,hel,hL⟩:=hrel;by_cases hlt:k<AA.length
   ·
    have r1:=HR k hlt;have hKw:AC w wr:=k0.trans hL.keep;obtain⟨d1,d2⟩:=HC wr (hL.held b ob (by simp)).2 k hlt;have hbw:=hL.lt (n:=b) (o:=ob) (by simp);have Mp:=u2 k hlt;have HV:Hid (UI AA (k+1)=LX k (AA.getD k []) es (AA.getD k []).length):=AN (by rw[UI,hE.out]);obtain⟨ds,hds⟩:∃ds,ds=AA.getD k []:=⟨_,rfl⟩;rw[<-hds] at r1 Mp HV;clear hds;generalize Gr AA k=t at d2;obtain⟨u,hu⟩:∃u,u=V k:=⟨_,rfl⟩;rw[<-hu] at d1 r1;clear hu;have R1:=r1;obtain⟨ai,ci,rfl,r1⟩:=r1;have hl5:ds.length<=5:=by simp[GQ] at Mp;omega
    have i1:(0:Int)<=(k:Int):=KAK _;have i2:(k:Int)<(AA.length:Int):=by omega
    obtain⟨wo,hwo⟩:∃wo:World,wo=wr:=⟨_,rfl⟩;subst hwo;have L1:=hL.new (cO (.slice ai ds.length (ds.length+ci)) t);go_wp2;go_loopw [3,28] (fun x i wq=>∃q:Nat,∃evs:List Ev,q<=ds.length/\i = .int .i64 q/\Hid (evs=LX k ds es q)/\1<=evs.length/\evs.length<=3+10*k+2*q/\LP w0 wq x evs [(wo.heap.size,cO (.slice ai ds.length (ds.length+ci)) t),(b,ob)]) (fun _ i _=>ds.length-(intOf i).toNat)
    case atStart=>exact⟨0,es,KAb _,rfl,AN rfl,he1,by omega,L1⟩
    case round=>
     clear L1 d1 d2;obtain⟨q,evs,hq,rfl,hC,hv1,hev,hI⟩:=hrel;by_cases hlq:q<ds.length
     ·
      have hKq:AC w wr:=k0.trans hI.keep;have R2:=R1.keep hKq;rcases r1 with h|⟨b2,o2,rfl,hb2,hc2⟩
      . exfalso;rw[h] at hlq;simp at hlq
      have AT:=(hc2 q hlq).keep hb2 hKq
      have Vu:Fy (ds.getD q zD)=true:=by
       simp only[GQ,KAO] at Mp;exact Bm zD Mp.1 q hlq
      clear hc2 Mp;have hb3:b2<wr.heap.size:=KAC hb2 hKq.size;have HST:Hid (LX k ds es (q+1)=evs++C6 k q (ds.getD q zD) (Od evs (G2 ds q))):=AN (by rw[LX,hC.out]);clear hC;obtain⟨d,hd⟩:∃d,d=ds.getD q zD:=⟨_,rfl⟩;rw[<-hd] at AT Vu HST;clear hd;have KD:=Cf Vu;obtain⟨x0,x1,x2,x3⟩:=d;obtain⟨A0,A1,A2,A3⟩:=AT;simp only at A0 A1 A2 A3 KD;have j1:(0:Int)<=(q:Int):=KAK _;have j2:(q:Int)<(ds.length:Int):=by omega
      have z5:=hI.lt (n:=wo.heap.size) (o:=cO (.slice (some ⟨b2,o2,none⟩) ds.length (ds.length+ci)) t) (by simp);have c5:wr.cell? ⟨wo.heap.size,0,none⟩=some (.slice (some ⟨b2,o2,none⟩) ds.length (ds.length+ci)):=(hI.held wo.heap.size (cO (.slice (some ⟨b2,o2,none⟩) ds.length (ds.length+ci)) t) (by simp)) |>.2 |> fun h=>KAL wr _ 0 _ _ (0,0) h
      clear Vu;rcases KD with rfl|rfl|rfl|rfl
      ·
       have HS:Hid (LX k ds es (q+1)=evs++C6 k q (1,x1,x2,x3) (Od evs (G2 ds q))):=HST;clear HST;have L2:=hI.new (dO 1 x1 x2 x3);have K2:AC wr (wr.alloc (dO 1 x1 x2 x3)):=(AC.refl wr).alloc _;have R3:=R2.keep K2;go_wp2_with fail
       refine (G4 _ _ _ R3 q hlq (by omega)).mono ?_;rintro e w3 ⟨rfl,k3⟩;have L3:=L2.more k3;go_wp2_with fail
       refine (En _ _ _ L3.app.rd (by omega) hv1 _).mono ?_;generalize G2 ds q=go at HS;generalize hcl:Od evs go=cl at HS;clear hcl;rintro e w4 ⟨rfl,k4⟩;have L4:=L3.more k4;have z7:=L4.lt (n:=wr.heap.size) (o:=dO 1 x1 x2 x3) (by simp);have s0:w4.cell? ⟨wr.heap.size,0,none⟩=some (.int .i64 1):=L4.cell (n:=wr.heap.size) (cs:=#[.int .i64 1,.int .i64 x1,.int .i64 x2,.int .i64 x3]) (t:=82) (by simp) 0;have s1:w4.cell? ⟨wr.heap.size,1,none⟩=some (.int .i64 x1):=L4.cell (n:=wr.heap.size) (cs:=#[.int .i64 1,.int .i64 x1,.int .i64 x2,.int .i64 x3]) (t:=82) (by simp) 1;have s2:w4.cell? ⟨wr.heap.size,2,none⟩=some (.int .i64 x2):=L4.cell (n:=wr.heap.size) (cs:=#[.int .i64 1,.int .i64 x1,.int .i64 x2,.int .i64 x3]) (t:=82) (by simp) 2;have s3:w4.cell? ⟨wr.heap.size,3,none⟩=some (.int .i64 x3):=L4.cell (n:=wr.heap.size) (cs:=#[.int .i64 1,.int .i64 x1,.int .i64 x2,.int .i64 x3]) (t:=82) (by simp) 3;clear A0 A1 A2 A3 c5 L2 L3 R3 K2;go_wp2_with fail
       refine (YM _ _ _ _).mono ?_;rintro e w5 ⟨B,rfl,hB,hBl,k5⟩;have L5:=L4.later k5 hBl hB;clear L4 s0 s1 s2 s3 z7 hI;have z8:=L5.lt (n:=B) (o:= .cells #[YG x1] 187) (by simp);have c6:w5.cell? ⟨B,0,none⟩=some (YG x1):=L5.cell (n:=B) (cs:=#[YG x1]) (t:=187) (by simp) 0;go_wp2;refine KCh 2 ?_;rw[KCC];go_wp2_with fail
       refine (NH _ _).mono ?_;rintro e wa0 ⟨rfl,ka0⟩;have Yr:=L5.more ka0;have Ys:=(Yr.more ((AC.refl wa0).alloc (eO k q true x1 0 cl))).more ((AC.refl _).alloc (eO k q true x1 0 cl));have hs0:w0.heap.size<=wa0.heap.size:=Yr.keep.size;go_wp2_with (at_builtin;refine KAf _ rfl _ _ 51 rfl w0.heap.size 85 j0 (.agg #[.int .i64 0,.int .i64 0,.bool false,.int .i64 0,.int .i64 0,.int .i64 0]) 6 48 Tryz.underlying51 hj hy0 hy1 hy2 rfl (by decide) _ _ _ rfl Ys.app ⟨_,0,none⟩ 1 1 (cE ((k:Int),(q:Int),true,x1,0,cl)) rfl rfl ?ZG ?ZH ?ZI ?ZJ ?ZK ?_)
       case ZG=>exact KR _ _ (AD _ _) _ _ _ _ _ _
       case ZH=>exact KT _
       case ZI=>unfold maxLen;first|omega|(simp;omega)
       case ZJ=>first|omega|(simp;omega)
       case ZK=>first|omega|(simp;omega)
       intro v0' wb0 hown' hgrow _ hblk;have gu:=Ys.hit _ hown' hgrow (by rw[AD,AD];exact hblk);clear hgrow hown' hblk Ys Yr L5;go_wp2;rw[KCC];go_wp2;go_roundw;case rel=>exact⟨q+1,_,by omega,by go_num,AN (by rw[HS.out];simp[C6]),by first|omega|(simp<;>omega),by first|omega|(simp<;>omega),gu.less (fun y hy=>by simp only[KBL,KBo,KCl] at hy ⊢;rcases hy with rfl|rfl<;>simp)⟩
       case measure=>simp[intOf];omega
      ·
       have HS:Hid (LX k ds es (q+1)=evs++C6 k q (2,x1,x2,x3) (Od evs (G2 ds q))):=HST;clear HST;have L2:=hI.new (dO 2 x1 x2 x3);have K2:AC wr (wr.alloc (dO 2 x1 x2 x3)):=(AC.refl wr).alloc _;have R3:=R2.keep K2;go_wp2_with fail
       refine (G4 _ _ _ R3 q hlq (by omega)).mono ?_;rintro e w3 ⟨rfl,k3⟩;have L3:=L2.more k3;go_wp2_with fail
       refine (En _ _ _ L3.app.rd (by omega) hv1 _).mono ?_;generalize G2 ds q=go at HS;generalize hcl:Od evs go=cl at HS;clear hcl;rintro e w4 ⟨rfl,k4⟩;have L4:=L3.more k4;have z7:=L4.lt (n:=wr.heap.size) (o:=dO 2 x1 x2 x3) (by simp);have s0:w4.cell? ⟨wr.heap.size,0,none⟩=some (.int .i64 2):=L4.cell (n:=wr.heap.size) (cs:=#[.int .i64 2,.int .i64 x1,.int .i64 x2,.int .i64 x3]) (t:=82) (by simp) 0;have s1:w4.cell? ⟨wr.heap.size,1,none⟩=some (.int .i64 x1):=L4.cell (n:=wr.heap.size) (cs:=#[.int .i64 2,.int .i64 x1,.int .i64 x2,.int .i64 x3]) (t:=82) (by simp) 1;have s2:w4.cell? ⟨wr.heap.size,2,none⟩=some (.int .i64 x2):=L4.cell (n:=wr.heap.size) (cs:=#[.int .i64 2,.int .i64 x1,.int .i64 x2,.int .i64 x3]) (t:=82) (by simp) 2;have s3:w4.cell? ⟨wr.heap.size,3,none⟩=some (.int .i64 x3):=L4.cell (n:=wr.heap.size) (cs:=#[.int .i64 2,.int .i64 x1,.int .i64 x2,.int .i64 x3]) (t:=82) (by simp) 3;clear A0 A1 A2 A3 c5 L2 L3 R3 K2;go_wp2_with fail
       refine (YP _ _ _ _).mono ?_;rintro e w5 ⟨B,rfl,hB,hBl,k5⟩;have L5:=L4.later k5 hBl hB;clear L4 s0 s1 s2 s3 z7 hI;have z8:=L5.lt (n:=B) (o:= .cells #[U5 x1 x2] 187) (by simp);have c6:w5.cell? ⟨B,0,none⟩=some (U5 x1 x2):=L5.cell (n:=B) (cs:=#[U5 x1 x2]) (t:=187) (by simp) 0;go_wp2;refine KCh 2 ?_;rw[KCC];go_wp2_with fail
       refine (Jq _ _ _).mono ?_;rintro e wa0 ⟨rfl,ka0⟩;have Yr:=L5.more ka0;have Ys:=(Yr.more ((AC.refl wa0).alloc (eO k q false x1 x2 cl))).more ((AC.refl _).alloc (eO k q false x1 x2 cl));have hs0:w0.heap.size<=wa0.heap.size:=Yr.keep.size;go_wp2_with (at_builtin;refine KAf _ rfl _ _ 51 rfl w0.heap.size 85 j0 (.agg #[.int .i64 0,.int .i64 0,.bool false,.int .i64 0,.int .i64 0,.int .i64 0]) 6 48 Tryz.underlying51 hj hy0 hy1 hy2 rfl (by decide) _ _ _ rfl Ys.app ⟨_,0,none⟩ 1 1 (cE ((k:Int),(q:Int),false,x1,x2,cl)) rfl rfl ?ZG ?ZH ?ZI ?ZJ ?ZK ?_)
       case ZG=>exact KR _ _ (AD _ _) _ _ _ _ _ _
       case ZH=>exact KT _
       case ZI=>unfold maxLen;first|omega|(simp;omega)
       case ZJ=>first|omega|(simp;omega)
       case ZK=>first|omega|(simp;omega)
       intro v0' wb0 hown' hgrow _ hblk;have gu:=Ys.hit _ hown' hgrow (by rw[AD,AD];exact hblk);clear hgrow hown' hblk Ys Yr L5;go_wp2;rw[KCC];go_wp2;go_roundw;case rel=>exact⟨q+1,_,by omega,by go_num,AN (by rw[HS.out];simp[C6]),by first|omega|(simp<;>omega),by first|omega|(simp<;>omega),gu.less (fun y hy=>by simp only[KBL,KBo,KCl] at hy ⊢;rcases hy with rfl|rfl<;>simp)⟩
       case measure=>simp[intOf];omega
      ·
       have HS:Hid (LX k ds es (q+1)=evs++C6 k q (3,x1,x2,x3) (Od evs (G2 ds q))):=HST;clear HST;have L2:=hI.new (dO 3 x1 x2 x3);have K2:AC wr (wr.alloc (dO 3 x1 x2 x3)):=(AC.refl wr).alloc _;have R3:=R2.keep K2;go_wp2_with fail
       refine (G4 _ _ _ R3 q hlq (by omega)).mono ?_;rintro e w3 ⟨rfl,k3⟩;have L3:=L2.more k3;go_wp2_with fail
       refine (En _ _ _ L3.app.rd (by omega) hv1 _).mono ?_;generalize G2 ds q=go at HS;generalize hcl:Od evs go=cl at HS;clear hcl;rintro e w4 ⟨rfl,k4⟩;have L4:=L3.more k4;have z7:=L4.lt (n:=wr.heap.size) (o:=dO 3 x1 x2 x3) (by simp);have s0:w4.cell? ⟨wr.heap.size,0,none⟩=some (.int .i64 3):=L4.cell (n:=wr.heap.size) (cs:=#[.int .i64 3,.int .i64 x1,.int .i64 x2,.int .i64 x3]) (t:=82) (by simp) 0;have s1:w4.cell? ⟨wr.heap.size,1,none⟩=some (.int .i64 x1):=L4.cell (n:=wr.heap.size) (cs:=#[.int .i64 3,.int .i64 x1,.int .i64 x2,.int .i64 x3]) (t:=82) (by simp) 1;have s2:w4.cell? ⟨wr.heap.size,2,none⟩=some (.int .i64 x2):=L4.cell (n:=wr.heap.size) (cs:=#[.int .i64 3,.int .i64 x1,.int .i64 x2,.int .i64 x3]) (t:=82) (by simp) 2;have s3:w4.cell? ⟨wr.heap.size,3,none⟩=some (.int .i64 x3):=L4.cell (n:=wr.heap.size) (cs:=#[.int .i64 3,.int .i64 x1,.int .i64 x2,.int .i64 x3]) (t:=82) (by simp) 3;clear A0 A1 A2 A3 c5 L2 L3 R3 K2;go_wp2_with fail
       refine (YN _ _ _ _).mono ?_;rintro e w5 ⟨B,rfl,hB,hBl,k5⟩;have L5:=L4.later k5 hBl hB;clear L4 s0 s1 s2 s3 z7 hI;have z8:=L5.lt (n:=B) (o:= .cells #[YG x1,U5 x1 x2] 187) (by simp);have c6:w5.cell? ⟨B,0,none⟩=some (YG x1):=L5.cell (n:=B) (cs:=#[YG x1,U5 x1 x2]) (t:=187) (by simp) 0;have c7:w5.cell? ⟨B,1,none⟩=some (U5 x1 x2):=L5.cell (n:=B) (cs:=#[YG x1,U5 x1 x2]) (t:=187) (by simp) 1;go_wp2;refine KCh 3 ?_;rw[KCC];go_wp2_with fail
       refine (NH _ _).mono ?_;rintro e wa0 ⟨rfl,ka0⟩;have Yr:=L5.more ka0;have Ys:=(Yr.more ((AC.refl wa0).alloc (eO k q true x1 0 cl))).more ((AC.refl _).alloc (eO k q true x1 0 cl));have hs0:w0.heap.size<=wa0.heap.size:=Yr.keep.size;go_wp2_with (at_builtin;refine KAf _ rfl _ _ 51 rfl w0.heap.size 85 j0 (.agg #[.int .i64 0,.int .i64 0,.bool false,.int .i64 0,.int .i64 0,.int .i64 0]) 6 48 Tryz.underlying51 hj hy0 hy1 hy2 rfl (by decide) _ _ _ rfl Ys.app ⟨_,0,none⟩ 1 1 (cE ((k:Int),(q:Int),true,x1,0,cl)) rfl rfl ?ZG ?ZH ?ZI ?ZJ ?ZK ?_)
       case ZG=>exact KR _ _ (AD _ _) _ _ _ _ _ _
       case ZH=>exact KT _
       case ZI=>unfold maxLen;first|omega|(simp;omega)
       case ZJ=>first|omega|(simp;omega)
       case ZK=>first|omega|(simp;omega)
       intro v0' wb0 hown' hgrow _ hblk;have gu:=Ys.hit _ hown' hgrow (by rw[AD,AD];exact hblk);clear hgrow hown' hblk Ys Yr L5;obtain⟨ev1,hev1⟩:∃ev1,ev1=evs++[((k:Int),(q:Int),true,x1,0,cl)]:=⟨_,rfl⟩;rw[<-hev1] at gu;have HV1:=AN hev1;have hl1:ev1.length<=evs.length+1:=by rw[hev1];simp
       clear hev1;clear c6 c7 z8;have z8:=gu.lt (n:=B) (o:= .cells #[YG x1,U5 x1 x2] 187) (by simp);have c7:wb0.cell? ⟨B,1,none⟩=some (U5 x1 x2):=gu.cell (n:=B) (cs:=#[YG x1,U5 x1 x2]) (t:=187) (by simp) 1;go_wp2;rw[KCC];go_wp2_with fail
       refine (Jq _ _ _).mono ?_;rintro e wa1 ⟨rfl,ka1⟩;have zJ:=gu.more ka1;have zK:=(zJ.more ((AC.refl wa1).alloc (eO k q false x1 x2 cl))).more ((AC.refl _).alloc (eO k q false x1 x2 cl));have hs1:w0.heap.size<=wa1.heap.size:=zJ.keep.size;go_wp2_with (at_builtin;refine KAf _ rfl _ _ 51 rfl w0.heap.size 85 j0 (.agg #[.int .i64 0,.int .i64 0,.bool false,.int .i64 0,.int .i64 0,.int .i64 0]) 6 48 Tryz.underlying51 hj hy0 hy1 hy2 rfl (by decide) _ _ _ rfl zK.app ⟨_,0,none⟩ 1 1 (cE ((k:Int),(q:Int),false,x1,x2,cl)) rfl rfl ?zy ?c2_1 ?c3_1 ?c4_1 ?c5_1 ?_)
       case zy=>exact KR _ _ (AD _ _) _ _ _ _ _ _
       case c2_1=>exact KT _
       case c3_1=>unfold maxLen;first|omega|(simp;omega)
       case c4_1=>first|omega|(simp;omega)
       case c5_1=>first|omega|(simp;omega)
       intro v1' wb1 hown' hgrow _ hblk;have Lc1:=zK.hit _ hown' hgrow (by rw[AD,AD];exact hblk);clear hgrow hown' hblk zK zJ gu;go_wp2;rw[KCC];go_wp2;go_roundw;case rel=>exact⟨q+1,_,by omega,by go_num,AN (by rw[HS.out,HV1.out];simp[C6]),by first|omega|(simp<;>omega),by first|omega|(simp<;>omega),Lc1.less (fun y hy=>by simp only[KBL,KBo,KCl] at hy ⊢;rcases hy with rfl|rfl<;>simp)⟩
       case measure=>simp[intOf];omega
      ·
       have HS:Hid (LX k ds es (q+1)=evs++C6 k q (4,x1,x2,x3) (Od evs (G2 ds q))):=HST;clear HST;have L2:=hI.new (dO 4 x1 x2 x3);have K2:AC wr (wr.alloc (dO 4 x1 x2 x3)):=(AC.refl wr).alloc _;have R3:=R2.keep K2;go_wp2_with fail
       refine (G4 _ _ _ R3 q hlq (by omega)).mono ?_;rintro e w3 ⟨rfl,k3⟩;have L3:=L2.more k3;go_wp2_with fail
       refine (En _ _ _ L3.app.rd (by omega) hv1 _).mono ?_;generalize G2 ds q=go at HS;generalize hcl:Od evs go=cl at HS;clear hcl;rintro e w4 ⟨rfl,k4⟩;have L4:=L3.more k4;have z7:=L4.lt (n:=wr.heap.size) (o:=dO 4 x1 x2 x3) (by simp);have s0:w4.cell? ⟨wr.heap.size,0,none⟩=some (.int .i64 4):=L4.cell (n:=wr.heap.size) (cs:=#[.int .i64 4,.int .i64 x1,.int .i64 x2,.int .i64 x3]) (t:=82) (by simp) 0;have s1:w4.cell? ⟨wr.heap.size,1,none⟩=some (.int .i64 x1):=L4.cell (n:=wr.heap.size) (cs:=#[.int .i64 4,.int .i64 x1,.int .i64 x2,.int .i64 x3]) (t:=82) (by simp) 1;have s2:w4.cell? ⟨wr.heap.size,2,none⟩=some (.int .i64 x2):=L4.cell (n:=wr.heap.size) (cs:=#[.int .i64 4,.int .i64 x1,.int .i64 x2,.int .i64 x3]) (t:=82) (by simp) 2;have s3:w4.cell? ⟨wr.heap.size,3,none⟩=some (.int .i64 x3):=L4.cell (n:=wr.heap.size) (cs:=#[.int .i64 4,.int .i64 x1,.int .i64 x2,.int .i64 x3]) (t:=82) (by simp) 3;clear A0 A1 A2 A3 c5 L2 L3 R3 K2;go_wp2_with fail
       refine (YO _ _ _ _).mono ?_;rintro e w5 ⟨B,rfl,hB,hBl,k5⟩;have L5:=L4.later k5 hBl hB;clear L4 s0 s1 s2 s3 z7 hI;have z8:=L5.lt (n:=B) (o:= .cells #[] 187) (by simp);go_wp2;refine KCh 1 ?_;rw[KCC];go_wp2;go_roundw;case rel=>exact⟨q+1,_,by omega,by go_num,AN (by rw[HS.out];simp[C6]),by first|omega|(simp<;>omega),by first|omega|(simp<;>omega),L5.less (fun y hy=>by simp only[KBL,KBo,KCl] at hy ⊢;rcases hy with rfl|rfl<;>simp)⟩
       case measure=>simp[intOf];omega
     ·
      obtain rfl:q=ds.length:=by omega
      go_wp2;go_roundw;case rel=>exact⟨k+1,evs,by omega,by go_num,AN (by rw[HV.out];exact hC.out),hv1,by omega,hI.less (fun y hy=>by simp only[KBL,KBo,KCl] at hy ⊢;subst hy;simp)⟩
      case measure=>simp[intOf];omega
   ·
    obtain rfl:k=AA.length:=by omega
    go_wp2;go_ret;exact⟨_,rfl,by rw[HE.out,<-hE.out];exact Y1 hL.app hsz0,k0.trans hL.keep⟩
theorem qC {AA:List (List Dd)}(h:AL AA=true):Oc AA=((AW Af (AB AA)).length:Int):=by
 unfold Oc AB;rw[KAP h]
theorem Ii (w:World)(v:Value)(AA:List (List Dd))(h:Fw w v AA)(hx:AA.length<=1048576)(hm:∀i,i<AA.length->(AA.getD i []).length<=1048576)(hb:AL AA=true):
  Calls Tryz.prog 55 #[v] w fun e w'=>e = .returned (.int .i64 (Oc AA))/\AC w w':=by
 have CE:=Dg w v AA h hx hm;have hlen:=SV AA;have HN:=AN (qC hb);clear hb h hm;go_enter Tryz.func55,Tryz.ntmps55
 go_wp2_with fail
 refine CE.mono ?_;rintro e w1 ⟨v1,rfl,a1,k1⟩;have re:=a1.rd;generalize AB AA=es at re hlen HN;clear a1 CE;go_wp2_with fail
 refine (Dq _ _ _ re hlen).mono ?_;rintro e w2 ⟨v2,rfl,o2,k2⟩;obtain⟨a2,c2,rfl,-⟩:=o2.rd;go_wp2;go_ret;exact⟨by rw[HN.out];rfl,k1.trans k2⟩
theorem Ij (w:World)(v vR vV:Value)(AA:List (List Dd))(rs vs:List Int)(a:Addr)(hn:KH w a)(h:Fw w v AA)(hr:Rd w vR rs)(hv:Rd w vV vs)(hx:AA.length<=1048576)(hm:∀i,i<AA.length->(AA.getD i []).length<=1048576)(lr:rs.length<=2097152)(lv:vs.length<=2097152):
  Calls Tryz.prog 36 #[v,.agg #[vR,vV]] w fun e w'=>∃u,e = .returned u/\Oj a (Db AA rs vs) u/\AC w w':=by
 have K1:AC w (w.alloc (.cells #[vR,vV] 27)):=(AC.refl w).alloc _;have CW:=Cs _ v AA (h.keep K1) hx hm;have CR:=fun (W:World) (k:AC w W) (hb:AL AA=true)=>Ii W v AA (h.keep k) hx hm hb
 have CO:=fun (W:World) (k:AC w W)=>PC W vR vV rs vs (Oc AA) a (hr.keep k) (hv.keep k) (hn.keep k) (GM AA).1 (GM AA).2 lr lv
 have HN:=AN hn;obtain⟨aR,cR,rfl,-⟩:=hr;obtain⟨aV,cV,rfl,-⟩:=hv;obtain⟨av,cv,rfl,-⟩:=h;clear hm hn;cases hb:AL AA
 ·
  have HE:Hid (Db AA rs vs=false):=AN (by rw[Db,hb];rfl);rw[hb] at CW;clear CR CO hb;go_enter Tryz.func36,Tryz.ntmps36
  go_wp2_with fail
  refine CW.mono ?_;rintro e w1 ⟨rfl,k1⟩;have g0:=(HN.out.keep (K1.trans k1)).out;go_wp2;go_ret;exact⟨_,rfl,.inr ⟨HE.out,_,rfl⟩,K1.trans k1⟩
 ·
  have HE:Hid (Db AA rs vs=Q0 (Oc AA) rs vs):=AN (by rw[Db,hb];rfl);rw[hb] at CW;replace CR:=fun W k=>CR W k hb
  clear hb;go_enter Tryz.func36,Tryz.ntmps36
  go_wp2_with fail
  refine CW.mono ?_;rintro e w1 ⟨rfl,k1⟩;have c0:=AO k1 0;have c1:=AO k1 1;simp at c0 c1;have s1:w.heap.size<w1.drew.heap.size:=by have:=k1.size;rw[AD] at this;rw[Az];omega
  have KK:AC w w1.drew:=(K1.trans k1).drew;clear CW K1 k1;go_upto_region 3 with fail
  go_region_held3 (fun w'=>w'.cell? ⟨w.heap.size,0,none⟩=some (.slice aR rs.length cR)/\w'.cell? ⟨w.heap.size,1,none⟩=some (.slice aV vs.length cV))
   (first|go_keep|(go_split_ands;refine⟨?_,?_⟩<;>(rw[kk.cell (by assumption)];assumption)))
   ((first
    | (go_at_call 55;refine (CR _ KK).mono ?_;rintro e wz ⟨rfl,kk⟩;have KK:=KK.trans kk;have s1:=KAC s1 kk.size)
    | (go_at_call 68;refine (CO _ KK).mono ?_;rintro e wz ⟨u,rfl,hu,kk⟩;have KK:=KK.trans kk;have s1:=KAC s1 kk.size)))
  all_goals
   go_wp2_with fail
   go_ret;exact⟨_,rfl,by rw[HE.out];exact hu,KK⟩
theorem Kl (w:World)(v vR vV:Value)(AA:List (List Dd))(rs vs:List Int)(a:Addr)(hn:KH w a)(h:Fw w v AA)(hr:Rd w vR rs)(hv:Rd w vV vs)(hx:AA.length<=1048576)(hm:∀i,i<AA.length->(AA.getD i []).length<=1048576)(lr:rs.length<=2097152)(lv:vs.length<=2097152):
  Calls Tryz.prog 12 #[v,.agg #[vR,vV]] w fun e w'=>e = .returned (.bool (Db AA rs vs))/\AC w w':=by
 have KK:AC w ((w.alloc (.cells #[vR,vV] 27)).drew):=((AC.refl w).alloc _).drew;have C:=fun (W:World) (k:AC w W)=>Ij W v vR vV AA rs vs a (hn.keep k) (h.keep k) (hr.keep k) (hv.keep k) hx hm lr lv
 have c0:((w.alloc (.cells #[vR,vV] 27)).drew).cell? ⟨w.heap.size,0,none⟩=some vR:=AO (AC.refl _) 0;have c1:((w.alloc (.cells #[vR,vV] 27)).drew).cell? ⟨w.heap.size,1,none⟩=some vV:=AO (AC.refl _) 1;have s1:w.heap.size<((w.alloc (.cells #[vR,vV] 27)).drew).heap.size:=by rw[Az,AD];omega
 have g0:((w.alloc (.cells #[vR,vV] 27)).drew).cell? ⟨0,0,none⟩=some (Ti a):=(hn.keep KK).out;have s2:0<((w.alloc (.cells #[vR,vV] 27)).drew).heap.size:=KAC (KCg w ⟨0,0,none⟩ hn) KK.size;obtain⟨aR,cR,rfl,-⟩:=hr;obtain⟨aV,cV,rfl,-⟩:=hv;obtain⟨av,cv,rfl,-⟩:=h;obtain⟨T,hT⟩:∃T,T=Db AA rs vs:=⟨_,rfl⟩;rw[<-hT] at C ⊢;clear hm hn hT;cases T
 ·
  have CI:=fun (s:ByteArray) (W:World)=>UQ s a W
  go_enter Tryz.func12,Tryz.ntmps12
  go_upto_region 1 with fail
  go_region_held3 (fun w'=>w'.cell? ⟨w.heap.size,0,none⟩=some (.slice aR rs.length cR)/\w'.cell? ⟨w.heap.size,1,none⟩=some (.slice aV vs.length cV)/\w'.cell? ⟨0,0,none⟩=some (Ti a))
   (first|go_keep|(go_split_ands;refine⟨?_,?_,?_⟩<;>(rw[kk.cell (by assumption)];assumption)))
   ((first
    | (go_at_call 36;refine (C _ KK).mono ?_;rintro e wz ⟨u,rfl,hu,kk⟩;obtain⟨s,rfl⟩:=Oj.no hu;clear hu;have KK:=KK.trans kk;have s1:=KAC s1 kk.size;have s2:=KAC s2 kk.size)
    | (go_at_call 35;refine (CI _ _).mono ?_;rintro e wz ⟨rfl,kk⟩;have KK:=KK.trans kk;have s1:=KAC s1 kk.size;have s2:=KAC s2 kk.size)))
  all_goals
   go_wp2_with fail
   go_ret;exact⟨rfl,KK⟩
 ·
  have CI:=fun (W:World)=>Xg a W
  go_enter Tryz.func12,Tryz.ntmps12
  go_upto_region 1 with fail
  go_region_held3 (fun w'=>w'.cell? ⟨w.heap.size,0,none⟩=some (.slice aR rs.length cR)/\w'.cell? ⟨w.heap.size,1,none⟩=some (.slice aV vs.length cV)/\w'.cell? ⟨0,0,none⟩=some (Ti a))
   (first|go_keep|(go_split_ands;refine⟨?_,?_,?_⟩<;>(rw[kk.cell (by assumption)];assumption)))
   ((first
    | (go_at_call 36;refine (C _ KK).mono ?_;rintro e wz ⟨u,rfl,hu,kk⟩;obtain rfl:=Oj.yes hu;clear hu;have KK:=KK.trans kk;have s1:=KAC s1 kk.size;have s2:=KAC s2 kk.size)
    | (go_at_call 35;refine (CI _).mono ?_;rintro e wz ⟨rfl,kk⟩;have KK:=KK.trans kk;have s1:=KAC s1 kk.size;have s2:=KAC s2 kk.size)))
  all_goals
   go_wp2_with fail
   go_ret;exact⟨rfl,KK⟩
end Go.Proofs.YtflehmepjhikcaaGreatDoor
