/- Gathered texts. -/
import Derived.Test.YtflehmepjhikcaaGreatDoorMG
import Derived.BigRegion
import Derived.Deep.Cut
import Derived.BigQuiet
import Derived.Lib.Hide
import Derived.Test.YtflehmepjhikcaaGreatDoorME
import Derived.Deep.RegionHeld3
import Derived.Deep.QuietTactic
import Derived.Maps.AppendAt
import Derived.Laws.OwnMore
import Derived.OwnWalk
import Derived.Deep.CutRange
set_option maxRecDepth 100000
set_option maxHeartbeats 8000000
namespace Go.Proofs.YtflehmepjhikcaaGreatDoor
open Go.ChangeShapes Go.WideShapes Go.ChangeAt Go.RowKit
theorem Av (lo x hi:Int)(w:World):
  Calls Tryz.prog 98 #[.int .i64 lo,.int .i64 x,.int .i64 hi] w fun e w'=>e = .returned (.bool (CJ x lo hi))/\w'=w:=by
 go_enter Tryz.func98,Tryz.ntmps98
 go_wp2
 all_goals
  go_ret;exact⟨A8 (by rw[Bool.eq_iff_iff];unfold CJ;simp;omega),rfl⟩
def Tz (k:Int):Int:=if k=1\/k=2\/k=3 then 2 else 0
def T0 (k:Int):Int:=if k=2\/k=3 then 9 else 0
def PM (k:Int):Int:=if k=2\/k=3 then 1 else 0
def Ty (k:Int):Int:=if k=1\/k=2 then 9 else 0
theorem Sg (k:Int)(w:World):
  Calls Tryz.prog 171 #[.int .i64 k] w fun e w'=>e = .returned (.tuple #[E5 1 0 (PM k) 0,E5 4 (Tz k) (T0 k) (Ty k)])/\AC w w':=by
 have hk:k=1\/k=2\/k=3\/(¬k=1/\¬k=2/\¬k=3):=by omega
 rcases hk with rfl|rfl|rfl|⟨h1,h2,h3⟩
 all_goals
  go_enter Tryz.func171,Tryz.ntmps171
  go_wp2;go_region
  go_wp2;refine bodyPost_ret (Pb (by rfl) _ _ _ _ _ _ _ _ _ _ _ rfl (by simp only[Bt,Au,AD];repeat (first|exact if_pos rfl|exact if_pos trivial|rw[if_neg (by omega)])) rfl (by simp only[Bt,Au,AD];repeat (first|exact if_pos rfl|exact if_pos trivial|rw[if_neg (by omega)])) Tryz.underlying82 rfl (by kernel_rfl) (by kernel_rfl)) rfl ?_;refine⟨?_,(((((AC.refl w).alloc _).alloc _).alloc _).alloc _).drew⟩;first|rfl|simp[E5,PM,Tz,T0,Ty,h1,h2,h3]
theorem SD (k p v g:Int):Dn k p v g=(CJ k 1 4&&CJ p 0 (Tz k)&&CJ v (PM k) (T0 k)&&CJ g 0 (Ty k)):=by
 have hk:k=1\/k=2\/k=3\/k=4\/¬(1<=k/\k<=4):=by omega
 rw[Bool.eq_iff_iff];rcases hk with rfl|rfl|rfl|rfl|h
 all_goals
  simp[Dn,CJ,Tz,T0,PM,Ty];omega
theorem Gv (k p v g:Int)(w:World):
  Calls Tryz.prog 158 #[E5 k p v g] w fun e w'=>e = .returned (.bool (Dn k p v g))/\AC w w':=by
 rw[SD];unfold E5;go_enter Tryz.func158,Tryz.ntmps158
 go_wp2_with fail
 refine (Sg _ _).mono ?_;rintro e w1 ⟨rfl,k1⟩;have hs:=Gn k1;have c0:w1.cell? ⟨w.heap.size,0,none⟩=some (.int .i64 k):=AR k1 0;have c1:w1.cell? ⟨w.heap.size,1,none⟩=some (.int .i64 p):=AR k1 1;have c2:w1.cell? ⟨w.heap.size,2,none⟩=some (.int .i64 v):=AR k1 2;have c3:w1.cell? ⟨w.heap.size,3,none⟩=some (.int .i64 g):=AR k1 3;have K1:AC w w1:=((AC.refl w).alloc _).trans k1;clear k1;go_wp2_with (go_at_call 98;refine (Av _ _ _ _).mono ?_;rintro e w' ⟨rfl,rfl⟩)
 all_goals
  go_ret;exact⟨A8 (by simp[*]),(K1.alloc _).alloc _⟩
theorem NA (w:World)(vR vV:Value)(rs vs:List Int)(n:Int)(a:Addr)(hr:Rd w vR rs)(hv:Rd w vV vs)(hn:JG w a)(h0:0<=n)(h1:n<=12)(lr:rs.length<=2097152)(lv:vs.length<=2097152):
  Calls Tryz.prog 68 #[.agg #[vR,vV],.int .i64 n] w fun e w'=>∃v,e = .returned v/\Mq a (P0 n rs vs) v/\AC w w':=by
 obtain⟨aR,cR,rfl,hr⟩:=hr;obtain⟨aV,cV,rfl,hv⟩:=hv;have HE:Hid (P0 n rs vs=((decide (rs.length<=6)&&decide (rs.length=vs.length))&&Gj n rs vs rs.length)):=Lib.hid rfl;have hw:IntKind.i64.wrap (n-1)=n-1:=by rw[IntKind.wrap_i64];omega
 have K1:AC w (w.alloc (.cells #[.slice aR rs.length cR,.slice aV vs.length cV] 27)):=(AC.refl w).alloc _;have HR:=Lib.hid hr;have HV:=Lib.hid hv;clear hr hv;obtain⟨wA,IL⟩:∃W:World,W=w.alloc (.cells #[.slice aR rs.length cR,.slice aV vs.length cV] 27):=⟨_,rfl⟩;rw[<-IL] at K1;have b0:wA.cell? ⟨w.heap.size,0,none⟩=some (.slice aR rs.length cR):=by rw[IL];exact AR (AC.refl _) 0
 have b1:wA.cell? ⟨w.heap.size,1,none⟩=some (.slice aV vs.length cV):=by rw[IL];exact AR (AC.refl _) 1
 have g0:wA.cell? ⟨0,0,none⟩=some (Rl a):=(hn.keep K1).out;clear hn;by_cases hl:rs.length=vs.length
 ·
  have hle:((rs.length:Int) != (vs.length:Int))=false:=by rw[hl];simp
  by_cases h6:6<rs.length
  ·
   have d6:(6:Int)<(rs.length:Int):=by omega
   have HN:Hid (P0 n rs vs=false):=Lib.hid (by rw[HE.out,decide_eq_false (by omega)];rfl);clear hl;go_enter Tryz.func68,Tryz.ntmps68
   go_upto_region 1 with fail
   rw[<-IL];clear IL;go_wp2;go_ret;exact⟨_,rfl,.inr ⟨HN.out,_,rfl⟩,K1⟩
  ·
   have d6:decide ((6:Int)<(rs.length:Int))=false:=by rw[decide_eq_false_iff_not];omega
   have XL:=Lib.hid hl;have HN:Hid (P0 n rs vs=Gj n rs vs rs.length):=Lib.hid (by rw[HE.out,decide_eq_true (by omega),decide_eq_true hl];rfl);clear hl;go_enter Tryz.func68,Tryz.ntmps68
   go_upto_region 1 with fail
   rw[<-IL];clear IL;go_wp2;go_loop [5,6,26] (fun _ _ i=>∃k:Nat,k<=rs.length/\i = .int .i64 k/\Hid (Gj n rs vs k=true)) (fun _ _ i=>rs.length-(intOf i).toNat)
   case atStart=>exact⟨0,Nat.zero_le _,rfl,Lib.hid rfl⟩
   case round=>
    obtain⟨k,hk,rfl,hq⟩:=hrel;by_cases hlt:k<rs.length
    ·
     have hlt2:k<vs.length:=by have:=XL.out;omega
     rcases HR.out with q|⟨bR,oR,rfl,hbR,dR⟩
     . exfalso;rw[q] at hlt;simp at hlt
     rcases HV.out with q|⟨bV,oV,rfl,jI,dV⟩
     . exfalso;rw[q] at hlt2;simp at hlt2
     have e1:=(K1.cell hbR).trans (dR k hlt);have e2:=(K1.cell jI).trans (dV k hlt2);have i1:(0:Int)<=(k:Int):=Int.natCast_nonneg _;have i2:(k:Int)<(rs.length:Int):=by omega
     have i3:(k:Int)<(vs.length:Int):=by omega
     have XS:Hid (Gj n rs vs (k+1)=((CJ (rs.getD k 0) 0 (n-1)||CJ (rs.getD k 0) 100 102)&&CJ (vs.getD k 0) 0 9)):=Lib.hid (by
      show (Gj n rs vs k&&_)=_;rw[hq.out,Bool.true_and]
      rfl)
     have C1:=fun (W:World)=>Av 0 (rs.getD k 0) (n-1) W
     have C2:=fun (W:World)=>Av 100 (rs.getD k 0) 102 W
     have C3:=fun (W:World)=>Av 0 (vs.getD k 0) 9 W
     generalize rs.getD k 0=x at e1 C1 C2 XS;generalize vs.getD k 0=y at e2 C3 XS;generalize CJ x 0 (n-1)=A at C1 XS;generalize CJ x 100 102=A2 at C2 XS;generalize CJ y 0 9=B at C3 XS;clear dR dV hlt2;go_wp2_with fail
     refine (C1 _).mono ?_;rintro e w1 ⟨rfl,rfl⟩;cases A
     ·
      go_wp2_with fail
      refine (C2 _).mono ?_;rintro e w2 ⟨rfl,rfl⟩;cases A2
      ·
       clear C3;go_wp2;go_ret;exact⟨_,rfl,.inr ⟨by rw[HN.out];exact Gl (k:=k+1) (by rw[XS.out];rfl) (by omega),_,rfl⟩,K1⟩
      ·
       go_wp2_with fail
       refine (C3 _).mono ?_;rintro e w3 ⟨rfl,rfl⟩;cases B
       ·
        go_wp2;go_ret;exact⟨_,rfl,.inr ⟨by rw[HN.out];exact Gl (k:=k+1) (by rw[XS.out];rfl) (by omega),_,rfl⟩,K1⟩
       ·
        go_wp2;go_round
        case rel=>exact⟨k+1,by omega,by go_num,Lib.hid (by rw[XS.out];rfl)⟩
        case measure=>simp[intOf];omega
     ·
      go_wp2_with fail
      refine (C3 _).mono ?_;rintro e w3 ⟨rfl,rfl⟩;cases B
      ·
       go_wp2;go_ret;exact⟨_,rfl,.inr ⟨by rw[HN.out];exact Gl (k:=k+1) (by rw[XS.out];rfl) (by omega),_,rfl⟩,K1⟩
      ·
       go_wp2;go_round
       case rel=>exact⟨k+1,by omega,by go_num,Lib.hid (by rw[XS.out];rfl)⟩
       case measure=>simp[intOf];omega
    ·
     obtain rfl:k=rs.length:=by omega
     go_wp2;go_ret;exact⟨_,rfl,.inl ⟨by rw[HN.out];exact hq.out,rfl⟩,K1⟩
 ·
  have hle:((rs.length:Int) != (vs.length:Int))=true:=by simp;omega
  have HN:Hid (P0 n rs vs=false):=Lib.hid (by rw[HE.out,decide_eq_false hl,Bool.and_false,Bool.false_and]);clear hl;go_enter Tryz.func68,Tryz.ntmps68
  go_upto_region 1 with fail
  rw[<-IL];clear IL;go_wp2;go_ret;exact⟨_,rfl,.inr ⟨HN.out,_,rfl⟩,K1⟩
theorem Km (s t:Int)(w:World):
  Calls Tryz.prog 131 #[.int .i64 s,.int .i64 t] w fun e w'=>e = .returned (.int .i64 (bits .and .i64 s t))/\w'=w:=by
 go_enter Tryz.func131,Tryz.ntmps131
 go_wp2;go_ret;exact⟨rfl,rfl⟩
theorem S6 (s t:Int)(w:World):
  Calls Tryz.prog 127 #[.int .i64 s,.int .i64 t] w fun e w'=>e = .returned (.int .i64 (bits .or .i64 s t))/\w'=w:=by
 go_enter Tryz.func127,Tryz.ntmps127
 go_wp2;go_ret;exact⟨rfl,rfl⟩
theorem C8 (a:Option Addr)(n c:Nat)(w:World):
  Calls Tryz.prog 101 #[.slice a n c] w fun e w'=>e = .returned (.int .i64 (n:Int))/\w'=w:=by
 go_enter Tryz.func101,Tryz.ntmps101
 go_wp2;go_ret;exact⟨rfl,rfl⟩
theorem VC (d:Dd):(d.1=3/\SO d=2)\/(d.1=1/\SO d=1)\/(d.1=2/\SO d=1)\/(¬d.1=3/\¬d.1=1/\¬d.1=2/\SO d=0):=by
 unfold SO
 repeat' split
 all_goals omega
theorem SP (w:World)(v:Value)(ds:List Dd)(h:IY w v ds)(hx:ds.length<=1048576):
  Calls Tryz.prog 102 #[v] w fun e w'=>e = .returned (.int .i64 (Nf ds ds.length))/\AC w w':=by
 obtain⟨a,c,rfl,h⟩:=h;go_enter Tryz.func102,Tryz.ntmps102
 go_wp2;go_loopw [3,8] (fun n i wr=>∃k:Nat,∃m:Int,k<=ds.length/\n = .int .i64 m/\i = .int .i64 k/\Hid (m=Nf ds k)/\0<=m/\m<=2*k/\AC w wr) (fun _ i _=>ds.length-(intOf i).toNat)
 case atStart=>exact⟨0,0,Nat.zero_le _,rfl,rfl,Lib.hid rfl,by omega,by omega,AC.refl _⟩
 case round=>
  obtain⟨k,m,hk,rfl,rfl,hm,m0,m1,hK⟩:=hrel;by_cases hlt:k<ds.length
  ·
   rcases h with h|⟨b,o,rfl,hb,hc⟩
   . exfalso;rw[h] at hlt;simp at hlt
   obtain⟨A0,A1,A2,A3⟩:=(hc k hlt).keep hb hK;clear hc;have HE:Hid (m+SO (ds.getD k zD)=Nf ds (k+1)):=Lib.hid (by rw[Nf,hm.out]);have CS:=VC (ds.getD k zD);clear hm;obtain⟨d,hd⟩:∃d,d=ds.getD k zD:=⟨_,rfl⟩;rw[<-hd] at A0 A1 A2 A3 HE CS;clear hd;obtain⟨x0,x1,x2,x3⟩:=d;simp only at A0 A1 A2 A3 CS;have hbw:b<wr.heap.size:=Nat.lt_of_lt_of_le hb hK.size;have i1:(0:Int)<=(k:Int):=Int.natCast_nonneg _;have i2:(k:Int)<(ds.length:Int):=by omega
   rcases CS with ⟨rfl,e⟩|⟨rfl,e⟩|⟨rfl,e⟩|⟨n3,n1,n2,e⟩
   ·
    rw[e] at HE;clear e;go_wp2;go_roundw;case rel=>exact⟨k+1,m+2,by omega,by go_num,by go_num,HE,by omega,by omega,hK.alloc _⟩
    case measure=>simp[intOf];omega
   ·
    rw[e] at HE;clear e;go_wp2;go_roundw;case rel=>exact⟨k+1,m+1,by omega,by go_num,by go_num,HE,by omega,by omega,hK.alloc _⟩
    case measure=>simp[intOf];omega
   ·
    rw[e] at HE;clear e;go_wp2;go_roundw;case rel=>exact⟨k+1,m+1,by omega,by go_num,by go_num,HE,by omega,by omega,hK.alloc _⟩
    case measure=>simp[intOf];omega
   ·
    rw[e,Int.add_zero] at HE;clear e;have e3:(x0==3)=false:=by simp[n3]
    have e1:(x0==1)=false:=by simp[n1]
    have e2:(x0==2)=false:=by simp[n2]
    clear n3 n1 n2;go_wp2;go_roundw;case rel=>exact⟨k+1,m,by omega,by go_num,by go_num,HE,by omega,by omega,hK.alloc _⟩
    case measure=>simp[intOf];omega
  ·
   obtain rfl:k=ds.length:=by omega
   go_wp2;go_ret;exact⟨by rw[hm.out];rfl,hK⟩
theorem Ee (w:World)(v:Value)(ds:List Dd)(h:IY w v ds)(hx:ds.length<=1048576):
  Calls Tryz.prog 128 #[v] w fun e w'=>e = .returned (.int .i64 (gC ds))/\AC w w':=by
 obtain⟨a,c,rfl,h⟩:=h;go_enter Tryz.func128,Tryz.ntmps128
 go_wp2;go_loopw [3,8] (fun n i wr=>∃k:Nat,∃m:Int,k<=ds.length/\n = .int .i64 m/\i = .int .i64 k/\Hid (m=gK ds k)/\AC w wr) (fun _ i _=>ds.length-(intOf i).toNat)
 case atStart=>exact⟨0,0,Nat.zero_le _,rfl,rfl,Lib.hid rfl,AC.refl _⟩
 case round=>
  obtain⟨k,m,hk,rfl,rfl,hm,hK⟩:=hrel;by_cases hlt:k<ds.length
  ·
   rcases h with h|⟨b,o,rfl,hb,hc⟩
   . exfalso;rw[h] at hlt;simp at hlt
   obtain⟨A0,A1,A2,A3⟩:=(hc k hlt).keep hb hK;clear hc;have HE:Hid (gK ds (k+1)=if Ot (ds.getD k zD)=0 then m else Ku m (Ot (ds.getD k zD))):=Lib.hid (by rw[gK,hm.out]);clear hm;obtain⟨d,hd⟩:∃d,d=ds.getD k zD:=⟨_,rfl⟩;rw[<-hd] at A0 A1 A2 A3 HE;clear hd;obtain⟨x0,x1,x2,x3⟩:=d;unfold Ot at HE;simp only at A0 A1 A2 A3 HE;have hbw:b<wr.heap.size:=Nat.lt_of_lt_of_le hb hK.size;have i1:(0:Int)<=(k:Int):=Int.natCast_nonneg _;have i2:(k:Int)<(ds.length:Int):=by omega
   by_cases h0:x3=0
   ·
    subst h0;go_wp2;go_roundw;case rel=>exact⟨k+1,m,by omega,by go_num,by go_num,Lib.hid (by rw[HE.out,if_pos rfl]),hK.alloc _⟩
    case measure=>simp[intOf];omega
   ·
    have e0:(x3 != 0)=true:=by simp[h0]
    have HF:Hid (gK ds (k+1)=Ku m x3):=Lib.hid (by rw[HE.out,if_neg h0]);clear h0 HE;go_wp2_with fail
    refine (ZN _ _ _).mono ?_;rintro e wz ⟨rfl,rfl⟩;go_wp2;go_roundw;case rel=>exact⟨k+1,_,by omega,rfl,by go_num,Lib.hid HF.out.symm,hK.alloc _⟩
    case measure=>simp[intOf];omega
  ·
   obtain rfl:k=ds.length:=by omega
   go_wp2;go_ret;exact⟨by rw[hm.out];rfl,hK⟩
theorem Ul {α:Type}{f:α->Bool}{l:List α}{k:Nat}(z:α)(h:k<l.length)(h1:(l.take k).all f=true)(h2:f (l.getD k z)=true):(l.take (k+1)).all f=true:=by
 rw[List.take_add_one,List.getElem?_eq_getElem h,List.all_append,h1];rw[List.getD_eq_getElem?_getD,List.getElem?_eq_getElem h] at h2
 simpa using h2
theorem EO (w:World)(v:Value)(ds:List Dd)(h:IY w v ds)(hx:ds.length<=1048576):
  Calls Tryz.prog 129 #[v] w fun e w'=>e = .returned (.bool (ds.all Eu))/\AC w w':=by
 obtain⟨a,c,rfl,h⟩:=h;go_enter Tryz.func129,Tryz.ntmps129
 go_wp2;go_loopw [7] (fun i wr=>∃k:Nat,k<=ds.length/\i = .int .i64 k/\Hid ((ds.take k).all Eu=true)/\AC w wr) (fun i _=>ds.length-(intOf i).toNat)
 case atStart=>exact⟨0,Nat.zero_le _,rfl,Lib.hid (by simp),AC.refl _⟩
 case round=>
  obtain⟨k,hk,rfl,hm,hK⟩:=hrel;by_cases hlt:k<ds.length
  ·
   rcases h with h|⟨b,o,rfl,hb,hc⟩
   . exfalso;rw[h] at hlt;simp at hlt
   obtain⟨A0,A1,A2,A3⟩:=(hc k hlt).keep hb hK;clear hc;have HT:Eu (ds.getD k zD)=true->Hid ((ds.take (k+1)).all Eu=true):=fun e=>Lib.hid (Ul zD hlt hm.out e)
   have HF:Eu (ds.getD k zD)=false->Hid (ds.all Eu=false):=fun e=>Lib.hid (Oh zD k hlt e)
   clear hm;obtain⟨d,hd⟩:∃d,d=ds.getD k zD:=⟨_,rfl⟩;rw[<-hd] at A0 A1 A2 A3 HT HF;clear hd;obtain⟨x0,x1,x2,x3⟩:=d;simp only at A0 A1 A2 A3;have hbw:b<wr.heap.size:=Nat.lt_of_lt_of_le hb hK.size;have i1:(0:Int)<=(k:Int):=Int.natCast_nonneg _;have i2:(k:Int)<(ds.length:Int):=by omega
   cases hd:Dn x0 x1 x2 x3
   ·
    have HE:=HF hd;clear HT HF;go_wp2_with fail
    refine (Gv _ _ _ _ _).mono ?_;rintro e wz ⟨rfl,kk⟩;go_wp2;go_ret;exact⟨by rw[HE.out];rfl,(hK.alloc _).trans kk⟩
   ·
    have HE:=HT hd;clear HT HF;go_wp2_with fail
    refine (Gv _ _ _ _ _).mono ?_;rintro e wz ⟨rfl,kk⟩;go_wp2;go_roundw;case rel=>exact⟨k+1,by omega,by go_num,HE,(hK.alloc _).trans kk⟩
    case measure=>simp[intOf];omega
  ·
   obtain rfl:k=ds.length:=by omega
   rw[List.take_length] at hm;go_wp2;go_ret;exact⟨by rw[hm.out];rfl,hK⟩
abbrev Uw (x0 x1 x2 x3:Int):Obj:= .cells #[.int .i64 x0,.int .i64 x1,.int .i64 x2,.int .i64 x3] 82
theorem IY.cut {w:World}{b o:Nat}{ds:List Dd}{c k:Nat}(hk:k<=ds.length)(hb:b<w.heap.size)(hc:∀i,i<ds.length->Uc w b (o+i*4) (ds.getD i zD)):
  IY w (.slice (some ⟨b,o,none⟩) k (ds.length+c)) (ds.take k):=by
 refine⟨some ⟨b,o,none⟩,ds.length+c-k,?_,.inr ⟨b,o,rfl,hb,fun i hi=>?_⟩⟩
 ·
  rw[List.length_take,Nat.min_eq_left hk]
  congr 1
  omega
 ·
  rw[List.length_take] at hi;rw[OO ds k i zD (by omega)];exact hc i (by omega)
theorem TD {ds:List Dd}{k:Nat}(h:Et ds k=true)(hp:G7 ds k=false):Et ds (k+1)=true:=by rw[Et,h,hp];rfl
theorem fI {ds:List Dd}{k:Nat}(hk:k<ds.length)(hp:G7 ds k=true):Et ds ds.length=false:=by
 refine Mf (k:=k+1) ?_ _ hk;rw[Et,hp];simp
theorem EB (w:World)(v:Value)(ds:List Dd)(h:IY w v ds)(hx:ds.length<=1048576):
  Calls Tryz.prog 130 #[v] w fun e w'=>e = .returned (.bool (Et ds ds.length))/\AC w w':=by
 obtain⟨a,c,rfl,h⟩:=h;go_enter Tryz.func130,Tryz.ntmps130
 go_wp2;go_loopw [3,7] (fun j i wr=>∃k:Nat,k<=ds.length/\i = .int .i64 k/\Hid (Et ds k=true)/\AC w wr) (fun _ i _=>ds.length-(intOf i).toNat)
 case atStart=>exact⟨0,Nat.zero_le _,rfl,Lib.hid rfl,AC.refl _⟩
 case round=>
  obtain⟨k,hk,rfl,hm,hK⟩:=hrel;by_cases hlt:k<ds.length
  ·
   rcases h with h|⟨b,o,rfl,hb,hc⟩
   . exfalso;rw[h] at hlt;simp at hlt
   obtain⟨A0,A1,A2,A3⟩:=(hc k hlt).keep hb hK;have hbw:b<wr.heap.size:=Nat.lt_of_lt_of_le hb hK.size;have i1:(0:Int)<=(k:Int):=Int.natCast_nonneg _;have i2:(k:Int)<(ds.length:Int):=by omega
   have HP:Hid (G7 ds k=(decide (0<k)&&(Ot (ds.getD k zD) != Ot (ds.getD (k-1) zD))&&Ef (gK ds k) (Ot (ds.getD k zD)))):=Lib.hid rfl;by_cases h0:k=0
   ·
    have HT:=Lib.hid (TD hm.out (by rw[HP.out];simp[h0]));have d0:decide (0<k)=false:=by simp[h0]
    clear hm HP hc;obtain⟨d,hd⟩:∃d,d=ds.getD k zD:=⟨_,rfl⟩;rw[<-hd] at A0 A1 A2 A3;clear hd h0;obtain⟨x0,x1,x2,x3⟩:=d;simp only at A0 A1 A2 A3;go_wp2;go_quiet (fail)
    go_wp2;go_roundw;case rel=>exact⟨k+1,by omega,by go_num,HT,(hK.alloc _).drewN _⟩
    case measure=>simp[intOf];omega
   ·
    obtain⟨r,rfl⟩:∃r:Nat,k=r+1:=⟨k-1,by omega⟩;rw[Nat.add_sub_cancel] at HP;have B3:=((hc r (by omega)).keep hb hK).2.2.2;have RT:IY w (.slice (some ⟨b,o,none⟩) (r+1) (ds.length+c)) (ds.take (r+1)):=IY.cut (by omega) hb hc;have HG:=Lib.hid (af ds (r+1) (by omega));have HL:=Lib.hid (show (ds.take (r+1)).length=r+1 by rw[List.length_take];omega);clear hc;have j1:(0:Int)<=(r:Int):=Int.natCast_nonneg _;have j2:(r:Int)<(ds.length:Int):=by omega
    have d2:(r:Int)+1<(ds.length:Int):=by omega
    have d5:(r:Int)+1<=(ds.length:Int)+(c:Int):=by omega
    have d6:(0:Int)<=(r:Int)+1:=by omega
    have d7:((r+1:Nat):Int)<=((ds.length+c:Nat):Int):=by omega
    have d3:IntKind.i64.wrap (r:Int)=(r:Int):=by rw[IntKind.wrap_i64];omega
    have d4:wrap64 (r:Int)=(r:Int):=Dl _ (by omega) (by omega);obtain⟨d,hd⟩:∃d,d=ds.getD (r+1) zD:=⟨_,rfl⟩;rw[<-hd] at A0 A1 A2 A3 HP;clear hd;obtain⟨p,hp⟩:∃p,p=(ds.getD r zD).2.2.2:=⟨_,rfl⟩;rw[<-hp] at B3;have HQ:Hid (Ot (ds.getD r zD)=p):=Lib.hid (by rw[hp];rfl);clear hp;rw[HQ.out] at HP;clear HQ;obtain⟨x0,x1,x2,x3⟩:=d;unfold Ot at HP;simp only at A0 A1 A2 A3 HP;by_cases he:x3=p
    ·
     subst he;have HT:=Lib.hid (TD hm.out (by rw[HP.out];simp));have ne:(x3 != x3)=false:=by simp
     clear HP hm;go_wp2;go_quiet (fail)
     go_wp2;go_roundw;case rel=>exact⟨r+1+1,by omega,by go_num,HT,(hK.alloc _).drewN _⟩
     case measure=>simp[intOf];omega
    ·
     have ne:(x3 != p)=true:=by simp[he]
     clear he;cases hin:Ef (gK ds (r+1)) x3
     ·
      have HT:=Lib.hid (TD hm.out (by rw[HP.out,hin];simp));clear HP hm;go_wp2;have KK:AC w ((wr.alloc (Uw x0 x1 x2 x3)).drew):=(hK.alloc _).drew;have z1:wr.heap.size<((wr.alloc (Uw x0 x1 x2 x3)).drew).heap.size:=by rw[Au,AD];omega
      have z2:b<((wr.alloc (Uw x0 x1 x2 x3)).drew).heap.size:=by rw[Au,AD];omega
      go_region_held3 (fun w'=>w'.cell? ⟨wr.heap.size,3,none⟩=some (.int .i64 x3)/\w'.cell? ⟨b,o+r*4+3,none⟩=some (.int .i64 p))
       (first|go_keep|(go_split_ands;refine⟨?_,?_⟩<;>(rw[kk.cell (by assumption)];assumption)))
       ((first
        | (go_at_call 128;refine (Ee _ _ _ (RT.keep KK) (by rw[HL.out];omega)).mono ?_;rw[HG.out];rintro e wz ⟨rfl,kk⟩;have KK:=KK.trans kk;have z1:=Nat.lt_of_lt_of_le z1 kk.size;have z2:=Nat.lt_of_lt_of_le z2 kk.size)
        | (go_at_call 159;refine (Tr _ _ _).mono ?_;rintro e wy ⟨rfl,rfl⟩)))
      all_goals
       go_wp2;go_roundw;case rel=>exact⟨r+1+1,by omega,by go_num,HT,KK⟩
       case measure=>simp[intOf];omega
     ·
      have HT:=Lib.hid (fI hlt (by rw[HP.out,hin,ne];simp));clear HP hm;go_wp2;have KK:AC w ((wr.alloc (Uw x0 x1 x2 x3)).drew):=(hK.alloc _).drew;have z1:wr.heap.size<((wr.alloc (Uw x0 x1 x2 x3)).drew).heap.size:=by rw[Au,AD];omega
      have z2:b<((wr.alloc (Uw x0 x1 x2 x3)).drew).heap.size:=by rw[Au,AD];omega
      go_region_held3 (fun w'=>w'.cell? ⟨wr.heap.size,3,none⟩=some (.int .i64 x3)/\w'.cell? ⟨b,o+r*4+3,none⟩=some (.int .i64 p))
       (first|go_keep|(go_split_ands;refine⟨?_,?_⟩<;>(rw[kk.cell (by assumption)];assumption)))
       ((first
        | (go_at_call 128;refine (Ee _ _ _ (RT.keep KK) (by rw[HL.out];omega)).mono ?_;rw[HG.out];rintro e wz ⟨rfl,kk⟩;have KK:=KK.trans kk;have z1:=Nat.lt_of_lt_of_le z1 kk.size;have z2:=Nat.lt_of_lt_of_le z2 kk.size)
        | (go_at_call 159;refine (Tr _ _ _).mono ?_;rintro e wy ⟨rfl,rfl⟩)))
      all_goals
       go_wp2;go_ret;exact⟨by rw[HT.out];rfl,KK⟩
  ·
   obtain rfl:k=ds.length:=by omega
   go_wp2;go_ret;exact⟨by rw[hm.out];rfl,hK⟩
abbrev nO (v:Value)(t:Int):Obj:= .cells #[v,.int .i64 t] 169
theorem Ss {ds:List Dd}{t:Int}(h5:ds.length<=5)(ha:ds.all Eu=true)(ht:Et ds ds.length=true)(h0:(bits .and .i64 (gC ds) t==0)=true):Cd ds t=true:=by
 rw[Cd,decide_eq_true h5,ha,ht,h0];rfl
theorem Kf (w:World)(v:Value)(t:Int)(ds:List Dd)(h:IY w v ds)(hx:ds.length<=1048576):
  Calls Tryz.prog 100 #[.agg #[v,.int .i64 t]] w fun e w'=>e = .returned (.bool (Cd ds t))/\AC w w':=by
 have KK:AC w ((w.alloc (nO v t)).drew):=((AC.refl w).alloc _).drew;have z1:w.heap.size<((w.alloc (nO v t)).drew).heap.size:=by rw[Au,AD];omega
 obtain⟨a,c,hv,-⟩:=id h;subst hv;by_cases h5:ds.length<=5
 ·
  have e5:decide (ds.length<=5)=true:=decide_eq_true h5;have e5':decide ((ds.length:Int)<=5)=true:=decide_eq_true (by omega);have g5:(ds.length:Int)<=5:=by omega
  cases ha:ds.all Eu
  ·
   have HE:Hid (Cd ds t=false):=Lib.hid (by rw[Cd,ha];simp);go_enter Tryz.func100,Tryz.ntmps100
   go_wp2;refine wp_region_held_drew (S:=(fun w'=>w'.cell? ⟨w.heap.size,0,none⟩=some (.slice a ds.length (ds.length+c))/\w'.cell? ⟨w.heap.size,1,none⟩=some (.int .i64 t))) (by kernel_rfl) ?_ (fun hHeld=>?_)
   . go_keep
   refine Ar 0 3 (v:=?_) ?_ ?_;rotate_left
   ·
    intro wx hSw;go_simp;with_reducible rfl
   refine Ar 1 4 (v:=?_) ?_ ?_;rotate_left
   ·
    intro wx hSw;go_simp;with_reducible rfl
   simp only[Act.put,List.setIfInBounds_toArray,List.set_cons_zero,List.set_cons_succ];refine wpAnyH_ready (rs:=[2]) (by kernel_rfl) (by simp) ?_;refine AllReadyH.cons rfl (fun K hK=>?_) AllReadyH.nil;go_simp;refine (C8 _ _ _ _).mono ?_;rintro e wz ⟨rfl,rfl⟩;go_wp2_with fail
   refine hK.out _ _ ?_ (fun hHeld=>?_)
   . exact hHeld
   clear hK K;refine Ar 3 6 (v:=?_) ?_ ?_;rotate_left
   ·
    intro wx hSw;go_simp;with_reducible rfl
   refine Ar 4 7 (v:=?_) ?_ ?_;rotate_left
   ·
    intro wx hSw;go_simp;with_reducible rfl
   refine Ar 5 8 (v:=?_) ?_ ?_;rotate_left
   ·
    intro wx hSw;go_simp;with_reducible rfl
   refine Ar 6 9 (v:=?_) ?_ ?_;rotate_left
   ·
    intro wx hSw;go_simp;with_reducible rfl
   simp only[Act.put,List.setIfInBounds_toArray,List.set_cons_zero,List.set_cons_succ];refine wpAnyH_ready (rs:=[7]) (by kernel_rfl) (by simp) ?_;refine AllReadyH.cons rfl (fun K hK=>?_) AllReadyH.nil;go_simp;refine (EO _ _ _ (h.keep KK) hx).mono ?_;rw[ha];rintro e wz1 ⟨rfl,kk⟩;have z0:=z1;have KK:=KK.trans kk;have z1:=Nat.lt_of_lt_of_le z1 kk.size;go_wp2_with fail
   refine hK.out _ _ ?_ (fun hHeld=>?_)
   . exact⟨(kk.cell z0).trans hHeld.1,(kk.cell z0).trans hHeld.2⟩
   clear hK K;refine Ar 8 11 (v:=?_) ?_ ?_;rotate_left
   ·
    intro wx hSw;go_simp;with_reducible rfl
   refine Ar 9 12 (v:=?_) ?_ ?_;rotate_left
   ·
    intro wx hSw;go_simp;with_reducible rfl
   simp only[Act.put,List.setIfInBounds_toArray,List.set_cons_zero,List.set_cons_succ];refine C5 10 13 rfl rfl (by kernel_rfl) (by kernel_rfl) (by kernel_rfl) (fun _ _ _ h=>h) (by rfl) (by assumption) ?_;simp only[Act.put,List.setIfInBounds_toArray,List.set_cons_zero,List.set_cons_succ];refine C5 11 14 rfl rfl (by kernel_rfl) (by kernel_rfl) (by kernel_rfl) (fun _ _ _ h=>h) (by rfl) (by assumption) ?_;simp only[Act.put,List.setIfInBounds_toArray,List.set_cons_zero,List.set_cons_succ];refine C5 12 15 rfl rfl (by kernel_rfl) (by kernel_rfl) (by kernel_rfl) (fun _ _ _ h=>h) (by rfl) (by assumption) ?_;refine Ar 13 16 (v:=?_) ?_ ?_;rotate_left
   ·
    intro wx hSw;go_simp;with_reducible rfl
   refine Ar 14 17 (v:=?_) ?_ ?_;rotate_left
   ·
    intro wx hSw;go_simp;with_reducible rfl
   simp only[Act.put,List.setIfInBounds_toArray,List.set_cons_zero,List.set_cons_succ];refine C5 15 18 rfl rfl (by kernel_rfl) (by kernel_rfl) (by kernel_rfl) (fun _ _ _ h=>h) (by rfl) (by assumption) ?_;simp only[Act.put,List.setIfInBounds_toArray,List.set_cons_zero,List.set_cons_succ];refine C5 16 19 rfl rfl (by kernel_rfl) (by kernel_rfl) (by kernel_rfl) (fun _ _ _ h=>h) (by rfl) (by assumption) ?_;simp only[Act.put,List.setIfInBounds_toArray,List.set_cons_zero,List.set_cons_succ];refine C5 17 20 rfl rfl (by kernel_rfl) (by kernel_rfl) (by kernel_rfl) (fun _ _ _ h=>h) (by rfl) (by assumption) ?_;simp only[Act.put,List.setIfInBounds_toArray,List.set_cons_zero,List.set_cons_succ];refine C5 18 21 rfl rfl (by kernel_rfl) (by kernel_rfl) (by kernel_rfl) (fun _ _ _ h=>h) (by rfl) (by assumption) ?_;simp only[Act.put,List.setIfInBounds_toArray,List.set_cons_zero,List.set_cons_succ];refine C5 19 22 rfl rfl (by kernel_rfl) (by kernel_rfl) (by kernel_rfl) (fun _ _ _ h=>h) (by rfl) (by assumption) ?_;simp only[Act.put,List.setIfInBounds_toArray,List.set_cons_zero,List.set_cons_succ];refine C5 20 23 rfl rfl (by kernel_rfl) (by kernel_rfl) (by kernel_rfl) (fun _ _ _ h=>h) (by rfl) (by assumption) ?_;simp only[Act.put,List.setIfInBounds_toArray,List.set_cons_zero,List.set_cons_succ];refine C5 21 24 rfl rfl (by kernel_rfl) (by kernel_rfl) (by kernel_rfl) (fun _ _ _ h=>h) (by rfl) (by assumption) ?_;refine Ar 22 25 (v:=?_) ?_ ?_;rotate_left
   ·
    intro wx hSw;go_simp;with_reducible rfl
   refine Ar 23 2 (v:=?_) ?_ ?_;rotate_left
   ·
    intro wx hSw;go_simp;with_reducible rfl
   simp only[Act.put,List.setIfInBounds_toArray,List.set_cons_zero,List.set_cons_succ];refine wpAnyH_done (by kernel_rfl) ?_ _;go_wp2;go_ret;exact⟨by rw[HE.out];rfl,KK⟩
  ·
   cases ht:Et ds ds.length
   ·
    have HE:Hid (Cd ds t=false):=Lib.hid (by rw[Cd,ht];simp);go_enter Tryz.func100,Tryz.ntmps100
    go_wp2;refine wp_region_held_drew (S:=(fun w'=>w'.cell? ⟨w.heap.size,0,none⟩=some (.slice a ds.length (ds.length+c))/\w'.cell? ⟨w.heap.size,1,none⟩=some (.int .i64 t))) (by kernel_rfl) ?_ (fun hHeld=>?_)
    . go_keep
    refine Ar 0 3 (v:=?_) ?_ ?_;rotate_left
    ·
     intro wx hSw;go_simp;with_reducible rfl
    refine Ar 1 4 (v:=?_) ?_ ?_;rotate_left
    ·
     intro wx hSw;go_simp;with_reducible rfl
    simp only[Act.put,List.setIfInBounds_toArray,List.set_cons_zero,List.set_cons_succ];refine wpAnyH_ready (rs:=[2]) (by kernel_rfl) (by simp) ?_;refine AllReadyH.cons rfl (fun K hK=>?_) AllReadyH.nil;go_simp;refine (C8 _ _ _ _).mono ?_;rintro e wz ⟨rfl,rfl⟩;go_wp2_with fail
    refine hK.out _ _ ?_ (fun hHeld=>?_)
    . exact hHeld
    clear hK K;refine Ar 3 6 (v:=?_) ?_ ?_;rotate_left
    ·
     intro wx hSw;go_simp;with_reducible rfl
    refine Ar 4 7 (v:=?_) ?_ ?_;rotate_left
    ·
     intro wx hSw;go_simp;with_reducible rfl
    refine Ar 5 8 (v:=?_) ?_ ?_;rotate_left
    ·
     intro wx hSw;go_simp;with_reducible rfl
    refine Ar 6 9 (v:=?_) ?_ ?_;rotate_left
    ·
     intro wx hSw;go_simp;with_reducible rfl
    simp only[Act.put,List.setIfInBounds_toArray,List.set_cons_zero,List.set_cons_succ];refine wpAnyH_ready (rs:=[7]) (by kernel_rfl) (by simp) ?_;refine AllReadyH.cons rfl (fun K hK=>?_) AllReadyH.nil;go_simp;refine (EO _ _ _ (h.keep KK) hx).mono ?_;rw[ha];rintro e wz1 ⟨rfl,kk⟩;have z0:=z1;have KK:=KK.trans kk;have z1:=Nat.lt_of_lt_of_le z1 kk.size;go_wp2_with fail
    refine hK.out _ _ ?_ (fun hHeld=>?_)
    . exact⟨(kk.cell z0).trans hHeld.1,(kk.cell z0).trans hHeld.2⟩
    clear hK K;refine Ar 8 11 (v:=?_) ?_ ?_;rotate_left
    ·
     intro wx hSw;go_simp;with_reducible rfl
    refine Ar 9 12 (v:=?_) ?_ ?_;rotate_left
    ·
     intro wx hSw;go_simp;with_reducible rfl
    refine Ar 10 13 (v:=?_) ?_ ?_;rotate_left
    ·
     intro wx hSw;go_simp;with_reducible rfl
    refine Ar 11 14 (v:=?_) ?_ ?_;rotate_left
    ·
     intro wx hSw;go_simp;with_reducible rfl
    simp only[Act.put,List.setIfInBounds_toArray,List.set_cons_zero,List.set_cons_succ];refine wpAnyH_ready (rs:=[12]) (by kernel_rfl) (by simp) ?_;refine AllReadyH.cons rfl (fun K hK=>?_) AllReadyH.nil;go_simp;refine (EB _ _ _ (h.keep KK) hx).mono ?_;rw[ht];rintro e wz2 ⟨rfl,kk⟩;have z0:=z1;have KK:=KK.trans kk;have z1:=Nat.lt_of_lt_of_le z1 kk.size;go_wp2_with fail
    refine hK.out _ _ ?_ (fun hHeld=>?_)
    . exact⟨(kk.cell z0).trans hHeld.1,(kk.cell z0).trans hHeld.2⟩
    clear hK K;refine Ar 13 16 (v:=?_) ?_ ?_;rotate_left
    ·
     intro wx hSw;go_simp;with_reducible rfl
    refine Ar 14 17 (v:=?_) ?_ ?_;rotate_left
    ·
     intro wx hSw;go_simp;with_reducible rfl
    simp only[Act.put,List.setIfInBounds_toArray,List.set_cons_zero,List.set_cons_succ];refine C5 15 18 rfl rfl (by kernel_rfl) (by kernel_rfl) (by kernel_rfl) (fun _ _ _ h=>h) (by rfl) (by assumption) ?_;simp only[Act.put,List.setIfInBounds_toArray,List.set_cons_zero,List.set_cons_succ];refine C5 16 19 rfl rfl (by kernel_rfl) (by kernel_rfl) (by kernel_rfl) (fun _ _ _ h=>h) (by rfl) (by assumption) ?_;simp only[Act.put,List.setIfInBounds_toArray,List.set_cons_zero,List.set_cons_succ];refine C5 17 20 rfl rfl (by kernel_rfl) (by kernel_rfl) (by kernel_rfl) (fun _ _ _ h=>h) (by rfl) (by assumption) ?_;simp only[Act.put,List.setIfInBounds_toArray,List.set_cons_zero,List.set_cons_succ];refine C5 18 21 rfl rfl (by kernel_rfl) (by kernel_rfl) (by kernel_rfl) (fun _ _ _ h=>h) (by rfl) (by assumption) ?_;simp only[Act.put,List.setIfInBounds_toArray,List.set_cons_zero,List.set_cons_succ];refine C5 19 22 rfl rfl (by kernel_rfl) (by kernel_rfl) (by kernel_rfl) (fun _ _ _ h=>h) (by rfl) (by assumption) ?_;simp only[Act.put,List.setIfInBounds_toArray,List.set_cons_zero,List.set_cons_succ];refine C5 20 23 rfl rfl (by kernel_rfl) (by kernel_rfl) (by kernel_rfl) (fun _ _ _ h=>h) (by rfl) (by assumption) ?_;simp only[Act.put,List.setIfInBounds_toArray,List.set_cons_zero,List.set_cons_succ];refine C5 21 24 rfl rfl (by kernel_rfl) (by kernel_rfl) (by kernel_rfl) (fun _ _ _ h=>h) (by rfl) (by assumption) ?_;refine Ar 22 25 (v:=?_) ?_ ?_;rotate_left
    ·
     intro wx hSw;go_simp;with_reducible rfl
    refine Ar 23 2 (v:=?_) ?_ ?_;rotate_left
    ·
     intro wx hSw;go_simp;with_reducible rfl
    simp only[Act.put,List.setIfInBounds_toArray,List.set_cons_zero,List.set_cons_succ];refine wpAnyH_done (by kernel_rfl) ?_ _;go_wp2;go_ret;exact⟨by rw[HE.out];rfl,KK⟩
   ·
    cases h0:(bits .and .i64 (gC ds) t==0)
    ·
     have HE:Hid (Cd ds t=false):=Lib.hid (by rw[Cd,h0];simp);go_enter Tryz.func100,Tryz.ntmps100
     go_wp2
     go_region_held3 (fun w'=>w'.cell? ⟨w.heap.size,0,none⟩=some (.slice a ds.length (ds.length+c))/\w'.cell? ⟨w.heap.size,1,none⟩=some (.int .i64 t))
      (first|go_keep|(go_split_ands;refine⟨?_,?_⟩<;>(rw[kk.cell (by assumption)];assumption)))
      ((first
       | (go_at_call 101;refine (C8 _ _ _ _).mono ?_;rintro e wz ⟨rfl,rfl⟩)
       | (go_at_call 129;refine (EO _ _ _ (h.keep KK) hx).mono ?_;rintro e wz ⟨rfl,kk⟩;have KK:=KK.trans kk;have z1:=Nat.lt_of_lt_of_le z1 kk.size)
       | (go_at_call 130;refine (EB _ _ _ (h.keep KK) hx).mono ?_;rintro e wz ⟨rfl,kk⟩;have KK:=KK.trans kk;have z1:=Nat.lt_of_lt_of_le z1 kk.size)
       | (go_at_call 128;refine (Ee _ _ _ (h.keep KK) hx).mono ?_;rintro e wz ⟨rfl,kk⟩;have KK:=KK.trans kk;have z1:=Nat.lt_of_lt_of_le z1 kk.size)
       | (go_at_call 131;refine (Km _ _ _).mono ?_;rintro e wz ⟨rfl,rfl⟩)))
     all_goals
      go_wp2;go_ret;exact⟨by rw[HE.out];rfl,KK⟩
    ·
     have HE:Hid (Cd ds t=true):=Lib.hid (Ss h5 ha ht h0);go_enter Tryz.func100,Tryz.ntmps100
     go_wp2
     go_region_held3 (fun w'=>w'.cell? ⟨w.heap.size,0,none⟩=some (.slice a ds.length (ds.length+c))/\w'.cell? ⟨w.heap.size,1,none⟩=some (.int .i64 t))
      (first|go_keep|(go_split_ands;refine⟨?_,?_⟩<;>(rw[kk.cell (by assumption)];assumption)))
      ((first
       | (go_at_call 101;refine (C8 _ _ _ _).mono ?_;rintro e wz ⟨rfl,rfl⟩)
       | (go_at_call 129;refine (EO _ _ _ (h.keep KK) hx).mono ?_;rintro e wz ⟨rfl,kk⟩;have KK:=KK.trans kk;have z1:=Nat.lt_of_lt_of_le z1 kk.size)
       | (go_at_call 130;refine (EB _ _ _ (h.keep KK) hx).mono ?_;rintro e wz ⟨rfl,kk⟩;have KK:=KK.trans kk;have z1:=Nat.lt_of_lt_of_le z1 kk.size)
       | (go_at_call 128;refine (Ee _ _ _ (h.keep KK) hx).mono ?_;rintro e wz ⟨rfl,kk⟩;have KK:=KK.trans kk;have z1:=Nat.lt_of_lt_of_le z1 kk.size)
       | (go_at_call 131;refine (Km _ _ _).mono ?_;rintro e wz ⟨rfl,rfl⟩)))
     all_goals
      go_wp2;go_ret;exact⟨by rw[HE.out];rfl,KK⟩
 ·
  have e5:decide (ds.length<=5)=false:=decide_eq_false h5;have e5':decide ((ds.length:Int)<=5)=false:=decide_eq_false (by omega);have HE:Hid (Cd ds t=false):=Lib.hid (by rw[Cd,e5];rfl);go_enter Tryz.func100,Tryz.ntmps100
  go_wp2;go_quiet ((go_at_call 101;exact Calls.quiet_of_same (C8 _ _ _ _)))
  go_wp2;go_ret;exact⟨by rw[HE.out];rfl,((AC.refl w).alloc _).drewN _⟩
theorem Tryz.pE:(Tryz.prog.info? 169).map (fun i=>(i.zero,i.size,i.bytes))=some (some (.agg #[.slice none 0 0,.int .i64 0]),2,32):=by kernel_rfl
abbrev fw (v:Value)(t:Int):Obj:= .cells #[v,.int .i64 t] 169
def wW (w:World)(v:Value)(AA:List (List Dd)):Prop:=
 ∃(a:Option Addr) (cap:Nat),v = .slice a AA.length cap /\
  (AA=[]\/∃b,a=some ⟨b,0,none⟩/\b<w.heap.size/\∀i,i<AA.length->∃vi,w.cell? ⟨b,i*2,none⟩=some vi/\IY w vi (AA.getD i [])/\w.cell? ⟨b,i*2+1,none⟩=some (.int .i64 (Fl AA i)))
def JO (V:Nat->Value)(AA:List (List Dd))(k:Nat):List Value:=(List.range k).flatMap fun i=>[V i,.int .i64 (Fl AA i)]
theorem Ig (V:Nat->Value)(AA:List (List Dd))(k:Nat):JO V AA (k+1)=JO V AA k++[V k,.int .i64 (Fl AA k)]:=by
 unfold JO;rw[List.range_succ,List.flatMap_append];simp
theorem Jy (V:Nat->Value)(AA:List (List Dd)):∀k,(JO V AA k).length=k*2
 | 0=>rfl
 |k+1=>by rw[Ig,List.length_append,Jy V AA k];simp;omega
theorem Lj (V:Nat->Value)(AA:List (List Dd)):∀k i,i<k->(JO V AA k)[i*2]? = some (V i)/\(JO V AA k)[i*2+1]? = some (.int .i64 (Fl AA i))
 | 0,i,h=>by omega
 |k+1,i,h=>by
  rw[Ig];by_cases e:i<k
  ·
   have ih:=Lj V AA k i e;have hl:=Jy V AA k;rw[List.getElem?_append_left (by omega),List.getElem?_append_left (by omega)];exact ih
  ·
   obtain rfl:i=k:=by omega
   have hl:=Jy V AA i;rw[List.getElem?_append_right (by omega),List.getElem?_append_right (by omega),hl];simp
theorem jf {w0 w:World}{base:Nat}{v:Value}{V:Nat->Value}{AA:List (List Dd)}(h:w.ownsRow base 169 2 v AA.length (JO V AA AA.length))(k:AC w0 w)(hV:∀i,i<AA.length->IY w0 (V i) (AA.getD i [])):wW w v AA:=by
 have h2:=h;have hlt:=World.ownsRow.lt h;rcases h.2 with ⟨rfl,hn⟩|⟨g,cap,cur,rfl,hb,hg,_,_,hs,_⟩
 ·
  have:AA=[]:=List.eq_nil_of_length_eq_zero hn;subst this;exact⟨none,0,rfl,.inl rfl⟩
 ·
  refine⟨_,_,rfl,.inr ⟨g,rfl,(hlt g rfl).2,fun i hi=>?_⟩⟩;have hc:=Lj V AA AA.length i hi;have c1:=World.ownsRow.cellAt h2 (i*2) (by omega);have c2:=World.ownsRow.cellAt h2 (i*2+1) (by omega);exact⟨V i,by rw[c1,hc.1],(hV i hi).keep k,by rw[c2,hc.2]⟩
theorem JP (w0 w:World)(kw:AC w0 w)(v:Value)(AA:List (List Dd))(h:Fo w0 v AA)(hx:AA.length<=3)(hm:∀i,i<AA.length->(AA.getD i []).length<=1048576):
  Calls Tryz.prog 99 #[v] w fun e w'=>∃v',e = .returned v'/\(∃V:Nat->Value,w'.ownsRow w.heap.size 169 2 v' AA.length (JO V AA AA.length)/\∀i,i<AA.length->IY w0 (V i) (AA.getD i []))/\AC w w':=by
 obtain⟨a,c,rfl,h⟩:=h;have start:(w.alloc (.cells #[] 169)).ownsRow w.heap.size 169 2 (.slice (some ⟨w.heap.size,0,none⟩) 0 0) 0 []:=World.ownsRow_lit w #[] 0 (Nat.le_refl _) (by decide) rfl;obtain⟨i0,hi,hz0,hz1,hz2⟩:=info_parts Tryz.pE
 obtain⟨V,hV⟩:∃V:Nat->Value,∀i,i<AA.length->IY w0 (V i) (AA.getD i [])/\∀b o,a=some ⟨b,o,none⟩->b<w0.heap.size/\w0.cell? ⟨b,o+i,none⟩=some (V i):=by
  rcases h with h|⟨b,o,rfl,hb,hc⟩
  . exact⟨fun _=>Value.bool false,fun i hi=>by rw[h] at hi;simp at hi⟩
  ·
   obtain⟨V,hV⟩:=Deep.choose_lt hc;refine⟨V,fun i hi=>⟨(hV i hi).2,fun b' o' e=>?_⟩⟩;simp only[Option.some.injEq,Addr.mk.injEq,and_true] at e;obtain⟨rfl,rfl⟩:=e;exact⟨hb,(hV i hi).1⟩
 have hA:AA.length=0\/∃b o,a=some ⟨b,o,none⟩:=by
  rcases h with h|⟨b,o,rfl,hb,hc⟩
  . left;rw[h];rfl
  . exact .inr ⟨b,o,rfl⟩
 clear h;go_enter Tryz.func99,Tryz.ntmps99
 go_wp2;go_loopw [3,4,11] (fun x t i wr=>∃k:Nat,k<=AA.length/\i = .int .i64 k/\t = .int .i64 (Fl AA k)/\wr.ownsRow w.heap.size 169 2 x k (JO V AA k)/\AC w wr) (fun _ _ i _=>AA.length-(intOf i).toNat)
 case atStart=>exact⟨0,Nat.zero_le _,rfl,rfl,start,(AC.refl w).alloc _⟩
 case round=>
  obtain⟨k,hk,rfl,rfl,ho,hK⟩:=hrel;clear start;by_cases hlt:k<AA.length
  ·
   obtain⟨b,o,rfl⟩:∃b o,a=some ⟨b,o,none⟩:=hA.resolve_left (by omega);obtain⟨hR,hC⟩:=hV k hlt;obtain⟨hb,hC⟩:=hC b o rfl;have hmk:=hm k hlt;have HM:=Lib.hid (Ig V AA k);have HT:Hid (Fl AA (k+1)=bits .or .i64 (Fl AA k) (gC (AA.getD k []))):=Lib.hid rfl;have HV:=Lib.hid hV;clear hV hm hA;obtain⟨ds,hds⟩:∃ds,ds=AA.getD k []:=⟨_,rfl⟩;rw[<-hds] at hR hmk HT;clear hds;generalize Fl AA k=t at HM HT;have hK0:=kw.trans hK;have d1:=(hK0.cell hb).trans hC;have R1:=hR.keep hK0;obtain⟨u,hu⟩:∃u,u=V k:=⟨_,rfl⟩;rw[<-hu] at d1 R1 HM;have R0:=hR;rw[<-hu] at R0;clear hu hC hR;obtain⟨ai,ci,rfl,-⟩:=id R1;have hbw:b<wr.heap.size:=Nat.lt_of_lt_of_le hb hK0.size;have hsz:=hK.size;have i1:(0:Int)<=(k:Int):=Int.natCast_nonneg _;have i2:(k:Int)<(AA.length:Int):=by omega
   have ho2:=World.ownsRow.kept ho (((AC.refl wr).alloc (fw (.slice ai ds.length (ds.length+ci)) t)).alloc (.cells #[.slice ai ds.length (ds.length+ci),.int .i64 t] 169)).grownBy (by cases u3.ownBlock<;>simp);go_wp2_with (at_builtin;refine wpList_append_own_at _ rfl _ _ 164 rfl w.heap.size 169 i0 (.agg #[.slice none 0 0,.int .i64 0]) 2 32 Tryz.underlying164 hi hz0 hz1 hz2 rfl (by decide) _ _ _ rfl ho2 ⟨_,0,none⟩ 1 1 [.slice ai ds.length (ds.length+ci),.int .i64 t] rfl rfl ?c1 ?c2 ?c3 ?c4 ?c5 ?_)
   case c1=>
    intro j u hj
    match j,hj with
    | 0,hj=>simp at hj;subst hj;simp[Addr.add]
    | 1,hj=>simp at hj;subst hj;simp[Addr.add]
    |n+2,hj=>simp at hj
   case c2=>intro u hu;simp at hu;rcases hu with rfl|rfl<;>rfl
   case c3=>unfold maxLen;first|omega|(simp;omega)
   case c4=>first|omega|(simp;omega)
   case c5=>first|omega|(simp;omega)
   intro v' w2 hown' hgrow _ _;rw[<-HM.out] at hown';have hK2:AC w w2:=((hK.alloc _).alloc _).grown hgrow (fun g hg=>(World.ownsRow.lt ho g hg).1)
   have oK:w2.heap[wr.heap.size]? = some (fw (.slice ai ds.length (ds.length+ci)) t):=
    (hgrow.block wr.heap.size (by rw[AD,AD];omega) (fun e=>by have:=(World.ownsRow.lt ho _ e.symm).2;omega)).trans (by rw[Bt,if_neg (by rw[AD];omega),Bt,if_pos rfl])
   have b0:w2.cell? ⟨wr.heap.size,0,none⟩=some (.slice ai ds.length (ds.length+ci)):=by rw[cell_of_row w2 _ 0 _ _ (0,0) oK];rfl
   have R2:=R0.keep (kw.trans hK2);clear hgrow oK;go_wp2_with fail
   refine (Ee _ _ _ R2 hmk).mono ?_;rintro e w3 ⟨rfl,k3⟩;have ho3:=World.ownsRow.kept hown' k3.grownBy (by cases v'.ownBlock<;>simp);go_wp2_with fail
   refine (S6 _ _ _).mono ?_;rintro e w4 ⟨rfl,rfl⟩;go_wp2;go_roundw;case rel=>exact⟨k+1,by omega,by go_num,by rw[HT.out],ho3,hK2.trans k3⟩
   case measure=>simp[intOf];omega
  ·
   obtain rfl:k=AA.length:=by omega
   go_wp2;go_ret;exact⟨_,rfl,⟨V,ho,fun i hi=>(hV i hi).1⟩,hK⟩
theorem Ol (w:World)(v:Value)(AA:List (List Dd))(h:Fo w v AA)(hx:AA.length<=3)(hm:∀i,i<AA.length->(AA.getD i []).length<=1048576):
  Calls Tryz.prog 99 #[v] w fun e w'=>∃v',e = .returned v'/\wW w' v' AA/\AC w w':=
 (JP w w (AC.refl w) v AA h hx hm).mono fun _ _ ⟨v',he,⟨_,ho,hV⟩,hK⟩=>⟨v',he,jf ho hK hV,hK⟩
def iB (w0 wc w:World)(v:Value)(AA:List (List Dd)):Prop:=
 ∃(b c:Nat) (V:Nat->Value),v = .slice (some ⟨b,0,none⟩) AA.length c/\wc.heap.size<=b/\b<w.heap.size /\
  ∀i,i<AA.length->IY w0 (V i) (AA.getD i [])/\w.cell? ⟨b,i*2,none⟩=some (V i)/\w.cell? ⟨b,i*2+1,none⟩=some (.int .i64 (Fl AA i))
theorem QS (w0 w:World)(kw:AC w0 w)(v:Value)(AA:List (List Dd))(h:Fo w0 v AA)(h1:1<=AA.length)(hx:AA.length<=3)(hm:∀i,i<AA.length->(AA.getD i []).length<=1048576):
  Calls Tryz.prog 99 #[v] w fun e w'=>∃v',e = .returned v'/\iB w0 w w' v' AA/\AC w w':=by
 refine (JP w0 w kw v AA h hx hm).mono fun _ w' ⟨v',he,⟨V,ho,hV⟩,hK⟩=>⟨v',he,?_,hK⟩
 have hlt:=World.ownsRow.lt ho;have h2:=ho;rcases ho.2 with ⟨_,hn⟩|⟨g,cap,cur,rfl,hb,hg,_,_,hs,_⟩
 . omega
 ·
  refine⟨g,cap,V,rfl,hb,(hlt g rfl).2,fun i hi=>?_⟩;have hc:=Lj V AA AA.length i hi;have c1:=World.ownsRow.cellAt h2 (i*2) (by omega);have c2:=World.ownsRow.cellAt h2 (i*2+1) (by omega);exact⟨hV i hi,by rw[c1,hc.1],by rw[c2,hc.2]⟩
theorem MG (d:List Dd):∀l:List (List Dd),Bs (l++[d])=Bs l+d.length
 | []=>by simp[Bs]
 |x::r=>by rw[List.cons_append,Bs,Bs,MG d r];omega
theorem TB {α:Type}(l:List α)(k:Nat)(z:α)(h:k<l.length):l.take (k+1)=l.take k++[l.getD k z]:=by
 rw[List.take_add_one,List.getElem?_eq_getElem h,List.getD_eq_getElem?_getD,List.getElem?_eq_getElem h];rfl
theorem Sr {ds:List Dd}{t:Int}(h:Cd ds t=true):ds.length<=5:=by
 simp only[Cd,Bool.and_eq_true,decide_eq_true_eq] at h;exact h.1.1.1
theorem CV (w:World)(v:Value)(AA:List (List Dd))(h:Fo w v AA)(hx:AA.length<=1048576)(hm:∀i,i<AA.length->(AA.getD i []).length<=1048576):
  Calls Tryz.prog 67 #[v] w fun e w'=>e = .returned (.bool (AL AA))/\AC w w':=by
 have RW:=h;obtain⟨a,c,rfl,h⟩:=h;clear h;have HW:=Lib.hid (Rg AA);cases hb:CJ (AA.length:Int) 1 3
 ·
  have HE:Hid (AL AA=false):=by
   refine Lib.hid ?_;simp[CJ] at hb;rw[HW.out,decide_eq_false (by omega)];rfl
  go_enter Tryz.func67,Tryz.ntmps67
  go_wp2_with (go_at_call 98;refine (Av _ _ _ _).mono ?_;rintro e w' ⟨rfl,rfl⟩)
  go_ret;exact⟨by rw[HE.out];rfl,AC.refl _⟩
 ·
  have h13:1<=AA.length/\AA.length<=3:=by simp[CJ] at hb;omega
  have HW2:Hid (AL AA=(Br AA AA.length&&decide (Bs AA<=12)&&decide (Qb AA AA.length<=6))):=Lib.hid (by rw[HW.out,decide_eq_true h13];rfl);have h3:=h13.2;clear h13 HW;go_enter Tryz.func67,Tryz.ntmps67
  go_wp2_with fail
  refine (Av _ _ _ _).mono ?_;rintro e w' ⟨rfl,rfl⟩;go_wp2_with fail
  refine (Ol _ _ _ RW h3 hm).mono ?_;rintro e w1 ⟨v1,rfl,rc,k1⟩;clear hb RW;obtain⟨a1,c1,rfl,rc⟩:=rc;go_wp2;go_loopw [3,4,14] (fun n m i wr=>∃k x:Nat,∃y:Int,k<=AA.length/\n = .int .i64 x/\m = .int .i64 y/\i = .int .i64 k/\Hid (x=Bs (AA.take k)/\y=Qb AA k/\Br AA k=true)/\x<=5*k/\0<=y/\y<=10*k/\AC w1 wr) (fun _ _ i _=>AA.length-(intOf i).toNat)
  case atStart=>exact⟨0,0,0,Nat.zero_le _,rfl,rfl,rfl,Lib.hid ⟨by simp[Bs],rfl,rfl⟩,by omega,by omega,by omega,AC.refl _⟩
  case round=>
   obtain⟨k,x,y,hk,rfl,rfl,rfl,hM,x5,y0,y1,hK⟩:=hrel;by_cases hlt:k<AA.length
   ·
    rcases rc with h|⟨b,rfl,hb,hc⟩
    . exfalso;rw[h] at hlt;simp at hlt
    obtain⟨vi,e1,r1,e2⟩:=hc k hlt;have hmk:=hm k hlt;clear hc hm;have HR:Hid (Br AA (k+1)=(Br AA k&&Cd (AA.getD k []) (Fl AA k))):=Lib.hid rfl;have HV:Hid (Qb AA (k+1)=Qb AA k+Nf (AA.getD k []) (AA.getD k []).length):=Lib.hid rfl;have HN:Hid (Bs (AA.take (k+1))=Bs (AA.take k)+(AA.getD k []).length):=Lib.hid (by rw[TB AA k [] hlt,MG]);obtain⟨ds,hds⟩:∃ds,ds=AA.getD k []:=⟨_,rfl⟩;rw[<-hds] at r1 hmk HR HV HN;clear hds;generalize Fl AA k=t at e2 HR;have d1:=(hK.cell hb).trans e1;have d2:=(hK.cell hb).trans e2;have r1:=r1.keep hK;obtain⟨ai,ci,rfl,-⟩:=id r1;have hbw:b<wr.heap.size:=Nat.lt_of_lt_of_le hb hK.size;have i1:(0:Int)<=(k:Int):=Int.natCast_nonneg _;have i2:(k:Int)<(AA.length:Int):=by omega
    clear e1 e2;cases hr:Cd ds t
    ·
     have HE:Hid (AL AA=false):=Lib.hid (by
      rw[HW2.out,FM (k:=k+1) (by rw[HR.out,hr];simp) _ hlt]
      rfl)
     have HRR:=Lib.hid hr;clear hr;go_wp2_with fail
     refine (Kf _ _ _ _ (r1.keep ((AC.refl _).alloc _)) hmk).mono ?_;rw[HRR.out];rintro e wz ⟨rfl,kk⟩;go_wp2;go_ret;exact⟨by rw[HE.out];rfl,k1.trans ((hK.alloc _).trans kk)⟩
    ·
     have l5:=Sr hr;have HRR:=Lib.hid hr;have EK:=Xq ds ds.length;clear hr;go_wp2_with fail
     refine (Kf _ _ _ _ (r1.keep ((AC.refl _).alloc _)) hmk).mono ?_;rw[HRR.out];rintro e wz ⟨rfl,kk⟩;have b0:wz.cell? ⟨wr.heap.size,0,none⟩=some (.slice ai ds.length (ds.length+ci)):=AR kk 0;have bs:wr.heap.size<wz.heap.size:=Gn kk;have r2:=r1.keep (((AC.refl _).alloc _).trans kk);have hKz:=(hK.alloc (.cells #[.slice ai ds.length (ds.length+ci),.int .i64 t] 169)).trans kk;clear d1 d2 kk;go_wp2_with fail
     refine (C8 _ _ _ _).mono ?_;rintro e w3 ⟨rfl,rfl⟩;go_wp2_with fail
     refine (SP _ _ _ r2 hmk).mono ?_;rintro e w4 ⟨rfl,k4⟩;have HH:Hid (x+ds.length=Bs (AA.take (k+1))/\y+Nf ds ds.length=Qb AA (k+1)/\Br AA (k+1)=true):=Lib.hid ⟨by rw[HN.out,hM.out.1],by rw[HV.out,hM.out.2.1],by rw[HR.out,hM.out.2.2,HRR.out];rfl⟩;generalize Nf ds ds.length=ev at EK HH;go_wp2;go_roundw;case rel=>exact⟨k+1,x+ds.length,y+ev,by omega,by go_num,by go_num,by go_num,HH,by omega,by omega,by omega,hKz.trans k4⟩
     case measure=>simp[intOf];omega
   ·
    obtain rfl:k=AA.length:=by omega
    rw[List.take_length] at hM;have HE:Hid (AL AA=(decide (x<=12)&&decide (y<=6))):=Lib.hid (by rw[HW2.out,hM.out.2.2,hM.out.1,hM.out.2.1];rfl);clear hM HW2 rc hm;by_cases h12:x<=12
    ·
     have e12:(x:Int)<=12:=by omega
     by_cases h6:y<=6
     ·
      go_wp2;go_ret;exact⟨by rw[HE.out,decide_eq_true h12,decide_eq_true h6];rfl,k1.trans hK⟩
     ·
      have e6:(6:Int)<y:=by omega
      go_wp2;go_ret;exact⟨by rw[HE.out,decide_eq_true h12,decide_eq_false (show ¬y<=6 by omega)];rfl,k1.trans hK⟩
    ·
     have e12:(12:Int)<(x:Int):=by omega
     go_wp2;go_ret;exact⟨by rw[HE.out,decide_eq_false (show ¬x<=12 by omega)];rfl,k1.trans hK⟩
def Zp (w w':World)(e:Ending)(vs:Array Value):Prop:=
 ∃B,e = .returned (.slice (some ⟨B,0,none⟩) vs.size vs.size)/\w'.heap[B]? = some (.cells vs 187)/\w.heap.size<=B/\AC w w'
theorem Vz (p v g:Int)(w:World):Calls Tryz.prog 120 #[E5 1 p v g] w fun e w'=>Zp w w' e #[Vs p]:=by
 go_enter Tryz.func120,Tryz.ntmps120
 go_wp2;go_ret;exact⟨w.heap.size+1,rfl,by rw[Bt,if_pos (AD w _).symm],by omega,((AC.refl w).alloc _).alloc _⟩
theorem V9 (p v g:Int)(w:World):Calls Tryz.prog 120 #[E5 2 p v g] w fun e w'=>Zp w w' e #[TG p v]:=by
 go_enter Tryz.func120,Tryz.ntmps120
 go_wp2;go_ret;exact⟨w.heap.size+1,rfl,by rw[Bt,if_pos (AD w _).symm],by omega,((AC.refl w).alloc _).alloc _⟩
theorem V4 (p v g:Int)(w:World):Calls Tryz.prog 120 #[E5 3 p v g] w fun e w'=>Zp w w' e #[Vs p,TG p v]:=by
 go_enter Tryz.func120,Tryz.ntmps120
 go_wp2;go_ret;exact⟨w.heap.size+1,rfl,by rw[Bt,if_pos (AD w _).symm],by omega,((AC.refl w).alloc _).alloc _⟩
theorem V7 (p v g:Int)(w:World):Calls Tryz.prog 120 #[E5 4 p v g] w fun e w'=>Zp w w' e #[]:=by
 go_enter Tryz.func120,Tryz.ntmps120
 go_wp2;go_ret;exact⟨w.heap.size+1,rfl,by rw[Bt,if_pos (AD w _).symm],by omega,((AC.refl w).alloc _).alloc _⟩
theorem Fx (w:World)(v:Value)(ds:List Dd)(h:IY w v ds)(k:Nat)(hk:k<ds.length)(hx:ds.length<=1048576):
  Calls Tryz.prog 119 #[v,.int .i64 k] w fun e w'=>e = .returned (.bool (Fw ds k))/\AC w w':=by
 obtain⟨a,c,rfl,h⟩:=h;rcases h with h|⟨b,o,rfl,hb,hc⟩
 . exfalso;rw[h] at hk;simp at hk
 have A3:=(hc k hk).2.2.2;have i1:(0:Int)<=(k:Int):=Int.natCast_nonneg _;have i2:(k:Int)<(ds.length:Int):=by omega
 have HP:Hid (Fw ds k=(decide (0<k)&&((ds.getD k zD).2.2.2 != 0)&&((ds.getD k zD).2.2.2==(ds.getD (k-1) zD).2.2.2))):=Lib.hid rfl;by_cases h0:k=0
 ·
  have HT:Hid (Fw ds k=false):=Lib.hid (by rw[HP.out];simp[h0]);have d0:decide (0<k)=false:=by simp[h0]
  generalize (ds.getD k zD).2.2.2=x3 at A3;clear HP hc h0;go_enter Tryz.func119,Tryz.ntmps119
  go_wp2;go_quiet (fail)
  go_wp2;go_ret;exact⟨by rw[HT.out];rfl,(AC.refl w).drewN _⟩
 ·
  obtain⟨r,rfl⟩:∃r:Nat,k=r+1:=⟨k-1,by omega⟩;rw[Nat.add_sub_cancel] at HP;have B3:=(hc r (by omega)).2.2.2;clear hc h0;have j1:(0:Int)<=(r:Int):=Int.natCast_nonneg _;have j2:(r:Int)<(ds.length:Int):=by omega
  have d2:(r:Int)+1<(ds.length:Int):=by omega
  have d6:(0:Int)<=(r:Int)+1:=by omega
  have d3:IntKind.i64.wrap (r:Int)=(r:Int):=by rw[IntKind.wrap_i64];omega
  have d4:wrap64 (r:Int)=(r:Int):=Dl _ (by omega) (by omega);generalize (ds.getD (r+1) zD).2.2.2=x3 at A3 HP;generalize (ds.getD r zD).2.2.2=y3 at B3 HP;by_cases e0:x3=0
  ·
   have HT:Hid (Fw ds (r+1)=false):=Lib.hid (by rw[HP.out];simp[e0]);have q0:(x3 != 0)=false:=by simp[e0]
   clear HP e0;go_enter Tryz.func119,Tryz.ntmps119
   go_wp2;go_quiet (fail)
   go_wp2;go_ret;exact⟨by rw[HT.out];rfl,(AC.refl w).drewN _⟩
  ·
   have q0:(x3 != 0)=true:=by simp[e0]
   have q1:(decide (0<r+1))=true:=by simp
   have HT:Hid (Fw ds (r+1)=(x3==y3)):=Lib.hid (by rw[HP.out,q0,q1];simp);clear HP e0 q1;go_enter Tryz.func119,Tryz.ntmps119
   go_wp2;go_quiet (fail)
   go_wp2;go_ret;exact⟨by rw[HT.out];rfl,(AC.refl w).drewN _⟩
theorem Dy (w:World)(v:Value)(es:List Ev)(h:ZR w v es)(hx:es.length<=1048576)(h1:1<=es.length)(go:Bool):
  Calls Tryz.prog 118 #[v,.bool go] w fun e w'=>e = .returned (.int .i64 (Mm es go))/\AC w w':=by
 obtain⟨a,c,rfl,h⟩:=h;rcases h with h|⟨b,o,rfl,hb,hc⟩
 . exfalso;rw[h] at h1;simp at h1
 cases go
 ·
  have HT:Hid (Mm es false=(es.length:Int)):=Lib.hid (by simp[Mm]);go_enter Tryz.func118,Tryz.ntmps118
  go_wp2;go_ret;exact⟨by rw[HT.out];rfl,AC.refl w⟩
 ·
  obtain⟨m,hm⟩:∃m,es.length=m+1:=⟨es.length-1,by omega⟩;have AT:=hc m _ (LI (by omega));have HT:Hid (Mm es true=ZW (es.getD m zE)):=Lib.hid (by simp[Mm,MF,hm]);generalize es.getD m zE=e at AT HT;obtain⟨x0,x1,x2,x3,x4,x5⟩:=e;obtain⟨-,-,-,-,-,A5⟩:=kV AT;clear AT hc;rw[hm];have j1:(0:Int)<=(m:Int):=Int.natCast_nonneg _;have d3:IntKind.i64.wrap (m:Int)=(m:Int):=by rw[IntKind.wrap_i64];omega
  have d4:wrap64 (m:Int)=(m:Int):=Dl _ (by omega) (by omega);clear hm;go_enter Tryz.func118,Tryz.ntmps118
  go_wp2;go_ret;exact⟨by rw[HT.out];rfl,AC.refl w⟩
theorem TE {AA:List (List Dd)}(h:AL AA=true):1<=AA.length/\AA.length<=3/\∀i,i<AA.length->FP (AA.getD i [])=true:=by
 simp only[AL,Bool.and_eq_true,decide_eq_true_eq] at h;obtain⟨⟨⟨⟨h1,h2⟩,_⟩,_⟩,_⟩:=h;exact⟨h1.1,h1.2,fun i hi=>Be [] h2 i hi⟩
abbrev cO (v:Value)(t:Int):Obj:= .cells #[v,.int .i64 t] 169
abbrev dO (k p v g:Int):Obj:= .cells #[.int .i64 k,.int .i64 p,.int .i64 v,.int .i64 g] 82
theorem DA (w:World)(v:Value)(AA:List (List Dd))(h:Fo w v AA)(hx:AA.length<=1048576)(hm:∀i,i<AA.length->(AA.getD i []).length<=1048576):
  Calls Tryz.prog 90 #[v] w fun e w'=>∃v',e = .returned v'/\IG w' w.heap.size v' (AB AA)/\AC w w':=by
 cases hb:AL AA
 ·
  have HE:Hid (AB AA=[]):=Lib.hid (by rw[AB,hb];rfl);have O:∀w1:World,AC w w1->IG (w1.alloc (.cells #[] 85)) w.heap.size (.slice (some ⟨w1.heap.size,0,none⟩) 0 0) []:=fun w1 k1=>World.ownsRow_lit w1 #[] 0 k1.size (by decide) (by simp)
  go_enter Tryz.func90,Tryz.ntmps90
  go_wp2_with fail
  refine (CV _ _ _ h hx hm).mono ?_;rintro e w1 ⟨rfl,k1⟩;go_wp2;go_ret;exact⟨_,rfl,by rw[HE.out];exact O w1 k1,k1.alloc _⟩
 ·
  obtain⟨h1,h3,u2⟩:=TE hb;have HE:Hid (AB AA=SQ AA AA.length):=Lib.hid (by rw[AB,if_pos hb,(Ng hb AA.length (Nat.le_refl _)).1]);obtain⟨j0,hj,hy0,hy1,hy2⟩:=info_parts Tryz.YI;go_enter Tryz.func90,Tryz.ntmps90
  go_wp2_with fail
  refine (CV _ _ _ h hx hm).mono ?_;rintro e w0 ⟨rfl,k0⟩;go_wp2_with fail
  refine (Gm _).mono ?_;rintro e w1 ⟨x1,rfl,a1,k1⟩;go_wp2_with fail
  refine (QS w _ (k0.trans k1) _ _ h h1 h3 hm).mono ?_;rintro e w2 ⟨v2,rfl,rc,k2⟩;have K01:AC w0 w2:=k1.trans k2;have hsz0:=k0.size;clear hb h hm hx;obtain⟨b,c1,V,rfl,hbl,hbu,hc⟩:=rc;have HR:∀i,i<AA.length->IY w (V i) (AA.getD i []):=fun i hi=>(hc i hi).1
  obtain⟨ob,uo⟩:∃ob,w2.heap[b]? = some ob:=⟨_,Array.getElem?_eq_getElem hbu⟩
  have HC:∀wq:World,wq.heap[b]? = some ob->∀i,i<AA.length->wq.cell? ⟨b,i*2,none⟩=some (V i)/\wq.cell? ⟨b,i*2+1,none⟩=some (.int .i64 (Fl AA i)):=fun wq hq i hi=>by
   have e:wq.heap[b]? = w2.heap[b]?:=hq.trans uo.symm;have f:∀j,wq.cell? ⟨b,j,none⟩=w2.cell? ⟨b,j,none⟩:=fun j=>by simp only[World.cell?,e]
   exact⟨(f _).trans (hc i hi).2.1,(f _).trans (hc i hi).2.2⟩
  clear hc;have L0:LP w0 w2 x1 B5 [(b,ob)]:=LP.add ⟨a1.keep k2,K01,by simp⟩ b ob (fun e=>by have:=(a1.lt _ e).2;omega) uo;clear a1 uo hbl;go_wp2;go_loopw [3,20] (fun x i wr=>∃k:Nat,∃es:List Ev,k<=AA.length/\i = .int .i64 k/\Hid (es=SQ AA k)/\1<=es.length/\es.length<=3+10*k/\LP w0 wr x es [(b,ob)]) (fun _ i _=>AA.length-(intOf i).toNat)
  case atStart=>exact⟨0,B5,Nat.zero_le _,rfl,Lib.hid rfl,by decide,by decide,L0⟩
  case round=>
   clear L0 K01 k2 hbu;obtain⟨k,es,hk,rfl,hE,he1,hel,hL⟩:=hrel;by_cases hlt:k<AA.length
   ·
    have r1:=HR k hlt;have hKw:AC w wr:=k0.trans hL.keep;obtain⟨d1,d2⟩:=HC wr (hL.held b ob (by simp)).2 k hlt;have hbw:=hL.lt (n:=b) (o:=ob) (by simp);have LS:=u2 k hlt;have HV:Hid (SQ AA (k+1)=Jz k (AA.getD k []) es (AA.getD k []).length):=Lib.hid (by rw[SQ,hE.out]);obtain⟨ds,hds⟩:∃ds,ds=AA.getD k []:=⟨_,rfl⟩;rw[<-hds] at r1 LS HV;clear hds;generalize Fl AA k=t at d2;obtain⟨u,hu⟩:∃u,u=V k:=⟨_,rfl⟩;rw[<-hu] at d1 r1;clear hu;have R1:=r1;obtain⟨ai,ci,rfl,r1⟩:=r1;have hl5:ds.length<=5:=by simp[FP] at LS;omega
    have i1:(0:Int)<=(k:Int):=Int.natCast_nonneg _;have i2:(k:Int)<(AA.length:Int):=by omega
    obtain⟨wo,hwo⟩:∃wo:World,wo=wr:=⟨_,rfl⟩;subst hwo;have L1:=hL.new (cO (.slice ai ds.length (ds.length+ci)) t);go_wp2;go_loopw [3,28] (fun x i wq=>∃q:Nat,∃evs:List Ev,q<=ds.length/\i = .int .i64 q/\Hid (evs=Jz k ds es q)/\1<=evs.length/\evs.length<=3+10*k+2*q/\LP w0 wq x evs [(wo.heap.size,cO (.slice ai ds.length (ds.length+ci)) t),(b,ob)]) (fun _ i _=>ds.length-(intOf i).toNat)
    case atStart=>exact⟨0,es,Nat.zero_le _,rfl,Lib.hid rfl,he1,by omega,L1⟩
    case round=>
     clear L1 d1 d2;obtain⟨q,evs,hq,rfl,hC,hv1,hev,hI⟩:=hrel;by_cases hlq:q<ds.length
     ·
      have uU:AC w wr:=k0.trans hI.keep;have R2:=R1.keep uU;rcases r1 with h|⟨b2,o2,rfl,hb2,hc2⟩
      . exfalso;rw[h] at hlq;simp at hlq
      have AT:=(hc2 q hlq).keep hb2 uU
      have UG:Eu (ds.getD q zD)=true:=by
       simp only[FP,Bool.and_eq_true] at LS;exact Be zD LS.1 q hlq
      clear hc2 LS;have hb3:b2<wr.heap.size:=Nat.lt_of_lt_of_le hb2 uU.size;have HST:Hid (Jz k ds es (q+1)=evs++Cj k q (ds.getD q zD) (Mm evs (Fw ds q))):=Lib.hid (by rw[Jz,hC.out]);clear hC;obtain⟨d,hd⟩:∃d,d=ds.getD q zD:=⟨_,rfl⟩;rw[<-hd] at AT UG HST;clear hd;have KD:=Bz UG;obtain⟨x0,x1,x2,x3⟩:=d;obtain⟨A0,A1,A2,A3⟩:=AT;simp only at A0 A1 A2 A3 KD;have j1:(0:Int)<=(q:Int):=Int.natCast_nonneg _;have j2:(q:Int)<(ds.length:Int):=by omega
      have z5:=hI.lt (n:=wo.heap.size) (o:=cO (.slice (some ⟨b2,o2,none⟩) ds.length (ds.length+ci)) t) (by simp);have c5:wr.cell? ⟨wo.heap.size,0,none⟩=some (.slice (some ⟨b2,o2,none⟩) ds.length (ds.length+ci)):=(hI.held wo.heap.size (cO (.slice (some ⟨b2,o2,none⟩) ds.length (ds.length+ci)) t) (by simp)) |>.2 |> fun h=>cell_of_row wr _ 0 _ _ (0,0) h
      clear UG;rcases KD with rfl|rfl|rfl|rfl
      ·
       have HS:Hid (Jz k ds es (q+1)=evs++Cj k q (1,x1,x2,x3) (Mm evs (Fw ds q))):=HST;clear HST;have L2:=hI.new (dO 1 x1 x2 x3);have K2:AC wr (wr.alloc (dO 1 x1 x2 x3)):=(AC.refl wr).alloc _;have R3:=R2.keep K2;go_wp2_with fail
       refine (Fx _ _ _ R3 q hlq (by omega)).mono ?_;rintro e w3 ⟨rfl,k3⟩;have L3:=L2.more k3;go_wp2_with fail
       refine (Dy _ _ _ L3.app.rd (by omega) hv1 _).mono ?_;generalize Fw ds q=go at HS;generalize hcl:Mm evs go=cl at HS;clear hcl;rintro e w4 ⟨rfl,k4⟩;have L4:=L3.more k4;have z7:=L4.lt (n:=wr.heap.size) (o:=dO 1 x1 x2 x3) (by simp);have s0:w4.cell? ⟨wr.heap.size,0,none⟩=some (.int .i64 1):=L4.cell (n:=wr.heap.size) (cs:=#[.int .i64 1,.int .i64 x1,.int .i64 x2,.int .i64 x3]) (t:=82) (by simp) 0;have s1:w4.cell? ⟨wr.heap.size,1,none⟩=some (.int .i64 x1):=L4.cell (n:=wr.heap.size) (cs:=#[.int .i64 1,.int .i64 x1,.int .i64 x2,.int .i64 x3]) (t:=82) (by simp) 1;have s2:w4.cell? ⟨wr.heap.size,2,none⟩=some (.int .i64 x2):=L4.cell (n:=wr.heap.size) (cs:=#[.int .i64 1,.int .i64 x1,.int .i64 x2,.int .i64 x3]) (t:=82) (by simp) 2;have s3:w4.cell? ⟨wr.heap.size,3,none⟩=some (.int .i64 x3):=L4.cell (n:=wr.heap.size) (cs:=#[.int .i64 1,.int .i64 x1,.int .i64 x2,.int .i64 x3]) (t:=82) (by simp) 3;clear A0 A1 A2 A3 c5 L2 L3 R3 K2;go_wp2_with fail
       refine (Vz _ _ _ _).mono ?_;rintro e w5 ⟨B,rfl,hB,hBl,k5⟩;have L5:=L4.later k5 hBl hB;clear L4 s0 s1 s2 s3 z7 hI;have z8:=L5.lt (n:=B) (o:= .cells #[Vs x1] 187) (by simp);have c6:w5.cell? ⟨B,0,none⟩=some (Vs x1):=L5.cell (n:=B) (cs:=#[Vs x1]) (t:=187) (by simp) 0;go_wp2;refine wp_loop_rounds 2 ?_;rw[rounds_succ];go_wp2_with fail
       refine (Lq _ _).mono ?_;rintro e wa0 ⟨rfl,ka0⟩;have Wd:=L5.more ka0;have We:=(Wd.more ((AC.refl wa0).alloc (eO k q true x1 0 cl))).more ((AC.refl _).alloc (eO k q true x1 0 cl));have hs0:w0.heap.size<=wa0.heap.size:=Wd.keep.size;go_wp2_with (at_builtin;refine wpList_append_own_at _ rfl _ _ 51 rfl w0.heap.size 85 j0 (.agg #[.int .i64 0,.int .i64 0,.bool false,.int .i64 0,.int .i64 0,.int .i64 0]) 6 48 Tryz.underlying51 hj hy0 hy1 hy2 rfl (by decide) _ _ _ rfl We.app ⟨_,0,none⟩ 1 1 (cE ((k:Int),(q:Int),true,x1,0,cl)) rfl rfl ?W4 ?W6 ?W7 ?W8 ?XI ?_)
       case W4=>exact JM _ _ (AD _ _) _ _ _ _ _ _
       case W6=>exact JN _
       case W7=>unfold maxLen;first|omega|(simp;omega)
       case W8=>first|omega|(simp;omega)
       case XI=>first|omega|(simp;omega)
       intro v0' wb0 hown' hgrow _ hblk;have Zn:=We.hit _ hown' hgrow (by rw[AD,AD];exact hblk);clear hgrow hown' hblk We Wd L5;go_wp2;rw[rounds_succ];go_wp2;go_roundw;case rel=>exact⟨q+1,_,by omega,by go_num,Lib.hid (by rw[HS.out];simp[Cj]),by first|omega|(simp<;>omega),by first|omega|(simp<;>omega),Zn.less (fun y hy=>by simp only[List.mem_cons,List.not_mem_nil,or_false] at hy ⊢;rcases hy with rfl|rfl<;>simp)⟩
       case measure=>simp[intOf];omega
      ·
       have HS:Hid (Jz k ds es (q+1)=evs++Cj k q (2,x1,x2,x3) (Mm evs (Fw ds q))):=HST;clear HST;have L2:=hI.new (dO 2 x1 x2 x3);have K2:AC wr (wr.alloc (dO 2 x1 x2 x3)):=(AC.refl wr).alloc _;have R3:=R2.keep K2;go_wp2_with fail
       refine (Fx _ _ _ R3 q hlq (by omega)).mono ?_;rintro e w3 ⟨rfl,k3⟩;have L3:=L2.more k3;go_wp2_with fail
       refine (Dy _ _ _ L3.app.rd (by omega) hv1 _).mono ?_;generalize Fw ds q=go at HS;generalize hcl:Mm evs go=cl at HS;clear hcl;rintro e w4 ⟨rfl,k4⟩;have L4:=L3.more k4;have z7:=L4.lt (n:=wr.heap.size) (o:=dO 2 x1 x2 x3) (by simp);have s0:w4.cell? ⟨wr.heap.size,0,none⟩=some (.int .i64 2):=L4.cell (n:=wr.heap.size) (cs:=#[.int .i64 2,.int .i64 x1,.int .i64 x2,.int .i64 x3]) (t:=82) (by simp) 0;have s1:w4.cell? ⟨wr.heap.size,1,none⟩=some (.int .i64 x1):=L4.cell (n:=wr.heap.size) (cs:=#[.int .i64 2,.int .i64 x1,.int .i64 x2,.int .i64 x3]) (t:=82) (by simp) 1;have s2:w4.cell? ⟨wr.heap.size,2,none⟩=some (.int .i64 x2):=L4.cell (n:=wr.heap.size) (cs:=#[.int .i64 2,.int .i64 x1,.int .i64 x2,.int .i64 x3]) (t:=82) (by simp) 2;have s3:w4.cell? ⟨wr.heap.size,3,none⟩=some (.int .i64 x3):=L4.cell (n:=wr.heap.size) (cs:=#[.int .i64 2,.int .i64 x1,.int .i64 x2,.int .i64 x3]) (t:=82) (by simp) 3;clear A0 A1 A2 A3 c5 L2 L3 R3 K2;go_wp2_with fail
       refine (V9 _ _ _ _).mono ?_;rintro e w5 ⟨B,rfl,hB,hBl,k5⟩;have L5:=L4.later k5 hBl hB;clear L4 s0 s1 s2 s3 z7 hI;have z8:=L5.lt (n:=B) (o:= .cells #[TG x1 x2] 187) (by simp);have c6:w5.cell? ⟨B,0,none⟩=some (TG x1 x2):=L5.cell (n:=B) (cs:=#[TG x1 x2]) (t:=187) (by simp) 0;go_wp2;refine wp_loop_rounds 2 ?_;rw[rounds_succ];go_wp2_with fail
       refine (Ik _ _ _).mono ?_;rintro e wa0 ⟨rfl,ka0⟩;have Wd:=L5.more ka0;have We:=(Wd.more ((AC.refl wa0).alloc (eO k q false x1 x2 cl))).more ((AC.refl _).alloc (eO k q false x1 x2 cl));have hs0:w0.heap.size<=wa0.heap.size:=Wd.keep.size;go_wp2_with (at_builtin;refine wpList_append_own_at _ rfl _ _ 51 rfl w0.heap.size 85 j0 (.agg #[.int .i64 0,.int .i64 0,.bool false,.int .i64 0,.int .i64 0,.int .i64 0]) 6 48 Tryz.underlying51 hj hy0 hy1 hy2 rfl (by decide) _ _ _ rfl We.app ⟨_,0,none⟩ 1 1 (cE ((k:Int),(q:Int),false,x1,x2,cl)) rfl rfl ?W4 ?W6 ?W7 ?W8 ?XI ?_)
       case W4=>exact JM _ _ (AD _ _) _ _ _ _ _ _
       case W6=>exact JN _
       case W7=>unfold maxLen;first|omega|(simp;omega)
       case W8=>first|omega|(simp;omega)
       case XI=>first|omega|(simp;omega)
       intro v0' wb0 hown' hgrow _ hblk;have Zn:=We.hit _ hown' hgrow (by rw[AD,AD];exact hblk);clear hgrow hown' hblk We Wd L5;go_wp2;rw[rounds_succ];go_wp2;go_roundw;case rel=>exact⟨q+1,_,by omega,by go_num,Lib.hid (by rw[HS.out];simp[Cj]),by first|omega|(simp<;>omega),by first|omega|(simp<;>omega),Zn.less (fun y hy=>by simp only[List.mem_cons,List.not_mem_nil,or_false] at hy ⊢;rcases hy with rfl|rfl<;>simp)⟩
       case measure=>simp[intOf];omega
      ·
       have HS:Hid (Jz k ds es (q+1)=evs++Cj k q (3,x1,x2,x3) (Mm evs (Fw ds q))):=HST;clear HST;have L2:=hI.new (dO 3 x1 x2 x3);have K2:AC wr (wr.alloc (dO 3 x1 x2 x3)):=(AC.refl wr).alloc _;have R3:=R2.keep K2;go_wp2_with fail
       refine (Fx _ _ _ R3 q hlq (by omega)).mono ?_;rintro e w3 ⟨rfl,k3⟩;have L3:=L2.more k3;go_wp2_with fail
       refine (Dy _ _ _ L3.app.rd (by omega) hv1 _).mono ?_;generalize Fw ds q=go at HS;generalize hcl:Mm evs go=cl at HS;clear hcl;rintro e w4 ⟨rfl,k4⟩;have L4:=L3.more k4;have z7:=L4.lt (n:=wr.heap.size) (o:=dO 3 x1 x2 x3) (by simp);have s0:w4.cell? ⟨wr.heap.size,0,none⟩=some (.int .i64 3):=L4.cell (n:=wr.heap.size) (cs:=#[.int .i64 3,.int .i64 x1,.int .i64 x2,.int .i64 x3]) (t:=82) (by simp) 0;have s1:w4.cell? ⟨wr.heap.size,1,none⟩=some (.int .i64 x1):=L4.cell (n:=wr.heap.size) (cs:=#[.int .i64 3,.int .i64 x1,.int .i64 x2,.int .i64 x3]) (t:=82) (by simp) 1;have s2:w4.cell? ⟨wr.heap.size,2,none⟩=some (.int .i64 x2):=L4.cell (n:=wr.heap.size) (cs:=#[.int .i64 3,.int .i64 x1,.int .i64 x2,.int .i64 x3]) (t:=82) (by simp) 2;have s3:w4.cell? ⟨wr.heap.size,3,none⟩=some (.int .i64 x3):=L4.cell (n:=wr.heap.size) (cs:=#[.int .i64 3,.int .i64 x1,.int .i64 x2,.int .i64 x3]) (t:=82) (by simp) 3;clear A0 A1 A2 A3 c5 L2 L3 R3 K2;go_wp2_with fail
       refine (V4 _ _ _ _).mono ?_;rintro e w5 ⟨B,rfl,hB,hBl,k5⟩;have L5:=L4.later k5 hBl hB;clear L4 s0 s1 s2 s3 z7 hI;have z8:=L5.lt (n:=B) (o:= .cells #[Vs x1,TG x1 x2] 187) (by simp);have c6:w5.cell? ⟨B,0,none⟩=some (Vs x1):=L5.cell (n:=B) (cs:=#[Vs x1,TG x1 x2]) (t:=187) (by simp) 0;have c7:w5.cell? ⟨B,1,none⟩=some (TG x1 x2):=L5.cell (n:=B) (cs:=#[Vs x1,TG x1 x2]) (t:=187) (by simp) 1;go_wp2;refine wp_loop_rounds 3 ?_;rw[rounds_succ];go_wp2_with fail
       refine (Lq _ _).mono ?_;rintro e wa0 ⟨rfl,ka0⟩;have Wd:=L5.more ka0;have We:=(Wd.more ((AC.refl wa0).alloc (eO k q true x1 0 cl))).more ((AC.refl _).alloc (eO k q true x1 0 cl));have hs0:w0.heap.size<=wa0.heap.size:=Wd.keep.size;go_wp2_with (at_builtin;refine wpList_append_own_at _ rfl _ _ 51 rfl w0.heap.size 85 j0 (.agg #[.int .i64 0,.int .i64 0,.bool false,.int .i64 0,.int .i64 0,.int .i64 0]) 6 48 Tryz.underlying51 hj hy0 hy1 hy2 rfl (by decide) _ _ _ rfl We.app ⟨_,0,none⟩ 1 1 (cE ((k:Int),(q:Int),true,x1,0,cl)) rfl rfl ?W4 ?W6 ?W7 ?W8 ?XI ?_)
       case W4=>exact JM _ _ (AD _ _) _ _ _ _ _ _
       case W6=>exact JN _
       case W7=>unfold maxLen;first|omega|(simp;omega)
       case W8=>first|omega|(simp;omega)
       case XI=>first|omega|(simp;omega)
       intro v0' wb0 hown' hgrow _ hblk;have Zn:=We.hit _ hown' hgrow (by rw[AD,AD];exact hblk);clear hgrow hown' hblk We Wd L5;obtain⟨ev1,hev1⟩:∃ev1,ev1=evs++[((k:Int),(q:Int),true,x1,0,cl)]:=⟨_,rfl⟩;rw[<-hev1] at Zn;have zJ:=Lib.hid hev1;have hl1:ev1.length<=evs.length+1:=by rw[hev1];simp
       clear hev1;clear c6 c7 z8;have z8:=Zn.lt (n:=B) (o:= .cells #[Vs x1,TG x1 x2] 187) (by simp);have c7:wb0.cell? ⟨B,1,none⟩=some (TG x1 x2):=Zn.cell (n:=B) (cs:=#[Vs x1,TG x1 x2]) (t:=187) (by simp) 1;go_wp2;rw[rounds_succ];go_wp2_with fail
       refine (Ik _ _ _).mono ?_;rintro e wa1 ⟨rfl,ka1⟩;have sD:=Zn.more ka1;have sG:=(sD.more ((AC.refl wa1).alloc (eO k q false x1 x2 cl))).more ((AC.refl _).alloc (eO k q false x1 x2 cl));have hs1:w0.heap.size<=wa1.heap.size:=sD.keep.size;go_wp2_with (at_builtin;refine wpList_append_own_at _ rfl _ _ 51 rfl w0.heap.size 85 j0 (.agg #[.int .i64 0,.int .i64 0,.bool false,.int .i64 0,.int .i64 0,.int .i64 0]) 6 48 Tryz.underlying51 hj hy0 hy1 hy2 rfl (by decide) _ _ _ rfl sG.app ⟨_,0,none⟩ 1 1 (cE ((k:Int),(q:Int),false,x1,x2,cl)) rfl rfl ?tq ?tu ?uD ?uE ?uG ?_)
       case tq=>exact JM _ _ (AD _ _) _ _ _ _ _ _
       case tu=>exact JN _
       case uD=>unfold maxLen;first|omega|(simp;omega)
       case uE=>first|omega|(simp;omega)
       case uG=>first|omega|(simp;omega)
       intro v1' wb1 hown' hgrow _ hblk;have zQ:=sG.hit _ hown' hgrow (by rw[AD,AD];exact hblk);clear hgrow hown' hblk sG sD Zn;go_wp2;rw[rounds_succ];go_wp2;go_roundw;case rel=>exact⟨q+1,_,by omega,by go_num,Lib.hid (by rw[HS.out,zJ.out];simp[Cj]),by first|omega|(simp<;>omega),by first|omega|(simp<;>omega),zQ.less (fun y hy=>by simp only[List.mem_cons,List.not_mem_nil,or_false] at hy ⊢;rcases hy with rfl|rfl<;>simp)⟩
       case measure=>simp[intOf];omega
      ·
       have HS:Hid (Jz k ds es (q+1)=evs++Cj k q (4,x1,x2,x3) (Mm evs (Fw ds q))):=HST;clear HST;have L2:=hI.new (dO 4 x1 x2 x3);have K2:AC wr (wr.alloc (dO 4 x1 x2 x3)):=(AC.refl wr).alloc _;have R3:=R2.keep K2;go_wp2_with fail
       refine (Fx _ _ _ R3 q hlq (by omega)).mono ?_;rintro e w3 ⟨rfl,k3⟩;have L3:=L2.more k3;go_wp2_with fail
       refine (Dy _ _ _ L3.app.rd (by omega) hv1 _).mono ?_;generalize Fw ds q=go at HS;generalize hcl:Mm evs go=cl at HS;clear hcl;rintro e w4 ⟨rfl,k4⟩;have L4:=L3.more k4;have z7:=L4.lt (n:=wr.heap.size) (o:=dO 4 x1 x2 x3) (by simp);have s0:w4.cell? ⟨wr.heap.size,0,none⟩=some (.int .i64 4):=L4.cell (n:=wr.heap.size) (cs:=#[.int .i64 4,.int .i64 x1,.int .i64 x2,.int .i64 x3]) (t:=82) (by simp) 0;have s1:w4.cell? ⟨wr.heap.size,1,none⟩=some (.int .i64 x1):=L4.cell (n:=wr.heap.size) (cs:=#[.int .i64 4,.int .i64 x1,.int .i64 x2,.int .i64 x3]) (t:=82) (by simp) 1;have s2:w4.cell? ⟨wr.heap.size,2,none⟩=some (.int .i64 x2):=L4.cell (n:=wr.heap.size) (cs:=#[.int .i64 4,.int .i64 x1,.int .i64 x2,.int .i64 x3]) (t:=82) (by simp) 2;have s3:w4.cell? ⟨wr.heap.size,3,none⟩=some (.int .i64 x3):=L4.cell (n:=wr.heap.size) (cs:=#[.int .i64 4,.int .i64 x1,.int .i64 x2,.int .i64 x3]) (t:=82) (by simp) 3;clear A0 A1 A2 A3 c5 L2 L3 R3 K2;go_wp2_with fail
       refine (V7 _ _ _ _).mono ?_;rintro e w5 ⟨B,rfl,hB,hBl,k5⟩;have L5:=L4.later k5 hBl hB;clear L4 s0 s1 s2 s3 z7 hI;have z8:=L5.lt (n:=B) (o:= .cells #[] 187) (by simp);go_wp2;refine wp_loop_rounds 1 ?_;rw[rounds_succ];go_wp2;go_roundw;case rel=>exact⟨q+1,_,by omega,by go_num,Lib.hid (by rw[HS.out];simp[Cj]),by first|omega|(simp<;>omega),by first|omega|(simp<;>omega),L5.less (fun y hy=>by simp only[List.mem_cons,List.not_mem_nil,or_false] at hy ⊢;rcases hy with rfl|rfl<;>simp)⟩
       case measure=>simp[intOf];omega
     ·
      obtain rfl:q=ds.length:=by omega
      go_wp2;go_roundw;case rel=>exact⟨k+1,evs,by omega,by go_num,Lib.hid (by rw[HV.out];exact hC.out),hv1,by omega,hI.less (fun y hy=>by simp only[List.mem_cons,List.not_mem_nil,or_false] at hy ⊢;subst hy;simp)⟩
      case measure=>simp[intOf];omega
   ·
    obtain rfl:k=AA.length:=by omega
    go_wp2;go_ret;exact⟨_,rfl,by rw[HE.out,<-hE.out];exact Wn hL.app hsz0,k0.trans hL.keep⟩
theorem jV {AA:List (List Dd)}(h:AL AA=true):Nx AA=((AX Ae (AB AA)).length:Int):=by
 unfold Nx AB;rw[if_pos h]
theorem G8 (w:World)(v:Value)(AA:List (List Dd))(h:Fo w v AA)(hx:AA.length<=1048576)(hm:∀i,i<AA.length->(AA.getD i []).length<=1048576)(hb:AL AA=true):
  Calls Tryz.prog 55 #[v] w fun e w'=>e = .returned (.int .i64 (Nx AA))/\AC w w':=by
 have CE:=DA w v AA h hx hm;have hlen:=Qd AA;have HN:=Lib.hid (jV hb);clear hb h hm;go_enter Tryz.func55,Tryz.ntmps55
 go_wp2_with fail
 refine CE.mono ?_;rintro e w1 ⟨v1,rfl,a1,k1⟩;have re:=a1.rd;generalize AB AA=es at re hlen HN;clear a1 CE;go_wp2_with fail
 refine (DJ _ _ _ re hlen).mono ?_;rintro e w2 ⟨v2,rfl,o2,k2⟩;obtain⟨a2,c2,rfl,-⟩:=o2.rd;go_wp2;go_ret;exact⟨by rw[HN.out];rfl,k1.trans k2⟩
theorem Ha (w:World)(v vR vV:Value)(AA:List (List Dd))(rs vs:List Int)(a:Addr)(hn:JG w a)(h:Fo w v AA)(hr:Rd w vR rs)(hv:Rd w vV vs)(hx:AA.length<=1048576)(hm:∀i,i<AA.length->(AA.getD i []).length<=1048576)(lr:rs.length<=2097152)(lv:vs.length<=2097152):
  Calls Tryz.prog 36 #[v,.agg #[vR,vV]] w fun e w'=>∃u,e = .returned u/\Mq a (ED AA rs vs) u/\AC w w':=by
 have K1:AC w (w.alloc (.cells #[vR,vV] 27)):=(AC.refl w).alloc _;have CW:=CV _ v AA (h.keep K1) hx hm;have CR:=fun (W:World) (k:AC w W) (hb:AL AA=true)=>G8 W v AA (h.keep k) hx hm hb
 have CO:=fun (W:World) (k:AC w W)=>NA W vR vV rs vs (Nx AA) a (hr.keep k) (hv.keep k) (hn.keep k) (GG AA).1 (GG AA).2 lr lv
 have HN:=Lib.hid hn;obtain⟨aR,cR,rfl,-⟩:=hr;obtain⟨aV,cV,rfl,-⟩:=hv;obtain⟨av,cv,rfl,-⟩:=h;clear hm hn;cases hb:AL AA
 ·
  have HE:Hid (ED AA rs vs=false):=Lib.hid (by rw[ED,hb];rfl);rw[hb] at CW;clear CR CO hb;go_enter Tryz.func36,Tryz.ntmps36
  go_wp2_with fail
  refine CW.mono ?_;rintro e w1 ⟨rfl,k1⟩;have g0:=(HN.out.keep (K1.trans k1)).out;go_wp2;go_ret;exact⟨_,rfl,.inr ⟨HE.out,_,rfl⟩,K1.trans k1⟩
 ·
  have HE:Hid (ED AA rs vs=P0 (Nx AA) rs vs):=Lib.hid (by rw[ED,hb];rfl);rw[hb] at CW;replace CR:=fun W k=>CR W k hb
  clear hb;go_enter Tryz.func36,Tryz.ntmps36
  go_wp2_with fail
  refine CW.mono ?_;rintro e w1 ⟨rfl,k1⟩;have c0:=AR k1 0;have c1:=AR k1 1;simp at c0 c1;have s1:w.heap.size<w1.drew.heap.size:=by have:=k1.size;rw[AD] at this;rw[Au];omega
  have KK:AC w w1.drew:=(K1.trans k1).drew;clear CW K1 k1;go_upto_region 3 with fail
  go_region_held3 (fun w'=>w'.cell? ⟨w.heap.size,0,none⟩=some (.slice aR rs.length cR)/\w'.cell? ⟨w.heap.size,1,none⟩=some (.slice aV vs.length cV))
   (first|go_keep|(go_split_ands;refine⟨?_,?_⟩<;>(rw[kk.cell (by assumption)];assumption)))
   ((first
    | (go_at_call 55;refine (CR _ KK).mono ?_;rintro e wz ⟨rfl,kk⟩;have KK:=KK.trans kk;have s1:=Nat.lt_of_lt_of_le s1 kk.size)
    | (go_at_call 68;refine (CO _ KK).mono ?_;rintro e wz ⟨u,rfl,hu,kk⟩;have KK:=KK.trans kk;have s1:=Nat.lt_of_lt_of_le s1 kk.size)))
  all_goals
   go_wp2_with fail
   go_ret;exact⟨_,rfl,by rw[HE.out];exact hu,KK⟩
theorem Ox (w:World)(v vR vV:Value)(AA:List (List Dd))(rs vs:List Int)(a:Addr)(hn:JG w a)(h:Fo w v AA)(hr:Rd w vR rs)(hv:Rd w vV vs)(hx:AA.length<=1048576)(hm:∀i,i<AA.length->(AA.getD i []).length<=1048576)(lr:rs.length<=2097152)(lv:vs.length<=2097152):
  Calls Tryz.prog 12 #[v,.agg #[vR,vV]] w fun e w'=>e = .returned (.bool (ED AA rs vs))/\AC w w':=by
 have KK:AC w ((w.alloc (.cells #[vR,vV] 27)).drew):=((AC.refl w).alloc _).drew;have C:=fun (W:World) (k:AC w W)=>Ha W v vR vV AA rs vs a (hn.keep k) (h.keep k) (hr.keep k) (hv.keep k) hx hm lr lv
 have c0:((w.alloc (.cells #[vR,vV] 27)).drew).cell? ⟨w.heap.size,0,none⟩=some vR:=AR (AC.refl _) 0;have c1:((w.alloc (.cells #[vR,vV] 27)).drew).cell? ⟨w.heap.size,1,none⟩=some vV:=AR (AC.refl _) 1;have s1:w.heap.size<((w.alloc (.cells #[vR,vV] 27)).drew).heap.size:=by rw[Au,AD];omega
 have g0:((w.alloc (.cells #[vR,vV] 27)).drew).cell? ⟨0,0,none⟩=some (Rl a):=(hn.keep KK).out;have s2:0<((w.alloc (.cells #[vR,vV] 27)).drew).heap.size:=Nat.lt_of_lt_of_le (World.block_lt_of_cell? w ⟨0,0,none⟩ hn) KK.size;obtain⟨aR,cR,rfl,-⟩:=hr;obtain⟨aV,cV,rfl,-⟩:=hv;obtain⟨av,cv,rfl,-⟩:=h;obtain⟨T,hT⟩:∃T,T=ED AA rs vs:=⟨_,rfl⟩;rw[<-hT] at C ⊢;clear hm hn hT;cases T
 ·
  have CI:=fun (s:ByteArray) (W:World)=>SY s a W
  go_enter Tryz.func12,Tryz.ntmps12
  go_upto_region 1 with fail
  go_region_held3 (fun w'=>w'.cell? ⟨w.heap.size,0,none⟩=some (.slice aR rs.length cR)/\w'.cell? ⟨w.heap.size,1,none⟩=some (.slice aV vs.length cV)/\w'.cell? ⟨0,0,none⟩=some (Rl a))
   (first|go_keep|(go_split_ands;refine⟨?_,?_,?_⟩<;>(rw[kk.cell (by assumption)];assumption)))
   ((first
    | (go_at_call 36;refine (C _ KK).mono ?_;rintro e wz ⟨u,rfl,hu,kk⟩;obtain⟨s,rfl⟩:=Mq.no hu;clear hu;have KK:=KK.trans kk;have s1:=Nat.lt_of_lt_of_le s1 kk.size;have s2:=Nat.lt_of_lt_of_le s2 kk.size)
    | (go_at_call 35;refine (CI _ _).mono ?_;rintro e wz ⟨rfl,kk⟩;have KK:=KK.trans kk;have s1:=Nat.lt_of_lt_of_le s1 kk.size;have s2:=Nat.lt_of_lt_of_le s2 kk.size)))
  all_goals
   go_wp2_with fail
   go_ret;exact⟨rfl,KK⟩
 ·
  have CI:=fun (W:World)=>VP a W
  go_enter Tryz.func12,Tryz.ntmps12
  go_upto_region 1 with fail
  go_region_held3 (fun w'=>w'.cell? ⟨w.heap.size,0,none⟩=some (.slice aR rs.length cR)/\w'.cell? ⟨w.heap.size,1,none⟩=some (.slice aV vs.length cV)/\w'.cell? ⟨0,0,none⟩=some (Rl a))
   (first|go_keep|(go_split_ands;refine⟨?_,?_,?_⟩<;>(rw[kk.cell (by assumption)];assumption)))
   ((first
    | (go_at_call 36;refine (C _ KK).mono ?_;rintro e wz ⟨u,rfl,hu,kk⟩;obtain rfl:=Mq.yes hu;clear hu;have KK:=KK.trans kk;have s1:=Nat.lt_of_lt_of_le s1 kk.size;have s2:=Nat.lt_of_lt_of_le s2 kk.size)
    | (go_at_call 35;refine (CI _).mono ?_;rintro e wz ⟨rfl,kk⟩;have KK:=KK.trans kk;have s1:=Nat.lt_of_lt_of_le s1 kk.size;have s2:=Nat.lt_of_lt_of_le s2 kk.size)))
  all_goals
   go_wp2_with fail
   go_ret;exact⟨rfl,KK⟩
end Go.Proofs.YtflehmepjhikcaaGreatDoor
