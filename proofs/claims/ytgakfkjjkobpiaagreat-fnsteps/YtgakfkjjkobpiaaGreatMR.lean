/- Gathered texts. -/
import Derived.Test.YtgakfkjjkobpiaaGreatMH
import Derived.BigRegion
import Derived.Lib.Hide
import Derived.Test.YtgakfkjjkobpiaaGreatMF
import Derived.Deep.RegionHeld3
import Derived.Deep.QuietTactic
import Derived.BigQuiet
import Derived.Maps.AppendAt
import Derived.Laws.OwnMore
import Derived.OwnWalk
import Derived.Deep.CutRange
set_option maxRecDepth 100000
set_option maxHeartbeats 8000000
namespace Go.Proofs.YtgakfkjjkobpiaaGreat
open Go.ChangeShapes Go.WideShapes Go.ChangeAt Go.RowKit
theorem BF (lo x hi:Int)(w:World):
  Calls Tryz.prog 42 #[.int .i64 lo,.int .i64 x,.int .i64 hi] w fun e w'=>e = .returned (.bool (CX x lo hi))/\w'=w:=by
 go_enter Tryz.func42,Tryz.ntmps42
 go_wp2
 all_goals
  go_ret;exact⟨Br (by rw[Bool.eq_iff_iff];unfold CX;simp;omega),rfl⟩
def TO (k:Int):Int:=if k=1\/k=2\/k=3 then 2 else 0
def TP (k:Int):Int:=if k=2\/k=3 then 9 else 0
def Ol (k:Int):Int:=if k=2\/k=3 then 1 else 0
def TN (k:Int):Int:=if k=1\/k=2 then 9 else 0
theorem SF (k:Int)(w:World):
  Calls Tryz.prog 129 #[.int .i64 k] w fun e w'=>e = .returned (.tuple #[Fe 1 0 (Ol k) 0,Fe 4 (TO k) (TP k) (TN k)])/\AC w w':=by
 have hk:k=1\/k=2\/k=3\/(¬k=1/\¬k=2/\¬k=3):=by omega
 rcases hk with rfl|rfl|rfl|⟨h1,h2,h3⟩
 all_goals
  go_enter Tryz.func129,Tryz.ntmps129
  go_wp2;go_region
  go_wp2;refine bodyPost_ret (PA (by rfl) _ _ _ _ _ _ _ _ _ _ _ rfl (by simp only[Bj,C9,AD];repeat (first|exact if_pos rfl|exact if_pos trivial|rw[if_neg (by omega)])) rfl (by simp only[Bj,C9,AD];repeat (first|exact if_pos rfl|exact if_pos trivial|rw[if_neg (by omega)])) Tryz.underlying51 rfl (by kernel_rfl) (by kernel_rfl)) rfl ?_;refine⟨?_,(((((AC.refl w).alloc _).alloc _).alloc _).alloc _).drew⟩;first|rfl|simp[Fe,Ol,TO,TP,TN,h1,h2,h3]
theorem Rj (k p v g:Int):Dy k p v g=(CX k 1 4&&CX p 0 (TO k)&&CX v (Ol k) (TP k)&&CX g 0 (TN k)):=by
 have hk:k=1\/k=2\/k=3\/k=4\/¬(1<=k/\k<=4):=by omega
 rw[Bool.eq_iff_iff];rcases hk with rfl|rfl|rfl|rfl|h
 all_goals
  simp[Dy,CX,TO,TP,Ol,TN];omega
theorem Hi (k p v g:Int)(w:World):
  Calls Tryz.prog 126 #[Fe k p v g] w fun e w'=>e = .returned (.bool (Dy k p v g))/\AC w w':=by
 rw[Rj];unfold Fe;go_enter Tryz.func126,Tryz.ntmps126
 go_wp2_with fail
 refine (SF _ _).mono ?_;rintro e w1 ⟨rfl,k1⟩;have hs:=Fy k1;have c0:w1.cell? ⟨w.heap.size,0,none⟩=some (.int .i64 k):=AS k1 0;have c1:w1.cell? ⟨w.heap.size,1,none⟩=some (.int .i64 p):=AS k1 1;have c2:w1.cell? ⟨w.heap.size,2,none⟩=some (.int .i64 v):=AS k1 2;have c3:w1.cell? ⟨w.heap.size,3,none⟩=some (.int .i64 g):=AS k1 3;have K1:AC w w1:=((AC.refl w).alloc _).trans k1;clear k1;go_wp2_with (go_at_call 42;refine (BF _ _ _ _).mono ?_;rintro e w' ⟨rfl,rfl⟩)
 all_goals
  go_ret;exact⟨Br (by simp[*]),(K1.alloc _).alloc _⟩
abbrev Xw:Value:= .iface 9 (.string { data:=#[116,104,105,115,32,99,97,110,39,116,32,98,101] })
abbrev PN:Ending:= .panicked [{ v:=Xw,recovered:=false }]
def JX (t:Bool):Ending:=if t=true then .returned (.tuple #[]) else PN
theorem Ay {t:Bool}(h:t=true):JX t = .returned (.tuple #[]):=if_pos h
theorem Ai {t:Bool}(h:t=false):JX t=PN:=if_neg (by rw[h];simp)
theorem C1 (w:World):Calls Tryz.prog 41 #[.bool true] w fun e w'=>e = .returned (.tuple #[])/\w'=w:=by
 go_enter Tryz.func41,Tryz.ntmps41
 go_wp2;go_end0;exact⟨rfl,rfl⟩
theorem Gg (w:World):Calls Tryz.prog 41 #[.bool false] w fun e w'=>e=PN/\w'=w:=by
 go_enter Tryz.func41,Tryz.ntmps41
 go_wp2;exact⟨rfl,rfl,rfl⟩
theorem Dm (t:Bool)(w:World):Calls Tryz.prog 41 #[.bool t] w fun e w'=>e=JX t/\w'=w:=by
 cases t
 . exact Gg w
 . exact C1 w
theorem Dl (w:World)(v:Value)(zs:List Int)(n lo hi:Int)(h:Rd w v zs)(hl:zs.length<=1048576):
  Calls Tryz.prog 78 #[v,.int .i64 n,.int .i64 lo,.int .i64 hi] w fun e w'=>e=JX (FP zs n lo hi)/\w'=w:=by
 obtain⟨a,c,rfl,h⟩:=h;have HD:Hid (FP zs n lo hi=(decide ((zs.length:Int)=n)&&Ly zs lo hi)):=Lib.hid rfl;by_cases hn:(zs.length:Int)=n
 ·
  subst hn;have HT:Hid (FP zs zs.length lo hi=Ly zs lo hi):=Lib.hid (by rw[HD.out,decide_eq_true rfl];rfl);clear HD;go_enter Tryz.func78,Tryz.ntmps78
  go_wp2_with fail
  refine (C1 _).mono ?_;rintro e w2 ⟨rfl,rfl⟩;go_wp2;go_loopw [9,17] (fun _ i wr=>∃k:Nat,k<=zs.length/\i = .int .i64 k/\Hid (∀j,j<k->CX (zs.getD j 0) lo hi=true)/\wr=w2) (fun _ i _=>zs.length-(intOf i).toNat)
  case atStart=>exact⟨0,Nat.zero_le _,rfl,Lib.hid (fun j hj=>absurd hj (Nat.not_lt_zero _)),rfl⟩
  case round=>
   obtain⟨k,hk,rfl,hno,rfl⟩:=hrel;by_cases hlt:k<zs.length
   ·
    rcases h with h|⟨b,off,rfl,hb,hc⟩
    . exfalso;rw[h] at hlt;simp at hlt
    have d:=hc k hlt;clear hc;cases hq:CX (zs.getD k 0) lo hi
    ·
     have HE:Hid (FP zs zs.length lo hi=false):=Lib.hid (by rw[HT.out];exact QD hlt hq);clear hno HT;generalize zs.getD k 0=x at *;go_wp2_with fail
     refine (BF _ _ _ _).mono ?_;rintro e w3 ⟨rfl,rfl⟩;rw[hq];go_wp2_with fail
     refine (Gg _).mono ?_;rintro e w3 ⟨rfl,rfl⟩;go_wp2;exact⟨rfl,by rw[Ai HE.out],rfl⟩
    ·
     have HN:Hid (∀j,j<k+1->CX (zs.getD j 0) lo hi=true):=Lib.hid (fun j hj=>by
      by_cases e:j=k
      . rw[e];exact hq
      . exact hno.out j (by omega))
     clear hno;generalize zs.getD k 0=x at *;go_wp2_with fail
     refine (BF _ _ _ _).mono ?_;rintro e w3 ⟨rfl,rfl⟩;rw[hq];go_wp2_with fail
     refine (C1 _).mono ?_;rintro e w3 ⟨rfl,rfl⟩;go_wp2;go_roundw;case rel=>exact⟨k+1,by omega,rfl,HN,trivial⟩
     case measure=>simp[intOf];omega
   have HE:Hid (FP zs zs.length lo hi=true):=Lib.hid (by rw[HT.out];exact Fl 0 (fun j hj=>hno.out j (by omega)));obtain rfl:k=zs.length:=by omega
   clear hno HT;go_wp2;go_end0;exact⟨by rw[Ay HE.out],rfl⟩
 ·
  have HT:Hid (FP zs n lo hi=false):=Lib.hid (by rw[HD.out,decide_eq_false hn];rfl);clear HD;go_enter Tryz.func78,Tryz.ntmps78
  go_wp2_with fail
  refine (Dm _ _).mono ?_;rintro e w2 ⟨rfl,rfl⟩;rw[Ai (by simp[hn])];go_wp2;exact⟨rfl,by rw[Ai HT.out],rfl⟩
theorem QU (w:World)(v:Value)(zs:List Int)(last:Int)(h:Rd w v zs)(hl:zs.length<=1048576):
  Calls Tryz.prog 109 #[v,.int .i64 last] w fun e w'=>e=JX (IY last zs)/\w'=w:=by
 have C:=Dl w v zs zs.length 0 last h hl;obtain⟨a,c,rfl,-⟩:=h;have HD:Hid (IY last zs=(decide (zs.length<=20)&&FP zs zs.length 0 last)):=Lib.hid rfl;by_cases hn:zs.length<=20
 ·
  have HT:Hid (IY last zs=FP zs zs.length 0 last):=Lib.hid (by rw[HD.out,decide_eq_true hn];rfl);clear HD;go_enter Tryz.func109,Tryz.ntmps109
  go_wp2_with fail
  refine (Dm _ _).mono ?_;rintro e w2 ⟨rfl,rfl⟩;rw[Ay (by simp;omega)];go_wp2_with fail
  refine C.mono ?_;rintro e w3 ⟨rfl,rfl⟩;rw[<-HT.out];cases hb:IY last zs
  ·
   rw[Ai rfl];go_wp2;exact⟨rfl,by rw[Ai hb],rfl⟩
  ·
   rw[Ay rfl];go_wp2;go_end0;exact⟨by rw[Ay hb],rfl⟩
 ·
  have HT:Hid (IY last zs=false):=Lib.hid (by rw[HD.out,decide_eq_false hn];rfl);clear HD;go_enter Tryz.func109,Tryz.ntmps109
  go_wp2_with fail
  refine (Dm _ _).mono ?_;rintro e w2 ⟨rfl,rfl⟩;rw[Ai (by simp;omega)];go_wp2;exact⟨rfl,by rw[Ai HT.out],rfl⟩
theorem UT (last:Int)(x:Nt):(CX x.1 0 2=false/\TS last x=false)\/(CX x.1 0 2=true/\CX x.2.1 0 9=false/\TS last x=false)\/(CX x.1 0 2=true/\CX x.2.1 0 9=true/\CX x.2.2 0 last=false/\TS last x=false)\/(CX x.1 0 2=true/\CX x.2.1 0 9=true/\CX x.2.2 0 last=true/\TS last x=true):=by
 unfold TS;cases CX x.1 0 2<;>cases CX x.2.1 0 9<;>cases CX x.2.2 0 last<;>simp
theorem Mx (w:World)(v:Value)(ns:List Nt)(last:Int)(h:Zk w v ns)(hl:ns.length<=1048576):
  Calls Tryz.prog 110 #[v,.int .i64 last] w fun e w'=>e=JX (M3 last ns)/\AC w w':=by
 obtain⟨a,c,rfl,h⟩:=h;have HD:Hid (M3 last ns=(decide (ns.length<=8)&&ns.all (TS last))):=Lib.hid rfl;by_cases hn:ns.length<=8
 ·
  have HT:Hid (M3 last ns=ns.all (TS last)):=Lib.hid (by rw[HD.out,decide_eq_true hn];rfl);clear HD;go_enter Tryz.func110,Tryz.ntmps110
  go_wp2_with fail
  refine (Dm _ _).mono ?_;rintro e w2 ⟨rfl,rfl⟩;rw[Ay (by simp;omega)];go_wp2;go_loopw [12] (fun i wr=>∃k:Nat,k<=ns.length/\i = .int .i64 k/\Hid (∀j,j<k->TS last (ns.getD j zN)=true)/\AC w2 wr) (fun i _=>ns.length-(intOf i).toNat)
  case atStart=>exact⟨0,Nat.zero_le _,rfl,Lib.hid (fun j hj=>absurd hj (Nat.not_lt_zero _)),AC.refl _⟩
  case round=>
   obtain⟨k,hk,rfl,hno,hK⟩:=hrel;by_cases hlt:k<ns.length
   ·
    rcases h with h|⟨b,off,rfl,hb,hc⟩
    . exfalso;rw[h] at hlt;simp at hlt
    obtain⟨g0,g1,g2⟩:=VT (hc k _ (Gh hlt));have q0:=(hK.cell hb).trans g0;have q1:=(hK.cell hb).trans g1;have q2:=(hK.cell hb).trans g2;have CS:=UT last (ns.getD k zN);have HF:TS last (ns.getD k zN)=false->Hid (M3 last ns=false):=fun e=>Lib.hid (by rw[HT.out];exact G7 zN hlt e)
    have HN:TS last (ns.getD k zN)=true->Hid (∀j,j<k+1->TS last (ns.getD j zN)=true):=fun hq=>Lib.hid (fun j hj=>by
     by_cases e:j=k
     . rw[e];exact hq
     . exact hno.out j (by omega))
    have i1:(0:Int)<=(k:Int):=Int.natCast_nonneg _;have i2:(k:Int)<(ns.length:Int):=by omega
    have hbw:b<wr.heap.size:=Nat.lt_of_lt_of_le hb hK.size;clear hno hc g0 g1 g2 HT;generalize ns.getD k zN=y at *;obtain⟨y0,y1,y2⟩:=y;simp only at q0 q1 q2 CS;rcases CS with ⟨t0,e⟩|⟨t0,t1,e⟩|⟨t0,t1,t2,e⟩|⟨t0,t1,t2,e⟩
    ·
     have HE:=HF e;clear HF HN e;go_wp2_with fail
     refine (BF _ _ _ _).mono ?_;rintro e w3 ⟨rfl,rfl⟩;rw[t0];go_wp2_with fail
     refine (Gg _).mono ?_;rintro e w3 ⟨rfl,rfl⟩;go_wp2;exact⟨rfl,by rw[Ai HE.out],hK.alloc _⟩
    ·
     have HE:=HF e;clear HF HN e;go_wp2_with fail
     refine (BF _ _ _ _).mono ?_;rintro e w3 ⟨rfl,rfl⟩;rw[t0];go_wp2_with fail
     refine (C1 _).mono ?_;rintro e w3 ⟨rfl,rfl⟩;go_wp2_with fail
     refine (BF _ _ _ _).mono ?_;rintro e w3 ⟨rfl,rfl⟩;rw[t1];go_wp2_with fail
     refine (Gg _).mono ?_;rintro e w3 ⟨rfl,rfl⟩;go_wp2;exact⟨rfl,by rw[Ai HE.out],hK.alloc _⟩
    ·
     have HE:=HF e;clear HF HN e;go_wp2_with fail
     refine (BF _ _ _ _).mono ?_;rintro e w3 ⟨rfl,rfl⟩;rw[t0];go_wp2_with fail
     refine (C1 _).mono ?_;rintro e w3 ⟨rfl,rfl⟩;go_wp2_with fail
     refine (BF _ _ _ _).mono ?_;rintro e w3 ⟨rfl,rfl⟩;rw[t1];go_wp2_with fail
     refine (C1 _).mono ?_;rintro e w3 ⟨rfl,rfl⟩;go_wp2_with fail
     refine (BF _ _ _ _).mono ?_;rintro e w3 ⟨rfl,rfl⟩;rw[t2];go_wp2_with fail
     refine (Gg _).mono ?_;rintro e w3 ⟨rfl,rfl⟩;go_wp2;exact⟨rfl,by rw[Ai HE.out],hK.alloc _⟩
    ·
     have HE:=HN e;clear HF HN e;go_wp2_with fail
     refine (BF _ _ _ _).mono ?_;rintro e w3 ⟨rfl,rfl⟩;rw[t0];go_wp2_with fail
     refine (C1 _).mono ?_;rintro e w3 ⟨rfl,rfl⟩;go_wp2_with fail
     refine (BF _ _ _ _).mono ?_;rintro e w3 ⟨rfl,rfl⟩;rw[t1];go_wp2_with fail
     refine (C1 _).mono ?_;rintro e w3 ⟨rfl,rfl⟩;go_wp2_with fail
     refine (BF _ _ _ _).mono ?_;rintro e w3 ⟨rfl,rfl⟩;rw[t2];go_wp2_with fail
     refine (C1 _).mono ?_;rintro e w3 ⟨rfl,rfl⟩;go_wp2;go_roundw;case rel=>exact⟨k+1,by omega,rfl,HE,hK.alloc _⟩
     case measure=>simp[intOf];omega
   have HE:Hid (M3 last ns=true):=Lib.hid (by rw[HT.out];exact Fl zN (fun j hj=>hno.out j (by omega)));obtain rfl:k=ns.length:=by omega
   clear hno HT;go_wp2;go_end0;exact⟨by rw[Ay HE.out],hK⟩
 ·
  have HT:Hid (M3 last ns=false):=Lib.hid (by rw[HD.out,decide_eq_false hn];rfl);clear HD;go_enter Tryz.func110,Tryz.ntmps110
  go_wp2_with fail
  refine (Dm _ _).mono ?_;rintro e w2 ⟨rfl,rfl⟩;rw[Ai (by simp;omega)];go_wp2;exact⟨rfl,by rw[Ai HT.out],AC.refl _⟩
theorem KL (s t:Int)(w:World):
  Calls Tryz.prog 121 #[.int .i64 s,.int .i64 t] w fun e w'=>e = .returned (.int .i64 (bits .and .i64 s t))/\w'=w:=by
 go_enter Tryz.func121,Tryz.ntmps121
 go_wp2;go_ret;exact⟨rfl,rfl⟩
theorem Sa (s t:Int)(w:World):
  Calls Tryz.prog 117 #[.int .i64 s,.int .i64 t] w fun e w'=>e = .returned (.int .i64 (bits .or .i64 s t))/\w'=w:=by
 go_enter Tryz.func117,Tryz.ntmps117
 go_wp2;go_ret;exact⟨rfl,rfl⟩
theorem C7 (a:Option Addr)(n c:Nat)(w:World):
  Calls Tryz.prog 101 #[.slice a n c] w fun e w'=>e = .returned (.int .i64 (n:Int))/\w'=w:=by
 go_enter Tryz.func101,Tryz.ntmps101
 go_wp2;go_ret;exact⟨rfl,rfl⟩
theorem UD (d:Dd):(d.1=3/\Rm d=2)\/(d.1=1/\Rm d=1)\/(d.1=2/\Rm d=1)\/(¬d.1=3/\¬d.1=1/\¬d.1=2/\Rm d=0):=by
 unfold Rm
 repeat' split
 all_goals omega
theorem Rn (w:World)(v:Value)(ds:List Dd)(h:KT w v ds)(hx:ds.length<=1048576):
  Calls Tryz.prog 102 #[v] w fun e w'=>e = .returned (.int .i64 (NN ds ds.length))/\AC w w':=by
 obtain⟨a,c,rfl,h⟩:=h;go_enter Tryz.func102,Tryz.ntmps102
 go_wp2;go_loopw [3,8] (fun n i wr=>∃k:Nat,∃m:Int,k<=ds.length/\n = .int .i64 m/\i = .int .i64 k/\Hid (m=NN ds k)/\0<=m/\m<=2*k/\AC w wr) (fun _ i _=>ds.length-(intOf i).toNat)
 case atStart=>exact⟨0,0,Nat.zero_le _,rfl,rfl,Lib.hid rfl,by omega,by omega,AC.refl _⟩
 case round=>
  obtain⟨k,m,hk,rfl,rfl,hm,m0,m1,hK⟩:=hrel;by_cases hlt:k<ds.length
  ·
   rcases h with h|⟨b,o,rfl,hb,hc⟩
   . exfalso;rw[h] at hlt;simp at hlt
   obtain⟨A0,A1,A2,A3⟩:=(hc k hlt).keep hb hK;clear hc;have HE:Hid (m+Rm (ds.getD k zD)=NN ds (k+1)):=Lib.hid (by rw[NN,hm.out]);have CS:=UD (ds.getD k zD);clear hm;obtain⟨d,hd⟩:∃d,d=ds.getD k zD:=⟨_,rfl⟩;rw[<-hd] at A0 A1 A2 A3 HE CS;clear hd;obtain⟨x0,x1,x2,x3⟩:=d;simp only at A0 A1 A2 A3 CS;have hbw:b<wr.heap.size:=Nat.lt_of_lt_of_le hb hK.size;have i1:(0:Int)<=(k:Int):=Int.natCast_nonneg _;have i2:(k:Int)<(ds.length:Int):=by omega
   rcases CS with ⟨rfl,e⟩|⟨rfl,e⟩|⟨rfl,e⟩|⟨n3,n1,n2,e⟩
   ·
    rw[e] at HE;clear e;go_wp2;go_roundw;case rel=>exact⟨k+1,m+2,by omega,by go_num,by go_num,HE,by omega,by omega,hK.alloc _⟩
    case measure=>simp[intOf];omega
   ·
    rw[e] at HE;clear e;go_wp2;go_roundw;case rel=>exact⟨k+1,m+1,by omega,by go_num,by go_num,HE,by omega,by omega,hK.alloc _⟩
    case measure=>simp[intOf];omega
   ·
    rw[e] at HE;clear e;go_wp2;go_roundw;case rel=>exact⟨k+1,m+1,by omega,by go_num,by go_num,HE,by omega,by omega,hK.alloc _⟩
    case measure=>simp[intOf];omega
   ·
    rw[e,Int.add_zero] at HE;clear e;have e3:(x0==3)=false:=by simp[n3]
    have e1:(x0==1)=false:=by simp[n1]
    have e2:(x0==2)=false:=by simp[n2]
    clear n3 n1 n2;go_wp2;go_roundw;case rel=>exact⟨k+1,m,by omega,by go_num,by go_num,HE,by omega,by omega,hK.alloc _⟩
    case measure=>simp[intOf];omega
  ·
   obtain rfl:k=ds.length:=by omega
   go_wp2;go_ret;exact⟨by rw[hm.out];rfl,hK⟩
theorem FJ (w:World)(v:Value)(ds:List Dd)(h:KT w v ds)(hx:ds.length<=1048576):
  Calls Tryz.prog 118 #[v] w fun e w'=>e = .returned (.int .i64 (gC ds))/\AC w w':=by
 obtain⟨a,c,rfl,h⟩:=h;go_enter Tryz.func118,Tryz.ntmps118
 go_wp2;go_loopw [3,8] (fun n i wr=>∃k:Nat,∃m:Int,k<=ds.length/\n = .int .i64 m/\i = .int .i64 k/\Hid (m=gK ds k)/\AC w wr) (fun _ i _=>ds.length-(intOf i).toNat)
 case atStart=>exact⟨0,0,Nat.zero_le _,rfl,rfl,Lib.hid rfl,AC.refl _⟩
 case round=>
  obtain⟨k,m,hk,rfl,rfl,hm,hK⟩:=hrel;by_cases hlt:k<ds.length
  ·
   rcases h with h|⟨b,o,rfl,hb,hc⟩
   . exfalso;rw[h] at hlt;simp at hlt
   obtain⟨A0,A1,A2,A3⟩:=(hc k hlt).keep hb hK;clear hc;have HE:Hid (gK ds (k+1)=if Oe (ds.getD k zD)=0 then m else Fo m (Oe (ds.getD k zD))):=Lib.hid (by rw[gK,hm.out]);clear hm;obtain⟨d,hd⟩:∃d,d=ds.getD k zD:=⟨_,rfl⟩;rw[<-hd] at A0 A1 A2 A3 HE;clear hd;obtain⟨x0,x1,x2,x3⟩:=d;unfold Oe at HE;simp only at A0 A1 A2 A3 HE;have hbw:b<wr.heap.size:=Nat.lt_of_lt_of_le hb hK.size;have i1:(0:Int)<=(k:Int):=Int.natCast_nonneg _;have i2:(k:Int)<(ds.length:Int):=by omega
   by_cases h0:x3=0
   ·
    subst h0;go_wp2;go_roundw;case rel=>exact⟨k+1,m,by omega,by go_num,by go_num,Lib.hid (by rw[HE.out,if_pos rfl]),hK.alloc _⟩
    case measure=>simp[intOf];omega
   ·
    have e0:(x3 != 0)=true:=by simp[h0]
    have HF:Hid (gK ds (k+1)=Fo m x3):=Lib.hid (by rw[HE.out,if_neg h0]);clear h0 HE;go_wp2_with fail
    refine (Xf _ _ _).mono ?_;rintro e wz ⟨rfl,rfl⟩;go_wp2;go_roundw;case rel=>exact⟨k+1,_,by omega,rfl,by go_num,Lib.hid HF.out.symm,hK.alloc _⟩
    case measure=>simp[intOf];omega
  ·
   obtain rfl:k=ds.length:=by omega
   go_wp2;go_ret;exact⟨by rw[hm.out];rfl,hK⟩
theorem Tr {α:Type}{f:α->Bool}{l:List α}{k:Nat}(z:α)(h:k<l.length)(h1:(l.take k).all f=true)(h2:f (l.getD k z)=true):(l.take (k+1)).all f=true:=by
 rw[List.take_add_one,List.getElem?_eq_getElem h,List.all_append,h1];rw[List.getD_eq_getElem?_getD,List.getElem?_eq_getElem h] at h2
 simpa using h2
theorem El (w:World)(v:Value)(ds:List Dd)(h:KT w v ds)(hx:ds.length<=1048576):
  Calls Tryz.prog 119 #[v] w fun e w'=>e = .returned (.bool (ds.all FZ))/\AC w w':=by
 obtain⟨a,c,rfl,h⟩:=h;go_enter Tryz.func119,Tryz.ntmps119
 go_wp2;go_loopw [7] (fun i wr=>∃k:Nat,k<=ds.length/\i = .int .i64 k/\Hid ((ds.take k).all FZ=true)/\AC w wr) (fun i _=>ds.length-(intOf i).toNat)
 case atStart=>exact⟨0,Nat.zero_le _,rfl,Lib.hid (by simp),AC.refl _⟩
 case round=>
  obtain⟨k,hk,rfl,hm,hK⟩:=hrel;by_cases hlt:k<ds.length
  ·
   rcases h with h|⟨b,o,rfl,hb,hc⟩
   . exfalso;rw[h] at hlt;simp at hlt
   obtain⟨A0,A1,A2,A3⟩:=(hc k hlt).keep hb hK;clear hc;have HT:FZ (ds.getD k zD)=true->Hid ((ds.take (k+1)).all FZ=true):=fun e=>Lib.hid (Tr zD hlt hm.out e)
   have HF:FZ (ds.getD k zD)=false->Hid (ds.all FZ=false):=fun e=>Lib.hid (ON zD k hlt e)
   clear hm;obtain⟨d,hd⟩:∃d,d=ds.getD k zD:=⟨_,rfl⟩;rw[<-hd] at A0 A1 A2 A3 HT HF;clear hd;obtain⟨x0,x1,x2,x3⟩:=d;simp only at A0 A1 A2 A3;have hbw:b<wr.heap.size:=Nat.lt_of_lt_of_le hb hK.size;have i1:(0:Int)<=(k:Int):=Int.natCast_nonneg _;have i2:(k:Int)<(ds.length:Int):=by omega
   cases hd:Dy x0 x1 x2 x3
   ·
    have HE:=HF hd;clear HT HF;go_wp2_with fail
    refine (Hi _ _ _ _ _).mono ?_;rintro e wz ⟨rfl,kk⟩;go_wp2;go_ret;exact⟨by rw[HE.out];rfl,(hK.alloc _).trans kk⟩
   ·
    have HE:=HT hd;clear HT HF;go_wp2_with fail
    refine (Hi _ _ _ _ _).mono ?_;rintro e wz ⟨rfl,kk⟩;go_wp2;go_roundw;case rel=>exact⟨k+1,by omega,by go_num,HE,(hK.alloc _).trans kk⟩
    case measure=>simp[intOf];omega
  ·
   obtain rfl:k=ds.length:=by omega
   rw[List.take_length] at hm;go_wp2;go_ret;exact⟨by rw[hm.out];rfl,hK⟩
abbrev Tu (x0 x1 x2 x3:Int):Obj:= .cells #[.int .i64 x0,.int .i64 x1,.int .i64 x2,.int .i64 x3] 51
theorem KT.cut {w:World}{b o:Nat}{ds:List Dd}{c k:Nat}(hk:k<=ds.length)(hb:b<w.heap.size)(hc:∀i,i<ds.length->Tj w b (o+i*4) (ds.getD i zD)):
  KT w (.slice (some ⟨b,o,none⟩) k (ds.length+c)) (ds.take k):=by
 refine⟨some ⟨b,o,none⟩,ds.length+c-k,?_,.inr ⟨b,o,rfl,hb,fun i hi=>?_⟩⟩
 ·
  rw[List.length_take,Nat.min_eq_left hk]
  congr 1
  omega
 ·
  rw[List.length_take] at hi;rw[Nz ds k i zD (by omega)];exact hc i (by omega)
theorem Sd {ds:List Dd}{k:Nat}(h:FU ds k=true)(hp:Hq ds k=false):FU ds (k+1)=true:=by rw[FU,h,hp];rfl
theorem ZU {ds:List Dd}{k:Nat}(hk:k<ds.length)(hp:Hq ds k=true):FU ds ds.length=false:=by
 refine Me (k:=k+1) ?_ _ hk;rw[FU,hp];simp
theorem EY (w:World)(v:Value)(ds:List Dd)(h:KT w v ds)(hx:ds.length<=1048576):
  Calls Tryz.prog 120 #[v] w fun e w'=>e = .returned (.bool (FU ds ds.length))/\AC w w':=by
 obtain⟨a,c,rfl,h⟩:=h;go_enter Tryz.func120,Tryz.ntmps120
 go_wp2;go_loopw [3,7] (fun j i wr=>∃k:Nat,k<=ds.length/\i = .int .i64 k/\Hid (FU ds k=true)/\AC w wr) (fun _ i _=>ds.length-(intOf i).toNat)
 case atStart=>exact⟨0,Nat.zero_le _,rfl,Lib.hid rfl,AC.refl _⟩
 case round=>
  obtain⟨k,hk,rfl,hm,hK⟩:=hrel;by_cases hlt:k<ds.length
  ·
   rcases h with h|⟨b,o,rfl,hb,hc⟩
   . exfalso;rw[h] at hlt;simp at hlt
   obtain⟨A0,A1,A2,A3⟩:=(hc k hlt).keep hb hK;have hbw:b<wr.heap.size:=Nat.lt_of_lt_of_le hb hK.size;have i1:(0:Int)<=(k:Int):=Int.natCast_nonneg _;have i2:(k:Int)<(ds.length:Int):=by omega
   have HP:Hid (Hq ds k=(decide (0<k)&&(Oe (ds.getD k zD) != Oe (ds.getD (k-1) zD))&&BK (gK ds k) (Oe (ds.getD k zD)))):=Lib.hid rfl;by_cases h0:k=0
   ·
    have HT:=Lib.hid (Sd hm.out (by rw[HP.out];simp[h0]));have d0:decide (0<k)=false:=by simp[h0]
    clear hm HP hc;obtain⟨d,hd⟩:∃d,d=ds.getD k zD:=⟨_,rfl⟩;rw[<-hd] at A0 A1 A2 A3;clear hd h0;obtain⟨x0,x1,x2,x3⟩:=d;simp only at A0 A1 A2 A3;go_wp2;go_quiet (fail)
    go_wp2;go_roundw;case rel=>exact⟨k+1,by omega,by go_num,HT,(hK.alloc _).drewN _⟩
    case measure=>simp[intOf];omega
   ·
    obtain⟨r,rfl⟩:∃r:Nat,k=r+1:=⟨k-1,by omega⟩;rw[Nat.add_sub_cancel] at HP;have B3:=((hc r (by omega)).keep hb hK).2.2.2;have RT:KT w (.slice (some ⟨b,o,none⟩) (r+1) (ds.length+c)) (ds.take (r+1)):=KT.cut (by omega) hb hc;have HG:=Lib.hid (Yt ds (r+1) (by omega));have HL:=Lib.hid (show (ds.take (r+1)).length=r+1 by rw[List.length_take];omega);clear hc;have j1:(0:Int)<=(r:Int):=Int.natCast_nonneg _;have j2:(r:Int)<(ds.length:Int):=by omega
    have d2:(r:Int)+1<(ds.length:Int):=by omega
    have d5:(r:Int)+1<=(ds.length:Int)+(c:Int):=by omega
    have d6:(0:Int)<=(r:Int)+1:=by omega
    have d7:((r+1:Nat):Int)<=((ds.length+c:Nat):Int):=by omega
    have d3:IntKind.i64.wrap (r:Int)=(r:Int):=by rw[IntKind.wrap_i64];omega
    have d4:wrap64 (r:Int)=(r:Int):=Du _ (by omega) (by omega);obtain⟨d,hd⟩:∃d,d=ds.getD (r+1) zD:=⟨_,rfl⟩;rw[<-hd] at A0 A1 A2 A3 HP;clear hd;obtain⟨p,hp⟩:∃p,p=(ds.getD r zD).2.2.2:=⟨_,rfl⟩;rw[<-hp] at B3;have HQ:Hid (Oe (ds.getD r zD)=p):=Lib.hid (by rw[hp];rfl);clear hp;rw[HQ.out] at HP;clear HQ;obtain⟨x0,x1,x2,x3⟩:=d;unfold Oe at HP;simp only at A0 A1 A2 A3 HP;by_cases he:x3=p
    ·
     subst he;have HT:=Lib.hid (Sd hm.out (by rw[HP.out];simp));have ne:(x3 != x3)=false:=by simp
     clear HP hm;go_wp2;go_quiet (fail)
     go_wp2;go_roundw;case rel=>exact⟨r+1+1,by omega,by go_num,HT,(hK.alloc _).drewN _⟩
     case measure=>simp[intOf];omega
    ·
     have ne:(x3 != p)=true:=by simp[he]
     clear he;cases hin:BK (gK ds (r+1)) x3
     ·
      have HT:=Lib.hid (Sd hm.out (by rw[HP.out,hin];simp));clear HP hm;go_wp2;have KK:AC w ((wr.alloc (Tu x0 x1 x2 x3)).drew):=(hK.alloc _).drew;have z1:wr.heap.size<((wr.alloc (Tu x0 x1 x2 x3)).drew).heap.size:=by rw[C9,AD];omega
      have z2:b<((wr.alloc (Tu x0 x1 x2 x3)).drew).heap.size:=by rw[C9,AD];omega
      go_region_held3 (fun w'=>w'.cell? ⟨wr.heap.size,3,none⟩=some (.int .i64 x3)/\w'.cell? ⟨b,o+r*4+3,none⟩=some (.int .i64 p))
       (first|go_keep|(go_split_ands;refine⟨?_,?_⟩<;>(rw[kk.cell (by assumption)];assumption)))
       ((first
        | (go_at_call 118;refine (FJ _ _ _ (RT.keep KK) (by rw[HL.out];omega)).mono ?_;rw[HG.out];rintro e wz ⟨rfl,kk⟩;have KK:=KK.trans kk;have z1:=Nat.lt_of_lt_of_le z1 kk.size;have z2:=Nat.lt_of_lt_of_le z2 kk.size)
        | (go_at_call 127;refine (TE _ _ _).mono ?_;rintro e wy ⟨rfl,rfl⟩)))
      all_goals
       go_wp2;go_roundw;case rel=>exact⟨r+1+1,by omega,by go_num,HT,KK⟩
       case measure=>simp[intOf];omega
     ·
      have HT:=Lib.hid (ZU hlt (by rw[HP.out,hin,ne];simp));clear HP hm;go_wp2;have KK:AC w ((wr.alloc (Tu x0 x1 x2 x3)).drew):=(hK.alloc _).drew;have z1:wr.heap.size<((wr.alloc (Tu x0 x1 x2 x3)).drew).heap.size:=by rw[C9,AD];omega
      have z2:b<((wr.alloc (Tu x0 x1 x2 x3)).drew).heap.size:=by rw[C9,AD];omega
      go_region_held3 (fun w'=>w'.cell? ⟨wr.heap.size,3,none⟩=some (.int .i64 x3)/\w'.cell? ⟨b,o+r*4+3,none⟩=some (.int .i64 p))
       (first|go_keep|(go_split_ands;refine⟨?_,?_⟩<;>(rw[kk.cell (by assumption)];assumption)))
       ((first
        | (go_at_call 118;refine (FJ _ _ _ (RT.keep KK) (by rw[HL.out];omega)).mono ?_;rw[HG.out];rintro e wz ⟨rfl,kk⟩;have KK:=KK.trans kk;have z1:=Nat.lt_of_lt_of_le z1 kk.size;have z2:=Nat.lt_of_lt_of_le z2 kk.size)
        | (go_at_call 127;refine (TE _ _ _).mono ?_;rintro e wy ⟨rfl,rfl⟩)))
      all_goals
       go_wp2;go_ret;exact⟨by rw[HT.out];rfl,KK⟩
  ·
   obtain rfl:k=ds.length:=by omega
   go_wp2;go_ret;exact⟨by rw[hm.out];rfl,hK⟩
abbrev kL (v:Value)(t:Int):Obj:= .cells #[v,.int .i64 t] 112
theorem SW {ds:List Dd}{t:Int}(h5:ds.length<=5)(ha:ds.all FZ=true)(ht:FU ds ds.length=true)(h0:(bits .and .i64 (gC ds) t==0)=true):Cf ds t=true:=by
 rw[Cf,decide_eq_true h5,ha,ht,h0];rfl
theorem KH (w:World)(v:Value)(t:Int)(ds:List Dd)(h:KT w v ds)(hx:ds.length<=1048576):
  Calls Tryz.prog 100 #[.agg #[v,.int .i64 t]] w fun e w'=>e = .returned (.bool (Cf ds t))/\AC w w':=by
 have KK:AC w ((w.alloc (kL v t)).drew):=((AC.refl w).alloc _).drew;have z1:w.heap.size<((w.alloc (kL v t)).drew).heap.size:=by rw[C9,AD];omega
 obtain⟨a,c,hv,-⟩:=id h;subst hv;by_cases h5:ds.length<=5
 ·
  have e5:decide (ds.length<=5)=true:=decide_eq_true h5;have e5':decide ((ds.length:Int)<=5)=true:=decide_eq_true (by omega);have g5:(ds.length:Int)<=5:=by omega
  cases ha:ds.all FZ
  ·
   have HE:Hid (Cf ds t=false):=Lib.hid (by rw[Cf,ha];simp);go_enter Tryz.func100,Tryz.ntmps100
   go_wp2;refine wp_region_held_drew (S:=(fun w'=>w'.cell? ⟨w.heap.size,0,none⟩=some (.slice a ds.length (ds.length+c))/\w'.cell? ⟨w.heap.size,1,none⟩=some (.int .i64 t))) (by kernel_rfl) ?_ (fun hHeld=>?_)
   . go_keep
   refine AO 0 3 (v:=?_) ?_ ?_;rotate_left
   ·
    intro wx hSw;go_simp;with_reducible rfl
   refine AO 1 4 (v:=?_) ?_ ?_;rotate_left
   ·
    intro wx hSw;go_simp;with_reducible rfl
   simp only[Act.put,List.setIfInBounds_toArray,List.set_cons_zero,List.set_cons_succ];refine wpAnyH_ready (rs:=[2]) (by kernel_rfl) (by simp) ?_;refine AllReadyH.cons rfl (fun K hK=>?_) AllReadyH.nil;go_simp;refine (C7 _ _ _ _).mono ?_;rintro e wz ⟨rfl,rfl⟩;go_wp2_with fail
   refine hK.out _ _ ?_ (fun hHeld=>?_)
   . exact hHeld
   clear hK K;refine AO 3 6 (v:=?_) ?_ ?_;rotate_left
   ·
    intro wx hSw;go_simp;with_reducible rfl
   refine AO 4 7 (v:=?_) ?_ ?_;rotate_left
   ·
    intro wx hSw;go_simp;with_reducible rfl
   refine AO 5 8 (v:=?_) ?_ ?_;rotate_left
   ·
    intro wx hSw;go_simp;with_reducible rfl
   refine AO 6 9 (v:=?_) ?_ ?_;rotate_left
   ·
    intro wx hSw;go_simp;with_reducible rfl
   simp only[Act.put,List.setIfInBounds_toArray,List.set_cons_zero,List.set_cons_succ];refine wpAnyH_ready (rs:=[7]) (by kernel_rfl) (by simp) ?_;refine AllReadyH.cons rfl (fun K hK=>?_) AllReadyH.nil;go_simp;refine (El _ _ _ (h.keep KK) hx).mono ?_;rw[ha];rintro e wz1 ⟨rfl,kk⟩;have z0:=z1;have KK:=KK.trans kk;have z1:=Nat.lt_of_lt_of_le z1 kk.size;go_wp2_with fail
   refine hK.out _ _ ?_ (fun hHeld=>?_)
   . exact⟨(kk.cell z0).trans hHeld.1,(kk.cell z0).trans hHeld.2⟩
   clear hK K;refine AO 8 11 (v:=?_) ?_ ?_;rotate_left
   ·
    intro wx hSw;go_simp;with_reducible rfl
   refine AO 9 12 (v:=?_) ?_ ?_;rotate_left
   ·
    intro wx hSw;go_simp;with_reducible rfl
   simp only[Act.put,List.setIfInBounds_toArray,List.set_cons_zero,List.set_cons_succ];refine ES 10 13 rfl rfl (by kernel_rfl) (by kernel_rfl) (by kernel_rfl) (fun _ _ _ h=>h) (by rfl) (by assumption) ?_;simp only[Act.put,List.setIfInBounds_toArray,List.set_cons_zero,List.set_cons_succ];refine ES 11 14 rfl rfl (by kernel_rfl) (by kernel_rfl) (by kernel_rfl) (fun _ _ _ h=>h) (by rfl) (by assumption) ?_;simp only[Act.put,List.setIfInBounds_toArray,List.set_cons_zero,List.set_cons_succ];refine ES 12 15 rfl rfl (by kernel_rfl) (by kernel_rfl) (by kernel_rfl) (fun _ _ _ h=>h) (by rfl) (by assumption) ?_;refine AO 13 16 (v:=?_) ?_ ?_;rotate_left
   ·
    intro wx hSw;go_simp;with_reducible rfl
   refine AO 14 17 (v:=?_) ?_ ?_;rotate_left
   ·
    intro wx hSw;go_simp;with_reducible rfl
   simp only[Act.put,List.setIfInBounds_toArray,List.set_cons_zero,List.set_cons_succ];refine ES 15 18 rfl rfl (by kernel_rfl) (by kernel_rfl) (by kernel_rfl) (fun _ _ _ h=>h) (by rfl) (by assumption) ?_;simp only[Act.put,List.setIfInBounds_toArray,List.set_cons_zero,List.set_cons_succ];refine ES 16 19 rfl rfl (by kernel_rfl) (by kernel_rfl) (by kernel_rfl) (fun _ _ _ h=>h) (by rfl) (by assumption) ?_;simp only[Act.put,List.setIfInBounds_toArray,List.set_cons_zero,List.set_cons_succ];refine ES 17 20 rfl rfl (by kernel_rfl) (by kernel_rfl) (by kernel_rfl) (fun _ _ _ h=>h) (by rfl) (by assumption) ?_;simp only[Act.put,List.setIfInBounds_toArray,List.set_cons_zero,List.set_cons_succ];refine ES 18 21 rfl rfl (by kernel_rfl) (by kernel_rfl) (by kernel_rfl) (fun _ _ _ h=>h) (by rfl) (by assumption) ?_;simp only[Act.put,List.setIfInBounds_toArray,List.set_cons_zero,List.set_cons_succ];refine ES 19 22 rfl rfl (by kernel_rfl) (by kernel_rfl) (by kernel_rfl) (fun _ _ _ h=>h) (by rfl) (by assumption) ?_;simp only[Act.put,List.setIfInBounds_toArray,List.set_cons_zero,List.set_cons_succ];refine ES 20 23 rfl rfl (by kernel_rfl) (by kernel_rfl) (by kernel_rfl) (fun _ _ _ h=>h) (by rfl) (by assumption) ?_;simp only[Act.put,List.setIfInBounds_toArray,List.set_cons_zero,List.set_cons_succ];refine ES 21 24 rfl rfl (by kernel_rfl) (by kernel_rfl) (by kernel_rfl) (fun _ _ _ h=>h) (by rfl) (by assumption) ?_;refine AO 22 25 (v:=?_) ?_ ?_;rotate_left
   ·
    intro wx hSw;go_simp;with_reducible rfl
   refine AO 23 2 (v:=?_) ?_ ?_;rotate_left
   ·
    intro wx hSw;go_simp;with_reducible rfl
   simp only[Act.put,List.setIfInBounds_toArray,List.set_cons_zero,List.set_cons_succ];refine wpAnyH_done (by kernel_rfl) ?_ _;go_wp2;go_ret;exact⟨by rw[HE.out];rfl,KK⟩
  ·
   cases ht:FU ds ds.length
   ·
    have HE:Hid (Cf ds t=false):=Lib.hid (by rw[Cf,ht];simp);go_enter Tryz.func100,Tryz.ntmps100
    go_wp2;refine wp_region_held_drew (S:=(fun w'=>w'.cell? ⟨w.heap.size,0,none⟩=some (.slice a ds.length (ds.length+c))/\w'.cell? ⟨w.heap.size,1,none⟩=some (.int .i64 t))) (by kernel_rfl) ?_ (fun hHeld=>?_)
    . go_keep
    refine AO 0 3 (v:=?_) ?_ ?_;rotate_left
    ·
     intro wx hSw;go_simp;with_reducible rfl
    refine AO 1 4 (v:=?_) ?_ ?_;rotate_left
    ·
     intro wx hSw;go_simp;with_reducible rfl
    simp only[Act.put,List.setIfInBounds_toArray,List.set_cons_zero,List.set_cons_succ];refine wpAnyH_ready (rs:=[2]) (by kernel_rfl) (by simp) ?_;refine AllReadyH.cons rfl (fun K hK=>?_) AllReadyH.nil;go_simp;refine (C7 _ _ _ _).mono ?_;rintro e wz ⟨rfl,rfl⟩;go_wp2_with fail
    refine hK.out _ _ ?_ (fun hHeld=>?_)
    . exact hHeld
    clear hK K;refine AO 3 6 (v:=?_) ?_ ?_;rotate_left
    ·
     intro wx hSw;go_simp;with_reducible rfl
    refine AO 4 7 (v:=?_) ?_ ?_;rotate_left
    ·
     intro wx hSw;go_simp;with_reducible rfl
    refine AO 5 8 (v:=?_) ?_ ?_;rotate_left
    ·
     intro wx hSw;go_simp;with_reducible rfl
    refine AO 6 9 (v:=?_) ?_ ?_;rotate_left
    ·
     intro wx hSw;go_simp;with_reducible rfl
    simp only[Act.put,List.setIfInBounds_toArray,List.set_cons_zero,List.set_cons_succ];refine wpAnyH_ready (rs:=[7]) (by kernel_rfl) (by simp) ?_;refine AllReadyH.cons rfl (fun K hK=>?_) AllReadyH.nil;go_simp;refine (El _ _ _ (h.keep KK) hx).mono ?_;rw[ha];rintro e wz1 ⟨rfl,kk⟩;have z0:=z1;have KK:=KK.trans kk;have z1:=Nat.lt_of_lt_of_le z1 kk.size;go_wp2_with fail
    refine hK.out _ _ ?_ (fun hHeld=>?_)
    . exact⟨(kk.cell z0).trans hHeld.1,(kk.cell z0).trans hHeld.2⟩
    clear hK K;refine AO 8 11 (v:=?_) ?_ ?_;rotate_left
    ·
     intro wx hSw;go_simp;with_reducible rfl
    refine AO 9 12 (v:=?_) ?_ ?_;rotate_left
    ·
     intro wx hSw;go_simp;with_reducible rfl
    refine AO 10 13 (v:=?_) ?_ ?_;rotate_left
    ·
     intro wx hSw;go_simp;with_reducible rfl
    refine AO 11 14 (v:=?_) ?_ ?_;rotate_left
    ·
     intro wx hSw;go_simp;with_reducible rfl
    simp only[Act.put,List.setIfInBounds_toArray,List.set_cons_zero,List.set_cons_succ];refine wpAnyH_ready (rs:=[12]) (by kernel_rfl) (by simp) ?_;refine AllReadyH.cons rfl (fun K hK=>?_) AllReadyH.nil;go_simp;refine (EY _ _ _ (h.keep KK) hx).mono ?_;rw[ht];rintro e wz2 ⟨rfl,kk⟩;have z0:=z1;have KK:=KK.trans kk;have z1:=Nat.lt_of_lt_of_le z1 kk.size;go_wp2_with fail
    refine hK.out _ _ ?_ (fun hHeld=>?_)
    . exact⟨(kk.cell z0).trans hHeld.1,(kk.cell z0).trans hHeld.2⟩
    clear hK K;refine AO 13 16 (v:=?_) ?_ ?_;rotate_left
    ·
     intro wx hSw;go_simp;with_reducible rfl
    refine AO 14 17 (v:=?_) ?_ ?_;rotate_left
    ·
     intro wx hSw;go_simp;with_reducible rfl
    simp only[Act.put,List.setIfInBounds_toArray,List.set_cons_zero,List.set_cons_succ];refine ES 15 18 rfl rfl (by kernel_rfl) (by kernel_rfl) (by kernel_rfl) (fun _ _ _ h=>h) (by rfl) (by assumption) ?_;simp only[Act.put,List.setIfInBounds_toArray,List.set_cons_zero,List.set_cons_succ];refine ES 16 19 rfl rfl (by kernel_rfl) (by kernel_rfl) (by kernel_rfl) (fun _ _ _ h=>h) (by rfl) (by assumption) ?_;simp only[Act.put,List.setIfInBounds_toArray,List.set_cons_zero,List.set_cons_succ];refine ES 17 20 rfl rfl (by kernel_rfl) (by kernel_rfl) (by kernel_rfl) (fun _ _ _ h=>h) (by rfl) (by assumption) ?_;simp only[Act.put,List.setIfInBounds_toArray,List.set_cons_zero,List.set_cons_succ];refine ES 18 21 rfl rfl (by kernel_rfl) (by kernel_rfl) (by kernel_rfl) (fun _ _ _ h=>h) (by rfl) (by assumption) ?_;simp only[Act.put,List.setIfInBounds_toArray,List.set_cons_zero,List.set_cons_succ];refine ES 19 22 rfl rfl (by kernel_rfl) (by kernel_rfl) (by kernel_rfl) (fun _ _ _ h=>h) (by rfl) (by assumption) ?_;simp only[Act.put,List.setIfInBounds_toArray,List.set_cons_zero,List.set_cons_succ];refine ES 20 23 rfl rfl (by kernel_rfl) (by kernel_rfl) (by kernel_rfl) (fun _ _ _ h=>h) (by rfl) (by assumption) ?_;simp only[Act.put,List.setIfInBounds_toArray,List.set_cons_zero,List.set_cons_succ];refine ES 21 24 rfl rfl (by kernel_rfl) (by kernel_rfl) (by kernel_rfl) (fun _ _ _ h=>h) (by rfl) (by assumption) ?_;refine AO 22 25 (v:=?_) ?_ ?_;rotate_left
    ·
     intro wx hSw;go_simp;with_reducible rfl
    refine AO 23 2 (v:=?_) ?_ ?_;rotate_left
    ·
     intro wx hSw;go_simp;with_reducible rfl
    simp only[Act.put,List.setIfInBounds_toArray,List.set_cons_zero,List.set_cons_succ];refine wpAnyH_done (by kernel_rfl) ?_ _;go_wp2;go_ret;exact⟨by rw[HE.out];rfl,KK⟩
   ·
    cases h0:(bits .and .i64 (gC ds) t==0)
    ·
     have HE:Hid (Cf ds t=false):=Lib.hid (by rw[Cf,h0];simp);go_enter Tryz.func100,Tryz.ntmps100
     go_wp2
     go_region_held3 (fun w'=>w'.cell? ⟨w.heap.size,0,none⟩=some (.slice a ds.length (ds.length+c))/\w'.cell? ⟨w.heap.size,1,none⟩=some (.int .i64 t))
      (first|go_keep|(go_split_ands;refine⟨?_,?_⟩<;>(rw[kk.cell (by assumption)];assumption)))
      ((first
       | (go_at_call 101;refine (C7 _ _ _ _).mono ?_;rintro e wz ⟨rfl,rfl⟩)
       | (go_at_call 119;refine (El _ _ _ (h.keep KK) hx).mono ?_;rintro e wz ⟨rfl,kk⟩;have KK:=KK.trans kk;have z1:=Nat.lt_of_lt_of_le z1 kk.size)
       | (go_at_call 120;refine (EY _ _ _ (h.keep KK) hx).mono ?_;rintro e wz ⟨rfl,kk⟩;have KK:=KK.trans kk;have z1:=Nat.lt_of_lt_of_le z1 kk.size)
       | (go_at_call 118;refine (FJ _ _ _ (h.keep KK) hx).mono ?_;rintro e wz ⟨rfl,kk⟩;have KK:=KK.trans kk;have z1:=Nat.lt_of_lt_of_le z1 kk.size)
       | (go_at_call 121;refine (KL _ _ _).mono ?_;rintro e wz ⟨rfl,rfl⟩)))
     all_goals
      go_wp2;go_ret;exact⟨by rw[HE.out];rfl,KK⟩
    ·
     have HE:Hid (Cf ds t=true):=Lib.hid (SW h5 ha ht h0);go_enter Tryz.func100,Tryz.ntmps100
     go_wp2
     go_region_held3 (fun w'=>w'.cell? ⟨w.heap.size,0,none⟩=some (.slice a ds.length (ds.length+c))/\w'.cell? ⟨w.heap.size,1,none⟩=some (.int .i64 t))
      (first|go_keep|(go_split_ands;refine⟨?_,?_⟩<;>(rw[kk.cell (by assumption)];assumption)))
      ((first
       | (go_at_call 101;refine (C7 _ _ _ _).mono ?_;rintro e wz ⟨rfl,rfl⟩)
       | (go_at_call 119;refine (El _ _ _ (h.keep KK) hx).mono ?_;rintro e wz ⟨rfl,kk⟩;have KK:=KK.trans kk;have z1:=Nat.lt_of_lt_of_le z1 kk.size)
       | (go_at_call 120;refine (EY _ _ _ (h.keep KK) hx).mono ?_;rintro e wz ⟨rfl,kk⟩;have KK:=KK.trans kk;have z1:=Nat.lt_of_lt_of_le z1 kk.size)
       | (go_at_call 118;refine (FJ _ _ _ (h.keep KK) hx).mono ?_;rintro e wz ⟨rfl,kk⟩;have KK:=KK.trans kk;have z1:=Nat.lt_of_lt_of_le z1 kk.size)
       | (go_at_call 121;refine (KL _ _ _).mono ?_;rintro e wz ⟨rfl,rfl⟩)))
     all_goals
      go_wp2;go_ret;exact⟨by rw[HE.out];rfl,KK⟩
 ·
  have e5:decide (ds.length<=5)=false:=decide_eq_false h5;have e5':decide ((ds.length:Int)<=5)=false:=decide_eq_false (by omega);have HE:Hid (Cf ds t=false):=Lib.hid (by rw[Cf,e5];rfl);go_enter Tryz.func100,Tryz.ntmps100
  go_wp2;go_quiet ((go_at_call 101;exact Calls.quiet_of_same (C7 _ _ _ _)))
  go_wp2;go_ret;exact⟨by rw[HE.out];rfl,((AC.refl w).alloc _).drewN _⟩
theorem Tryz.mF:(Tryz.prog.info? 112).map (fun i=>(i.zero,i.size,i.bytes))=some (some (.agg #[.slice none 0 0,.int .i64 0]),2,32):=by kernel_rfl
abbrev Zq (v:Value)(t:Int):Obj:= .cells #[v,.int .i64 t] 112
def jf (w:World)(v:Value)(AA:List (List Dd)):Prop:=
 ∃(a:Option Addr) (cap:Nat),v = .slice a AA.length cap /\
  (AA=[]\/∃b,a=some ⟨b,0,none⟩/\b<w.heap.size/\∀i,i<AA.length->∃vi,w.cell? ⟨b,i*2,none⟩=some vi/\KT w vi (AA.getD i [])/\w.cell? ⟨b,i*2+1,none⟩=some (.int .i64 (GJ AA i)))
theorem jf.keep {w w':World}{v:Value}{AA:List (List Dd)}(h:jf w v AA)(k:AC w w'):jf w' v AA:=by
 obtain⟨a,cap,hv,h⟩:=h;refine⟨a,cap,hv,?_⟩;rcases h with h|⟨b,ha,hb,hc⟩
 . exact .inl h
 ·
  refine .inr ⟨b,ha,Nat.lt_of_lt_of_le hb k.size,fun i hi=>?_⟩;obtain⟨vi,h1,h2,h3⟩:=hc i hi;exact⟨vi,(k.cell hb).trans h1,h2.keep k,(k.cell hb).trans h3⟩
def JL (V:Nat->Value)(AA:List (List Dd))(k:Nat):List Value:=(List.range k).flatMap fun i=>[V i,.int .i64 (GJ AA i)]
theorem Il (V:Nat->Value)(AA:List (List Dd))(k:Nat):JL V AA (k+1)=JL V AA k++[V k,.int .i64 (GJ AA k)]:=by
 unfold JL;rw[List.range_succ,List.flatMap_append];simp
theorem Jm (V:Nat->Value)(AA:List (List Dd)):∀k,(JL V AA k).length=k*2
 | 0=>rfl
 |k+1=>by rw[Il,List.length_append,Jm V AA k];simp;omega
theorem Lc (V:Nat->Value)(AA:List (List Dd)):∀k i,i<k->(JL V AA k)[i*2]? = some (V i)/\(JL V AA k)[i*2+1]? = some (.int .i64 (GJ AA i))
 | 0,i,h=>by omega
 |k+1,i,h=>by
  rw[Il];by_cases e:i<k
  ·
   have ih:=Lc V AA k i e;have hl:=Jm V AA k;rw[List.getElem?_append_left (by omega),List.getElem?_append_left (by omega)];exact ih
  ·
   obtain rfl:i=k:=by omega
   have hl:=Jm V AA i;rw[List.getElem?_append_right (by omega),List.getElem?_append_right (by omega),hl];simp
theorem gQ {w0 w:World}{base:Nat}{v:Value}{V:Nat->Value}{AA:List (List Dd)}(h:w.ownsRow base 112 2 v AA.length (JL V AA AA.length))(k:AC w0 w)(hV:∀i,i<AA.length->KT w0 (V i) (AA.getD i [])):jf w v AA:=by
 have h2:=h;have hlt:=World.ownsRow.lt h;rcases h.2 with ⟨rfl,hn⟩|⟨g,cap,cur,rfl,hb,hg,_,_,hs,_⟩
 ·
  have:AA=[]:=List.eq_nil_of_length_eq_zero hn;subst this;exact⟨none,0,rfl,.inl rfl⟩
 ·
  refine⟨_,_,rfl,.inr ⟨g,rfl,(hlt g rfl).2,fun i hi=>?_⟩⟩;have hc:=Lc V AA AA.length i hi;have c1:=World.ownsRow.cellAt h2 (i*2) (by omega);have c2:=World.ownsRow.cellAt h2 (i*2+1) (by omega);exact⟨V i,by rw[c1,hc.1],(hV i hi).keep k,by rw[c2,hc.2]⟩
theorem JM (w0 w:World)(kw:AC w0 w)(v:Value)(AA:List (List Dd))(h:Ic w0 v AA)(hx:AA.length<=3)(hm:∀i,i<AA.length->(AA.getD i []).length<=1048576):
  Calls Tryz.prog 99 #[v] w fun e w'=>∃v',e = .returned v'/\(∃V:Nat->Value,w'.ownsRow w.heap.size 112 2 v' AA.length (JL V AA AA.length)/\∀i,i<AA.length->KT w0 (V i) (AA.getD i []))/\AC w w':=by
 obtain⟨a,c,rfl,h⟩:=h;have start:(w.alloc (.cells #[] 112)).ownsRow w.heap.size 112 2 (.slice (some ⟨w.heap.size,0,none⟩) 0 0) 0 []:=World.ownsRow_lit w #[] 0 (Nat.le_refl _) (by decide) rfl;obtain⟨i0,hi,hz0,hz1,hz2⟩:=info_parts Tryz.mF
 obtain⟨V,hV⟩:∃V:Nat->Value,∀i,i<AA.length->KT w0 (V i) (AA.getD i [])/\∀b o,a=some ⟨b,o,none⟩->b<w0.heap.size/\w0.cell? ⟨b,o+i,none⟩=some (V i):=by
  rcases h with h|⟨b,o,rfl,hb,hc⟩
  . exact⟨fun _=>Value.bool false,fun i hi=>by rw[h] at hi;simp at hi⟩
  ·
   obtain⟨V,hV⟩:=Deep.choose_lt hc;refine⟨V,fun i hi=>⟨(hV i hi).2,fun b' o' e=>?_⟩⟩;simp only[Option.some.injEq,Addr.mk.injEq,and_true] at e;obtain⟨rfl,rfl⟩:=e;exact⟨hb,(hV i hi).1⟩
 have hA:AA.length=0\/∃b o,a=some ⟨b,o,none⟩:=by
  rcases h with h|⟨b,o,rfl,hb,hc⟩
  . left;rw[h];rfl
  . exact .inr ⟨b,o,rfl⟩
 clear h;go_enter Tryz.func99,Tryz.ntmps99
 go_wp2;go_loopw [3,4,11] (fun x t i wr=>∃k:Nat,k<=AA.length/\i = .int .i64 k/\t = .int .i64 (GJ AA k)/\wr.ownsRow w.heap.size 112 2 x k (JL V AA k)/\AC w wr) (fun _ _ i _=>AA.length-(intOf i).toNat)
 case atStart=>exact⟨0,Nat.zero_le _,rfl,rfl,start,(AC.refl w).alloc _⟩
 case round=>
  obtain⟨k,hk,rfl,rfl,ho,hK⟩:=hrel;clear start;by_cases hlt:k<AA.length
  ·
   obtain⟨b,o,rfl⟩:∃b o,a=some ⟨b,o,none⟩:=hA.resolve_left (by omega);obtain⟨hR,hC⟩:=hV k hlt;obtain⟨hb,hC⟩:=hC b o rfl;have hmk:=hm k hlt;have HM:=Lib.hid (Il V AA k);have HT:Hid (GJ AA (k+1)=bits .or .i64 (GJ AA k) (gC (AA.getD k []))):=Lib.hid rfl;have HV:=Lib.hid hV;clear hV hm hA;obtain⟨ds,hds⟩:∃ds,ds=AA.getD k []:=⟨_,rfl⟩;rw[<-hds] at hR hmk HT;clear hds;generalize GJ AA k=t at HM HT;have hK0:=kw.trans hK;have d1:=(hK0.cell hb).trans hC;have R1:=hR.keep hK0;obtain⟨u,hu⟩:∃u,u=V k:=⟨_,rfl⟩;rw[<-hu] at d1 R1 HM;have R0:=hR;rw[<-hu] at R0;clear hu hC hR;obtain⟨ai,ci,rfl,-⟩:=id R1;have hbw:b<wr.heap.size:=Nat.lt_of_lt_of_le hb hK0.size;have hsz:=hK.size;have i1:(0:Int)<=(k:Int):=Int.natCast_nonneg _;have i2:(k:Int)<(AA.length:Int):=by omega
   have ho2:=World.ownsRow.kept ho (((AC.refl wr).alloc (Zq (.slice ai ds.length (ds.length+ci)) t)).alloc (.cells #[.slice ai ds.length (ds.length+ci),.int .i64 t] 112)).grownBy (by cases u3.ownBlock<;>simp);go_wp2_with (at_builtin;refine wpList_append_own_at _ rfl _ _ 107 rfl w.heap.size 112 i0 (.agg #[.slice none 0 0,.int .i64 0]) 2 32 Tryz.underlying107 hi hz0 hz1 hz2 rfl (by decide) _ _ _ rfl ho2 ⟨_,0,none⟩ 1 1 [.slice ai ds.length (ds.length+ci),.int .i64 t] rfl rfl ?c1 ?c2 ?c3 ?c4 ?c5 ?_)
   case c1=>
    intro j u hj
    match j,hj with
    | 0,hj=>simp at hj;subst hj;simp[Addr.add]
    | 1,hj=>simp at hj;subst hj;simp[Addr.add]
    |n+2,hj=>simp at hj
   case c2=>intro u hu;simp at hu;rcases hu with rfl|rfl<;>rfl
   case c3=>unfold maxLen;first|omega|(simp;omega)
   case c4=>first|omega|(simp;omega)
   case c5=>first|omega|(simp;omega)
   intro v' w2 hown' hgrow _ _;rw[<-HM.out] at hown';have hK2:AC w w2:=((hK.alloc _).alloc _).grown hgrow (fun g hg=>(World.ownsRow.lt ho g hg).1)
   have lQ:w2.heap[wr.heap.size]? = some (Zq (.slice ai ds.length (ds.length+ci)) t):=
    (hgrow.block wr.heap.size (by rw[AD,AD];omega) (fun e=>by have:=(World.ownsRow.lt ho _ e.symm).2;omega)).trans (by rw[Bj,if_neg (by rw[AD];omega),Bj,if_pos rfl])
   have b0:w2.cell? ⟨wr.heap.size,0,none⟩=some (.slice ai ds.length (ds.length+ci)):=by rw[cell_of_row w2 _ 0 _ _ (0,0) lQ];rfl
   have R2:=R0.keep (kw.trans hK2);clear hgrow lQ;go_wp2_with fail
   refine (FJ _ _ _ R2 hmk).mono ?_;rintro e w3 ⟨rfl,k3⟩;have ho3:=World.ownsRow.kept hown' k3.grownBy (by cases v'.ownBlock<;>simp);go_wp2_with fail
   refine (Sa _ _ _).mono ?_;rintro e w4 ⟨rfl,rfl⟩;go_wp2;go_roundw;case rel=>exact⟨k+1,by omega,by go_num,by rw[HT.out],ho3,hK2.trans k3⟩
   case measure=>simp[intOf];omega
  ·
   obtain rfl:k=AA.length:=by omega
   go_wp2;go_ret;exact⟨_,rfl,⟨V,ho,fun i hi=>(hV i hi).1⟩,hK⟩
theorem OS (w:World)(v:Value)(AA:List (List Dd))(h:Ic w v AA)(hx:AA.length<=3)(hm:∀i,i<AA.length->(AA.getD i []).length<=1048576):
  Calls Tryz.prog 99 #[v] w fun e w'=>∃v',e = .returned v'/\jf w' v' AA/\AC w w':=
 (JM w w (AC.refl w) v AA h hx hm).mono fun _ _ ⟨v',he,⟨_,ho,hV⟩,hK⟩=>⟨v',he,gQ ho hK hV,hK⟩
def ah (w0 wc w:World)(v:Value)(AA:List (List Dd)):Prop:=
 ∃(b c:Nat) (V:Nat->Value),v = .slice (some ⟨b,0,none⟩) AA.length c/\wc.heap.size<=b/\b<w.heap.size /\
  ∀i,i<AA.length->KT w0 (V i) (AA.getD i [])/\w.cell? ⟨b,i*2,none⟩=some (V i)/\w.cell? ⟨b,i*2+1,none⟩=some (.int .i64 (GJ AA i))
theorem Po (w0 w:World)(kw:AC w0 w)(v:Value)(AA:List (List Dd))(h:Ic w0 v AA)(h1:1<=AA.length)(hx:AA.length<=3)(hm:∀i,i<AA.length->(AA.getD i []).length<=1048576):
  Calls Tryz.prog 99 #[v] w fun e w'=>∃v',e = .returned v'/\ah w0 w w' v' AA/\AC w w':=by
 refine (JM w0 w kw v AA h hx hm).mono fun _ w' ⟨v',he,⟨V,ho,hV⟩,hK⟩=>⟨v',he,?_,hK⟩
 have hlt:=World.ownsRow.lt ho;have h2:=ho;rcases ho.2 with ⟨_,hn⟩|⟨g,cap,cur,rfl,hb,hg,_,_,hs,_⟩
 . omega
 ·
  refine⟨g,cap,V,rfl,hb,(hlt g rfl).2,fun i hi=>?_⟩;have hc:=Lc V AA AA.length i hi;have c1:=World.ownsRow.cellAt h2 (i*2) (by omega);have c2:=World.ownsRow.cellAt h2 (i*2+1) (by omega);exact⟨hV i hi,by rw[c1,hc.1],by rw[c2,hc.2]⟩
theorem MD (d:List Dd):∀l:List (List Dd),Cy (l++[d])=Cy l+d.length
 | []=>by simp[Cy]
 |x::r=>by rw[List.cons_append,Cy,Cy,MD d r];omega
theorem Sc {α:Type}(l:List α)(k:Nat)(z:α)(h:k<l.length):l.take (k+1)=l.take k++[l.getD k z]:=by
 rw[List.take_add_one,List.getElem?_eq_getElem h,List.getD_eq_getElem?_getD,List.getElem?_eq_getElem h];rfl
theorem SV {ds:List Dd}{t:Int}(h:Cf ds t=true):ds.length<=5:=by
 simp only[Cf,Bool.and_eq_true,decide_eq_true_eq] at h;exact h.1.1.1
theorem Cx (w:World)(v:Value)(AA:List (List Dd))(h:Ic w v AA)(hx:AA.length<=1048576)(hm:∀i,i<AA.length->(AA.getD i []).length<=1048576):
  Calls Tryz.prog 70 #[v] w fun e w'=>e = .returned (.bool (AW AA))/\AC w w':=by
 have RW:=h;obtain⟨a,c,rfl,h⟩:=h;clear h;have HW:=Lib.hid (Q5 AA);cases hb:CX (AA.length:Int) 1 3
 ·
  have HE:Hid (AW AA=false):=by
   refine Lib.hid ?_;simp[CX] at hb;rw[HW.out,decide_eq_false (by omega)];rfl
  go_enter Tryz.func70,Tryz.ntmps70
  go_wp2_with (go_at_call 42;refine (BF _ _ _ _).mono ?_;rintro e w' ⟨rfl,rfl⟩)
  go_ret;exact⟨by rw[HE.out];rfl,AC.refl _⟩
 ·
  have h13:1<=AA.length/\AA.length<=3:=by simp[CX] at hb;omega
  have HW2:Hid (AW AA=(Bo AA AA.length&&decide (Cy AA<=12)&&decide (Pw AA AA.length<=6))):=Lib.hid (by rw[HW.out,decide_eq_true h13];rfl);have h3:=h13.2;clear h13 HW;go_enter Tryz.func70,Tryz.ntmps70
  go_wp2_with fail
  refine (BF _ _ _ _).mono ?_;rintro e w' ⟨rfl,rfl⟩;go_wp2_with fail
  refine (OS _ _ _ RW h3 hm).mono ?_;rintro e w1 ⟨v1,rfl,rc,k1⟩;clear hb RW;obtain⟨a1,c1,rfl,rc⟩:=rc;go_wp2;go_loopw [3,4,14] (fun n m i wr=>∃k x:Nat,∃y:Int,k<=AA.length/\n = .int .i64 x/\m = .int .i64 y/\i = .int .i64 k/\Hid (x=Cy (AA.take k)/\y=Pw AA k/\Bo AA k=true)/\x<=5*k/\0<=y/\y<=10*k/\AC w1 wr) (fun _ _ i _=>AA.length-(intOf i).toNat)
  case atStart=>exact⟨0,0,0,Nat.zero_le _,rfl,rfl,rfl,Lib.hid ⟨by simp[Cy],rfl,rfl⟩,by omega,by omega,by omega,AC.refl _⟩
  case round=>
   obtain⟨k,x,y,hk,rfl,rfl,rfl,hM,x5,y0,y1,hK⟩:=hrel;by_cases hlt:k<AA.length
   ·
    rcases rc with h|⟨b,rfl,hb,hc⟩
    . exfalso;rw[h] at hlt;simp at hlt
    obtain⟨vi,e1,r1,e2⟩:=hc k hlt;have hmk:=hm k hlt;clear hc hm;have HR:Hid (Bo AA (k+1)=(Bo AA k&&Cf (AA.getD k []) (GJ AA k))):=Lib.hid rfl;have HV:Hid (Pw AA (k+1)=Pw AA k+NN (AA.getD k []) (AA.getD k []).length):=Lib.hid rfl;have HN:Hid (Cy (AA.take (k+1))=Cy (AA.take k)+(AA.getD k []).length):=Lib.hid (by rw[Sc AA k [] hlt,MD]);obtain⟨ds,hds⟩:∃ds,ds=AA.getD k []:=⟨_,rfl⟩;rw[<-hds] at r1 hmk HR HV HN;clear hds;generalize GJ AA k=t at e2 HR;have d1:=(hK.cell hb).trans e1;have d2:=(hK.cell hb).trans e2;have r1:=r1.keep hK;obtain⟨ai,ci,rfl,-⟩:=id r1;have hbw:b<wr.heap.size:=Nat.lt_of_lt_of_le hb hK.size;have i1:(0:Int)<=(k:Int):=Int.natCast_nonneg _;have i2:(k:Int)<(AA.length:Int):=by omega
    clear e1 e2;cases hr:Cf ds t
    ·
     have HE:Hid (AW AA=false):=Lib.hid (by
      rw[HW2.out,Fu (k:=k+1) (by rw[HR.out,hr];simp) _ hlt]
      rfl)
     have HRR:=Lib.hid hr;clear hr;go_wp2_with fail
     refine (KH _ _ _ _ (r1.keep ((AC.refl _).alloc _)) hmk).mono ?_;rw[HRR.out];rintro e wz ⟨rfl,kk⟩;go_wp2;go_ret;exact⟨by rw[HE.out];rfl,k1.trans ((hK.alloc _).trans kk)⟩
    ·
     have l5:=SV hr;have HRR:=Lib.hid hr;have EK:=Vz ds ds.length;clear hr;go_wp2_with fail
     refine (KH _ _ _ _ (r1.keep ((AC.refl _).alloc _)) hmk).mono ?_;rw[HRR.out];rintro e wz ⟨rfl,kk⟩;have b0:wz.cell? ⟨wr.heap.size,0,none⟩=some (.slice ai ds.length (ds.length+ci)):=AS kk 0;have bs:wr.heap.size<wz.heap.size:=Fy kk;have r2:=r1.keep (((AC.refl _).alloc _).trans kk);have hKz:=(hK.alloc (.cells #[.slice ai ds.length (ds.length+ci),.int .i64 t] 112)).trans kk;clear d1 d2 kk;go_wp2_with fail
     refine (C7 _ _ _ _).mono ?_;rintro e w3 ⟨rfl,rfl⟩;go_wp2_with fail
     refine (Rn _ _ _ r2 hmk).mono ?_;rintro e w4 ⟨rfl,k4⟩;have HH:Hid (x+ds.length=Cy (AA.take (k+1))/\y+NN ds ds.length=Pw AA (k+1)/\Bo AA (k+1)=true):=Lib.hid ⟨by rw[HN.out,hM.out.1],by rw[HV.out,hM.out.2.1],by rw[HR.out,hM.out.2.2,HRR.out];rfl⟩;generalize NN ds ds.length=ev at EK HH;go_wp2;go_roundw;case rel=>exact⟨k+1,x+ds.length,y+ev,by omega,by go_num,by go_num,by go_num,HH,by omega,by omega,by omega,hKz.trans k4⟩
     case measure=>simp[intOf];omega
   ·
    obtain rfl:k=AA.length:=by omega
    rw[List.take_length] at hM;have HE:Hid (AW AA=(decide (x<=12)&&decide (y<=6))):=Lib.hid (by rw[HW2.out,hM.out.2.2,hM.out.1,hM.out.2.1];rfl);clear hM HW2 rc hm;by_cases h12:x<=12
    ·
     have e12:(x:Int)<=12:=by omega
     by_cases h6:y<=6
     ·
      go_wp2;go_ret;exact⟨by rw[HE.out,decide_eq_true h12,decide_eq_true h6];rfl,k1.trans hK⟩
     ·
      have e6:(6:Int)<y:=by omega
      go_wp2;go_ret;exact⟨by rw[HE.out,decide_eq_true h12,decide_eq_false (show ¬y<=6 by omega)];rfl,k1.trans hK⟩
    ·
     have e12:(12:Int)<(x:Int):=by omega
     go_wp2;go_ret;exact⟨by rw[HE.out,decide_eq_false (show ¬x<=12 by omega)];rfl,k1.trans hK⟩
def YH (w w':World)(e:Ending)(vs:Array Value):Prop:=
 ∃B,e = .returned (.slice (some ⟨B,0,none⟩) vs.size vs.size)/\w'.heap[B]? = some (.cells vs 124)/\w.heap.size<=B/\AC w w'
theorem Up (p v g:Int)(w:World):Calls Tryz.prog 108 #[Fe 1 p v g] w fun e w'=>YH w w' e #[Uh p]:=by
 go_enter Tryz.func108,Tryz.ntmps108
 go_wp2;go_ret;exact⟨w.heap.size+1,rfl,by rw[Bj,if_pos (AD w _).symm],by omega,((AC.refl w).alloc _).alloc _⟩
theorem Us (p v g:Int)(w:World):Calls Tryz.prog 108 #[Fe 2 p v g] w fun e w'=>YH w w' e #[Sg p v]:=by
 go_enter Tryz.func108,Tryz.ntmps108
 go_wp2;go_ret;exact⟨w.heap.size+1,rfl,by rw[Bj,if_pos (AD w _).symm],by omega,((AC.refl w).alloc _).alloc _⟩
theorem Uq (p v g:Int)(w:World):Calls Tryz.prog 108 #[Fe 3 p v g] w fun e w'=>YH w w' e #[Uh p,Sg p v]:=by
 go_enter Tryz.func108,Tryz.ntmps108
 go_wp2;go_ret;exact⟨w.heap.size+1,rfl,by rw[Bj,if_pos (AD w _).symm],by omega,((AC.refl w).alloc _).alloc _⟩
theorem Ur (p v g:Int)(w:World):Calls Tryz.prog 108 #[Fe 4 p v g] w fun e w'=>YH w w' e #[]:=by
 go_enter Tryz.func108,Tryz.ntmps108
 go_wp2;go_ret;exact⟨w.heap.size+1,rfl,by rw[Bj,if_pos (AD w _).symm],by omega,((AC.refl w).alloc _).alloc _⟩
theorem GS (w:World)(v:Value)(ds:List Dd)(h:KT w v ds)(k:Nat)(hk:k<ds.length)(hx:ds.length<=1048576):
  Calls Tryz.prog 107 #[v,.int .i64 k] w fun e w'=>e = .returned (.bool (GQ ds k))/\AC w w':=by
 obtain⟨a,c,rfl,h⟩:=h;rcases h with h|⟨b,o,rfl,hb,hc⟩
 . exfalso;rw[h] at hk;simp at hk
 have A3:=(hc k hk).2.2.2;have i1:(0:Int)<=(k:Int):=Int.natCast_nonneg _;have i2:(k:Int)<(ds.length:Int):=by omega
 have HP:Hid (GQ ds k=(decide (0<k)&&((ds.getD k zD).2.2.2 != 0)&&((ds.getD k zD).2.2.2==(ds.getD (k-1) zD).2.2.2))):=Lib.hid rfl;by_cases h0:k=0
 ·
  have HT:Hid (GQ ds k=false):=Lib.hid (by rw[HP.out];simp[h0]);have d0:decide (0<k)=false:=by simp[h0]
  generalize (ds.getD k zD).2.2.2=x3 at A3;clear HP hc h0;go_enter Tryz.func107,Tryz.ntmps107
  go_wp2;go_quiet (fail)
  go_wp2;go_ret;exact⟨by rw[HT.out];rfl,(AC.refl w).drewN _⟩
 ·
  obtain⟨r,rfl⟩:∃r:Nat,k=r+1:=⟨k-1,by omega⟩;rw[Nat.add_sub_cancel] at HP;have B3:=(hc r (by omega)).2.2.2;clear hc h0;have j1:(0:Int)<=(r:Int):=Int.natCast_nonneg _;have j2:(r:Int)<(ds.length:Int):=by omega
  have d2:(r:Int)+1<(ds.length:Int):=by omega
  have d6:(0:Int)<=(r:Int)+1:=by omega
  have d3:IntKind.i64.wrap (r:Int)=(r:Int):=by rw[IntKind.wrap_i64];omega
  have d4:wrap64 (r:Int)=(r:Int):=Du _ (by omega) (by omega);generalize (ds.getD (r+1) zD).2.2.2=x3 at A3 HP;generalize (ds.getD r zD).2.2.2=y3 at B3 HP;by_cases e0:x3=0
  ·
   have HT:Hid (GQ ds (r+1)=false):=Lib.hid (by rw[HP.out];simp[e0]);have q0:(x3 != 0)=false:=by simp[e0]
   clear HP e0;go_enter Tryz.func107,Tryz.ntmps107
   go_wp2;go_quiet (fail)
   go_wp2;go_ret;exact⟨by rw[HT.out];rfl,(AC.refl w).drewN _⟩
  ·
   have q0:(x3 != 0)=true:=by simp[e0]
   have q1:(decide (0<r+1))=true:=by simp
   have HT:Hid (GQ ds (r+1)=(x3==y3)):=Lib.hid (by rw[HP.out,q0,q1];simp);clear HP e0 q1;go_enter Tryz.func107,Tryz.ntmps107
   go_wp2;go_quiet (fail)
   go_wp2;go_ret;exact⟨by rw[HT.out];rfl,(AC.refl w).drewN _⟩
theorem EJ (w:World)(v:Value)(es:List Ev)(h:Xl w v es)(hx:es.length<=1048576)(h1:1<=es.length)(go:Bool):
  Calls Tryz.prog 106 #[v,.bool go] w fun e w'=>e = .returned (.int .i64 (Mn es go))/\AC w w':=by
 obtain⟨a,c,rfl,h⟩:=h;rcases h with h|⟨b,o,rfl,hb,hc⟩
 . exfalso;rw[h] at h1;simp at h1
 cases go
 ·
  have HT:Hid (Mn es false=(es.length:Int)):=Lib.hid (by simp[Mn]);go_enter Tryz.func106,Tryz.ntmps106
  go_wp2;go_ret;exact⟨by rw[HT.out];rfl,AC.refl w⟩
 ·
  obtain⟨m,hm⟩:∃m,es.length=m+1:=⟨es.length-1,by omega⟩;have AT:=hc m _ (Ko (by omega));have HT:Hid (Mn es true=Vu (es.getD m zE)):=Lib.hid (by simp[Mn,MC,hm]);generalize es.getD m zE=e at AT HT;obtain⟨x0,x1,x2,x3,x4,x5⟩:=e;obtain⟨-,-,-,-,-,A5⟩:=ig AT;clear AT hc;rw[hm];have j1:(0:Int)<=(m:Int):=Int.natCast_nonneg _;have d3:IntKind.i64.wrap (m:Int)=(m:Int):=by rw[IntKind.wrap_i64];omega
  have d4:wrap64 (m:Int)=(m:Int):=Du _ (by omega) (by omega);clear hm;go_enter Tryz.func106,Tryz.ntmps106
  go_wp2;go_ret;exact⟨by rw[HT.out];rfl,AC.refl w⟩
theorem Sf {AA:List (List Dd)}(h:AW AA=true):1<=AA.length/\AA.length<=3/\∀i,i<AA.length->Ft (AA.getD i [])=true:=by
 simp only[AW,Bool.and_eq_true,decide_eq_true_eq] at h;obtain⟨⟨⟨⟨h1,h2⟩,_⟩,_⟩,_⟩:=h;exact⟨h1.1,h1.2,fun i hi=>BR [] h2 i hi⟩
abbrev cO (v:Value)(t:Int):Obj:= .cells #[v,.int .i64 t] 112
abbrev dO (k p v g:Int):Obj:= .cells #[.int .i64 k,.int .i64 p,.int .i64 v,.int .i64 g] 51
theorem EB (w:World)(v:Value)(AA:List (List Dd))(h:Ic w v AA)(hx:AA.length<=1048576)(hm:∀i,i<AA.length->(AA.getD i []).length<=1048576):
  Calls Tryz.prog 74 #[v] w fun e w'=>∃v',e = .returned v'/\IR w' w.heap.size v' (AB AA)/\AC w w':=by
 cases hb:AW AA
 ·
  have HE:Hid (AB AA=[]):=Lib.hid (by rw[AB,hb];rfl);have O:∀w1:World,AC w w1->IR (w1.alloc (.cells #[] 89)) w.heap.size (.slice (some ⟨w1.heap.size,0,none⟩) 0 0) []:=fun w1 k1=>World.ownsRow_lit w1 #[] 0 k1.size (by decide) (by simp)
  go_enter Tryz.func74,Tryz.ntmps74
  go_wp2_with fail
  refine (Cx _ _ _ h hx hm).mono ?_;rintro e w1 ⟨rfl,k1⟩;go_wp2;go_ret;exact⟨_,rfl,by rw[HE.out];exact O w1 k1,k1.alloc _⟩
 ·
  obtain⟨h1,h3,u2⟩:=Sf hb;have HE:Hid (AB AA=Ro AA AA.length):=Lib.hid (by rw[AB,if_pos hb,(NO hb AA.length (Nat.le_refl _)).1]);obtain⟨j0,hj,hy0,hy1,hy2⟩:=info_parts Tryz.WR;go_enter Tryz.func74,Tryz.ntmps74
  go_wp2_with fail
  refine (Cx _ _ _ h hx hm).mono ?_;rintro e w0 ⟨rfl,k0⟩;go_wp2_with fail
  refine (Ha _).mono ?_;rintro e w1 ⟨x1,rfl,a1,k1⟩;go_wp2_with fail
  refine (Po w _ (k0.trans k1) _ _ h h1 h3 hm).mono ?_;rintro e w2 ⟨v2,rfl,rc,k2⟩;have K01:AC w0 w2:=k1.trans k2;have hsz0:=k0.size;clear hb h hm hx;obtain⟨b,c1,V,rfl,hbl,hbu,hc⟩:=rc;have HR:∀i,i<AA.length->KT w (V i) (AA.getD i []):=fun i hi=>(hc i hi).1
  obtain⟨ob,Jj⟩:∃ob,w2.heap[b]? = some ob:=⟨_,Array.getElem?_eq_getElem hbu⟩
  have HC:∀wq:World,wq.heap[b]? = some ob->∀i,i<AA.length->wq.cell? ⟨b,i*2,none⟩=some (V i)/\wq.cell? ⟨b,i*2+1,none⟩=some (.int .i64 (GJ AA i)):=fun wq hq i hi=>by
   have e:wq.heap[b]? = w2.heap[b]?:=hq.trans Jj.symm;have f:∀j,wq.cell? ⟨b,j,none⟩=w2.cell? ⟨b,j,none⟩:=fun j=>by simp only[World.cell?,e]
   exact⟨(f _).trans (hc i hi).2.1,(f _).trans (hc i hi).2.2⟩
  clear hc;have L0:LP w0 w2 x1 B5 [(b,ob)]:=LP.add ⟨a1.keep k2,K01,by simp⟩ b ob (fun e=>by have:=(a1.lt _ e).2;omega) Jj;clear a1 Jj hbl;go_wp2;go_loopw [3,20] (fun x i wr=>∃k:Nat,∃es:List Ev,k<=AA.length/\i = .int .i64 k/\Hid (es=Ro AA k)/\1<=es.length/\es.length<=3+10*k/\LP w0 wr x es [(b,ob)]) (fun _ i _=>AA.length-(intOf i).toNat)
  case atStart=>exact⟨0,B5,Nat.zero_le _,rfl,Lib.hid rfl,by decide,by decide,L0⟩
  case round=>
   clear L0 K01 k2 hbu;obtain⟨k,es,hk,rfl,hE,he1,hel,hL⟩:=hrel;by_cases hlt:k<AA.length
   ·
    have r1:=HR k hlt;have hKw:AC w wr:=k0.trans hL.keep;obtain⟨d1,d2⟩:=HC wr (hL.held b ob (by simp)).2 k hlt;have hbw:=hL.lt (n:=b) (o:=ob) (by simp);have Ku:=u2 k hlt;have HV:Hid (Ro AA (k+1)=Jn k (AA.getD k []) es (AA.getD k []).length):=Lib.hid (by rw[Ro,hE.out]);obtain⟨ds,hds⟩:∃ds,ds=AA.getD k []:=⟨_,rfl⟩;rw[<-hds] at r1 Ku HV;clear hds;generalize GJ AA k=t at d2;obtain⟨u,hu⟩:∃u,u=V k:=⟨_,rfl⟩;rw[<-hu] at d1 r1;clear hu;have R1:=r1;obtain⟨ai,ci,rfl,r1⟩:=r1;have hl5:ds.length<=5:=by simp[Ft] at Ku;omega
    have i1:(0:Int)<=(k:Int):=Int.natCast_nonneg _;have i2:(k:Int)<(AA.length:Int):=by omega
    obtain⟨wo,hwo⟩:∃wo:World,wo=wr:=⟨_,rfl⟩;subst hwo;have L1:=hL.new (cO (.slice ai ds.length (ds.length+ci)) t);go_wp2;go_loopw [3,28] (fun x i wq=>∃q:Nat,∃evs:List Ev,q<=ds.length/\i = .int .i64 q/\Hid (evs=Jn k ds es q)/\1<=evs.length/\evs.length<=3+10*k+2*q/\LP w0 wq x evs [(wo.heap.size,cO (.slice ai ds.length (ds.length+ci)) t),(b,ob)]) (fun _ i _=>ds.length-(intOf i).toNat)
    case atStart=>exact⟨0,es,Nat.zero_le _,rfl,Lib.hid rfl,he1,by omega,L1⟩
    case round=>
     clear L1 d1 d2;obtain⟨q,evs,hq,rfl,hC,hv1,hev,hI⟩:=hrel;by_cases hlq:q<ds.length
     ·
      have si:AC w wr:=k0.trans hI.keep;have R2:=R1.keep si;rcases r1 with h|⟨b2,o2,rfl,hb2,hc2⟩
      . exfalso;rw[h] at hlq;simp at hlq
      have AT:=(hc2 q hlq).keep hb2 si
      have TW:FZ (ds.getD q zD)=true:=by
       simp only[Ft,Bool.and_eq_true] at Ku;exact BR zD Ku.1 q hlq
      clear hc2 Ku;have hb3:b2<wr.heap.size:=Nat.lt_of_lt_of_le hb2 si.size;have HST:Hid (Jn k ds es (q+1)=evs++Ck k q (ds.getD q zD) (Mn evs (GQ ds q))):=Lib.hid (by rw[Jn,hC.out]);clear hC;obtain⟨d,hd⟩:∃d,d=ds.getD q zD:=⟨_,rfl⟩;rw[<-hd] at AT TW HST;clear hd;have KD:=CG TW;obtain⟨x0,x1,x2,x3⟩:=d;obtain⟨A0,A1,A2,A3⟩:=AT;simp only at A0 A1 A2 A3 KD;have j1:(0:Int)<=(q:Int):=Int.natCast_nonneg _;have j2:(q:Int)<(ds.length:Int):=by omega
      have z5:=hI.lt (n:=wo.heap.size) (o:=cO (.slice (some ⟨b2,o2,none⟩) ds.length (ds.length+ci)) t) (by simp);have c5:wr.cell? ⟨wo.heap.size,0,none⟩=some (.slice (some ⟨b2,o2,none⟩) ds.length (ds.length+ci)):=(hI.held wo.heap.size (cO (.slice (some ⟨b2,o2,none⟩) ds.length (ds.length+ci)) t) (by simp)) |>.2 |> fun h=>cell_of_row wr _ 0 _ _ (0,0) h
      clear TW;rcases KD with rfl|rfl|rfl|rfl
      ·
       have HS:Hid (Jn k ds es (q+1)=evs++Ck k q (1,x1,x2,x3) (Mn evs (GQ ds q))):=HST;clear HST;have L2:=hI.new (dO 1 x1 x2 x3);have K2:AC wr (wr.alloc (dO 1 x1 x2 x3)):=(AC.refl wr).alloc _;have R3:=R2.keep K2;go_wp2_with fail
       refine (GS _ _ _ R3 q hlq (by omega)).mono ?_;rintro e w3 ⟨rfl,k3⟩;have L3:=L2.more k3;go_wp2_with fail
       refine (EJ _ _ _ L3.app.rd (by omega) hv1 _).mono ?_;generalize GQ ds q=go at HS;generalize hcl:Mn evs go=cl at HS;clear hcl;rintro e w4 ⟨rfl,k4⟩;have L4:=L3.more k4;have z7:=L4.lt (n:=wr.heap.size) (o:=dO 1 x1 x2 x3) (by simp);have s0:w4.cell? ⟨wr.heap.size,0,none⟩=some (.int .i64 1):=L4.cell (n:=wr.heap.size) (cs:=#[.int .i64 1,.int .i64 x1,.int .i64 x2,.int .i64 x3]) (t:=51) (by simp) 0;have s1:w4.cell? ⟨wr.heap.size,1,none⟩=some (.int .i64 x1):=L4.cell (n:=wr.heap.size) (cs:=#[.int .i64 1,.int .i64 x1,.int .i64 x2,.int .i64 x3]) (t:=51) (by simp) 1;have s2:w4.cell? ⟨wr.heap.size,2,none⟩=some (.int .i64 x2):=L4.cell (n:=wr.heap.size) (cs:=#[.int .i64 1,.int .i64 x1,.int .i64 x2,.int .i64 x3]) (t:=51) (by simp) 2;have s3:w4.cell? ⟨wr.heap.size,3,none⟩=some (.int .i64 x3):=L4.cell (n:=wr.heap.size) (cs:=#[.int .i64 1,.int .i64 x1,.int .i64 x2,.int .i64 x3]) (t:=51) (by simp) 3;clear A0 A1 A2 A3 c5 L2 L3 R3 K2;go_wp2_with fail
       refine (Up _ _ _ _).mono ?_;rintro e w5 ⟨B,rfl,hB,hBl,k5⟩;have L5:=L4.later k5 hBl hB;clear L4 s0 s1 s2 s3 z7 hI;have z8:=L5.lt (n:=B) (o:= .cells #[Uh x1] 124) (by simp);have c6:w5.cell? ⟨B,0,none⟩=some (Uh x1):=L5.cell (n:=B) (cs:=#[Uh x1]) (t:=124) (by simp) 0;go_wp2;refine wp_loop_rounds 2 ?_;rw[rounds_succ];go_wp2_with fail
       refine (Lj _ _).mono ?_;rintro e wa0 ⟨rfl,ka0⟩;have VF:=L5.more ka0;have VG:=(VF.more ((AC.refl wa0).alloc (eO k q true x1 0 cl))).more ((AC.refl _).alloc (eO k q true x1 0 cl));have hs0:w0.heap.size<=wa0.heap.size:=VF.keep.size;go_wp2_with (at_builtin;refine wpList_append_own_at _ rfl _ _ 69 rfl w0.heap.size 89 j0 (.agg #[.int .i64 0,.int .i64 0,.bool false,.int .i64 0,.int .i64 0,.int .i64 0]) 6 48 Tryz.underlying69 hj hy0 hy1 hy2 rfl (by decide) _ _ _ rfl VG.app ⟨_,0,none⟩ 1 1 (cE ((k:Int),(q:Int),true,x1,0,cl)) rfl rfl ?Vf ?Vg ?Vh ?Vi ?Vj ?_)
       case Vf=>exact JJ _ _ (AD _ _) _ _ _ _ _ _
       case Vg=>exact JK _
       case Vh=>unfold maxLen;first|omega|(simp;omega)
       case Vi=>first|omega|(simp;omega)
       case Vj=>first|omega|(simp;omega)
       intro v0' wb0 hown' hgrow _ hblk;have YF:=VG.hit _ hown' hgrow (by rw[AD,AD];exact hblk);clear hgrow hown' hblk VG VF L5;go_wp2;rw[rounds_succ];go_wp2;go_roundw;case rel=>exact⟨q+1,_,by omega,by go_num,Lib.hid (by rw[HS.out];simp[Ck]),by first|omega|(simp<;>omega),by first|omega|(simp<;>omega),YF.less (fun y hy=>by simp only[List.mem_cons,List.not_mem_nil,or_false] at hy ⊢;rcases hy with rfl|rfl<;>simp)⟩
       case measure=>simp[intOf];omega
      ·
       have HS:Hid (Jn k ds es (q+1)=evs++Ck k q (2,x1,x2,x3) (Mn evs (GQ ds q))):=HST;clear HST;have L2:=hI.new (dO 2 x1 x2 x3);have K2:AC wr (wr.alloc (dO 2 x1 x2 x3)):=(AC.refl wr).alloc _;have R3:=R2.keep K2;go_wp2_with fail
       refine (GS _ _ _ R3 q hlq (by omega)).mono ?_;rintro e w3 ⟨rfl,k3⟩;have L3:=L2.more k3;go_wp2_with fail
       refine (EJ _ _ _ L3.app.rd (by omega) hv1 _).mono ?_;generalize GQ ds q=go at HS;generalize hcl:Mn evs go=cl at HS;clear hcl;rintro e w4 ⟨rfl,k4⟩;have L4:=L3.more k4;have z7:=L4.lt (n:=wr.heap.size) (o:=dO 2 x1 x2 x3) (by simp);have s0:w4.cell? ⟨wr.heap.size,0,none⟩=some (.int .i64 2):=L4.cell (n:=wr.heap.size) (cs:=#[.int .i64 2,.int .i64 x1,.int .i64 x2,.int .i64 x3]) (t:=51) (by simp) 0;have s1:w4.cell? ⟨wr.heap.size,1,none⟩=some (.int .i64 x1):=L4.cell (n:=wr.heap.size) (cs:=#[.int .i64 2,.int .i64 x1,.int .i64 x2,.int .i64 x3]) (t:=51) (by simp) 1;have s2:w4.cell? ⟨wr.heap.size,2,none⟩=some (.int .i64 x2):=L4.cell (n:=wr.heap.size) (cs:=#[.int .i64 2,.int .i64 x1,.int .i64 x2,.int .i64 x3]) (t:=51) (by simp) 2;have s3:w4.cell? ⟨wr.heap.size,3,none⟩=some (.int .i64 x3):=L4.cell (n:=wr.heap.size) (cs:=#[.int .i64 2,.int .i64 x1,.int .i64 x2,.int .i64 x3]) (t:=51) (by simp) 3;clear A0 A1 A2 A3 c5 L2 L3 R3 K2;go_wp2_with fail
       refine (Us _ _ _ _).mono ?_;rintro e w5 ⟨B,rfl,hB,hBl,k5⟩;have L5:=L4.later k5 hBl hB;clear L4 s0 s1 s2 s3 z7 hI;have z8:=L5.lt (n:=B) (o:= .cells #[Sg x1 x2] 124) (by simp);have c6:w5.cell? ⟨B,0,none⟩=some (Sg x1 x2):=L5.cell (n:=B) (cs:=#[Sg x1 x2]) (t:=124) (by simp) 0;go_wp2;refine wp_loop_rounds 2 ?_;rw[rounds_succ];go_wp2_with fail
       refine (Iq _ _ _).mono ?_;rintro e wa0 ⟨rfl,ka0⟩;have VF:=L5.more ka0;have VG:=(VF.more ((AC.refl wa0).alloc (eO k q false x1 x2 cl))).more ((AC.refl _).alloc (eO k q false x1 x2 cl));have hs0:w0.heap.size<=wa0.heap.size:=VF.keep.size;go_wp2_with (at_builtin;refine wpList_append_own_at _ rfl _ _ 69 rfl w0.heap.size 89 j0 (.agg #[.int .i64 0,.int .i64 0,.bool false,.int .i64 0,.int .i64 0,.int .i64 0]) 6 48 Tryz.underlying69 hj hy0 hy1 hy2 rfl (by decide) _ _ _ rfl VG.app ⟨_,0,none⟩ 1 1 (cE ((k:Int),(q:Int),false,x1,x2,cl)) rfl rfl ?Vf ?Vg ?Vh ?Vi ?Vj ?_)
       case Vf=>exact JJ _ _ (AD _ _) _ _ _ _ _ _
       case Vg=>exact JK _
       case Vh=>unfold maxLen;first|omega|(simp;omega)
       case Vi=>first|omega|(simp;omega)
       case Vj=>first|omega|(simp;omega)
       intro v0' wb0 hown' hgrow _ hblk;have YF:=VG.hit _ hown' hgrow (by rw[AD,AD];exact hblk);clear hgrow hown' hblk VG VF L5;go_wp2;rw[rounds_succ];go_wp2;go_roundw;case rel=>exact⟨q+1,_,by omega,by go_num,Lib.hid (by rw[HS.out];simp[Ck]),by first|omega|(simp<;>omega),by first|omega|(simp<;>omega),YF.less (fun y hy=>by simp only[List.mem_cons,List.not_mem_nil,or_false] at hy ⊢;rcases hy with rfl|rfl<;>simp)⟩
       case measure=>simp[intOf];omega
      ·
       have HS:Hid (Jn k ds es (q+1)=evs++Ck k q (3,x1,x2,x3) (Mn evs (GQ ds q))):=HST;clear HST;have L2:=hI.new (dO 3 x1 x2 x3);have K2:AC wr (wr.alloc (dO 3 x1 x2 x3)):=(AC.refl wr).alloc _;have R3:=R2.keep K2;go_wp2_with fail
       refine (GS _ _ _ R3 q hlq (by omega)).mono ?_;rintro e w3 ⟨rfl,k3⟩;have L3:=L2.more k3;go_wp2_with fail
       refine (EJ _ _ _ L3.app.rd (by omega) hv1 _).mono ?_;generalize GQ ds q=go at HS;generalize hcl:Mn evs go=cl at HS;clear hcl;rintro e w4 ⟨rfl,k4⟩;have L4:=L3.more k4;have z7:=L4.lt (n:=wr.heap.size) (o:=dO 3 x1 x2 x3) (by simp);have s0:w4.cell? ⟨wr.heap.size,0,none⟩=some (.int .i64 3):=L4.cell (n:=wr.heap.size) (cs:=#[.int .i64 3,.int .i64 x1,.int .i64 x2,.int .i64 x3]) (t:=51) (by simp) 0;have s1:w4.cell? ⟨wr.heap.size,1,none⟩=some (.int .i64 x1):=L4.cell (n:=wr.heap.size) (cs:=#[.int .i64 3,.int .i64 x1,.int .i64 x2,.int .i64 x3]) (t:=51) (by simp) 1;have s2:w4.cell? ⟨wr.heap.size,2,none⟩=some (.int .i64 x2):=L4.cell (n:=wr.heap.size) (cs:=#[.int .i64 3,.int .i64 x1,.int .i64 x2,.int .i64 x3]) (t:=51) (by simp) 2;have s3:w4.cell? ⟨wr.heap.size,3,none⟩=some (.int .i64 x3):=L4.cell (n:=wr.heap.size) (cs:=#[.int .i64 3,.int .i64 x1,.int .i64 x2,.int .i64 x3]) (t:=51) (by simp) 3;clear A0 A1 A2 A3 c5 L2 L3 R3 K2;go_wp2_with fail
       refine (Uq _ _ _ _).mono ?_;rintro e w5 ⟨B,rfl,hB,hBl,k5⟩;have L5:=L4.later k5 hBl hB;clear L4 s0 s1 s2 s3 z7 hI;have z8:=L5.lt (n:=B) (o:= .cells #[Uh x1,Sg x1 x2] 124) (by simp);have c6:w5.cell? ⟨B,0,none⟩=some (Uh x1):=L5.cell (n:=B) (cs:=#[Uh x1,Sg x1 x2]) (t:=124) (by simp) 0;have c7:w5.cell? ⟨B,1,none⟩=some (Sg x1 x2):=L5.cell (n:=B) (cs:=#[Uh x1,Sg x1 x2]) (t:=124) (by simp) 1;go_wp2;refine wp_loop_rounds 3 ?_;rw[rounds_succ];go_wp2_with fail
       refine (Lj _ _).mono ?_;rintro e wa0 ⟨rfl,ka0⟩;have VF:=L5.more ka0;have VG:=(VF.more ((AC.refl wa0).alloc (eO k q true x1 0 cl))).more ((AC.refl _).alloc (eO k q true x1 0 cl));have hs0:w0.heap.size<=wa0.heap.size:=VF.keep.size;go_wp2_with (at_builtin;refine wpList_append_own_at _ rfl _ _ 69 rfl w0.heap.size 89 j0 (.agg #[.int .i64 0,.int .i64 0,.bool false,.int .i64 0,.int .i64 0,.int .i64 0]) 6 48 Tryz.underlying69 hj hy0 hy1 hy2 rfl (by decide) _ _ _ rfl VG.app ⟨_,0,none⟩ 1 1 (cE ((k:Int),(q:Int),true,x1,0,cl)) rfl rfl ?Vf ?Vg ?Vh ?Vi ?Vj ?_)
       case Vf=>exact JJ _ _ (AD _ _) _ _ _ _ _ _
       case Vg=>exact JK _
       case Vh=>unfold maxLen;first|omega|(simp;omega)
       case Vi=>first|omega|(simp;omega)
       case Vj=>first|omega|(simp;omega)
       intro v0' wb0 hown' hgrow _ hblk;have YF:=VG.hit _ hown' hgrow (by rw[AD,AD];exact hblk);clear hgrow hown' hblk VG VF L5;obtain⟨ev1,hev1⟩:∃ev1,ev1=evs++[((k:Int),(q:Int),true,x1,0,cl)]:=⟨_,rfl⟩;rw[<-hev1] at YF;have pG:=Lib.hid hev1;have hl1:ev1.length<=evs.length+1:=by rw[hev1];simp
       clear hev1;clear c6 c7 z8;have z8:=YF.lt (n:=B) (o:= .cells #[Uh x1,Sg x1 x2] 124) (by simp);have c7:wb0.cell? ⟨B,1,none⟩=some (Sg x1 x2):=YF.cell (n:=B) (cs:=#[Uh x1,Sg x1 x2]) (t:=124) (by simp) 1;go_wp2;rw[rounds_succ];go_wp2_with fail
       refine (Iq _ _ _).mono ?_;rintro e wa1 ⟨rfl,ka1⟩;have rF:=YF.more ka1;have rG:=(rF.more ((AC.refl wa1).alloc (eO k q false x1 x2 cl))).more ((AC.refl _).alloc (eO k q false x1 x2 cl));have hs1:w0.heap.size<=wa1.heap.size:=rF.keep.size;go_wp2_with (at_builtin;refine wpList_append_own_at _ rfl _ _ 69 rfl w0.heap.size 89 j0 (.agg #[.int .i64 0,.int .i64 0,.bool false,.int .i64 0,.int .i64 0,.int .i64 0]) 6 48 Tryz.underlying69 hj hy0 hy1 hy2 rfl (by decide) _ _ _ rfl rG.app ⟨_,0,none⟩ 1 1 (cE ((k:Int),(q:Int),false,x1,x2,cl)) rfl rfl ?rf ?rq ?sD ?sG ?sH ?_)
       case rf=>exact JJ _ _ (AD _ _) _ _ _ _ _ _
       case rq=>exact JK _
       case sD=>unfold maxLen;first|omega|(simp;omega)
       case sG=>first|omega|(simp;omega)
       case sH=>first|omega|(simp;omega)
       intro v1' wb1 hown' hgrow _ hblk;have Lc1:=rG.hit _ hown' hgrow (by rw[AD,AD];exact hblk);clear hgrow hown' hblk rG rF YF;go_wp2;rw[rounds_succ];go_wp2;go_roundw;case rel=>exact⟨q+1,_,by omega,by go_num,Lib.hid (by rw[HS.out,pG.out];simp[Ck]),by first|omega|(simp<;>omega),by first|omega|(simp<;>omega),Lc1.less (fun y hy=>by simp only[List.mem_cons,List.not_mem_nil,or_false] at hy ⊢;rcases hy with rfl|rfl<;>simp)⟩
       case measure=>simp[intOf];omega
      ·
       have HS:Hid (Jn k ds es (q+1)=evs++Ck k q (4,x1,x2,x3) (Mn evs (GQ ds q))):=HST;clear HST;have L2:=hI.new (dO 4 x1 x2 x3);have K2:AC wr (wr.alloc (dO 4 x1 x2 x3)):=(AC.refl wr).alloc _;have R3:=R2.keep K2;go_wp2_with fail
       refine (GS _ _ _ R3 q hlq (by omega)).mono ?_;rintro e w3 ⟨rfl,k3⟩;have L3:=L2.more k3;go_wp2_with fail
       refine (EJ _ _ _ L3.app.rd (by omega) hv1 _).mono ?_;generalize GQ ds q=go at HS;generalize hcl:Mn evs go=cl at HS;clear hcl;rintro e w4 ⟨rfl,k4⟩;have L4:=L3.more k4;have z7:=L4.lt (n:=wr.heap.size) (o:=dO 4 x1 x2 x3) (by simp);have s0:w4.cell? ⟨wr.heap.size,0,none⟩=some (.int .i64 4):=L4.cell (n:=wr.heap.size) (cs:=#[.int .i64 4,.int .i64 x1,.int .i64 x2,.int .i64 x3]) (t:=51) (by simp) 0;have s1:w4.cell? ⟨wr.heap.size,1,none⟩=some (.int .i64 x1):=L4.cell (n:=wr.heap.size) (cs:=#[.int .i64 4,.int .i64 x1,.int .i64 x2,.int .i64 x3]) (t:=51) (by simp) 1;have s2:w4.cell? ⟨wr.heap.size,2,none⟩=some (.int .i64 x2):=L4.cell (n:=wr.heap.size) (cs:=#[.int .i64 4,.int .i64 x1,.int .i64 x2,.int .i64 x3]) (t:=51) (by simp) 2;have s3:w4.cell? ⟨wr.heap.size,3,none⟩=some (.int .i64 x3):=L4.cell (n:=wr.heap.size) (cs:=#[.int .i64 4,.int .i64 x1,.int .i64 x2,.int .i64 x3]) (t:=51) (by simp) 3;clear A0 A1 A2 A3 c5 L2 L3 R3 K2;go_wp2_with fail
       refine (Ur _ _ _ _).mono ?_;rintro e w5 ⟨B,rfl,hB,hBl,k5⟩;have L5:=L4.later k5 hBl hB;clear L4 s0 s1 s2 s3 z7 hI;have z8:=L5.lt (n:=B) (o:= .cells #[] 124) (by simp);go_wp2;refine wp_loop_rounds 1 ?_;rw[rounds_succ];go_wp2;go_roundw;case rel=>exact⟨q+1,_,by omega,by go_num,Lib.hid (by rw[HS.out];simp[Ck]),by first|omega|(simp<;>omega),by first|omega|(simp<;>omega),L5.less (fun y hy=>by simp only[List.mem_cons,List.not_mem_nil,or_false] at hy ⊢;rcases hy with rfl|rfl<;>simp)⟩
       case measure=>simp[intOf];omega
     ·
      obtain rfl:q=ds.length:=by omega
      go_wp2;go_roundw;case rel=>exact⟨k+1,evs,by omega,by go_num,Lib.hid (by rw[HV.out];exact hC.out),hv1,by omega,hI.less (fun y hy=>by simp only[List.mem_cons,List.not_mem_nil,or_false] at hy ⊢;subst hy;simp)⟩
      case measure=>simp[intOf];omega
   ·
    obtain rfl:k=AA.length:=by omega
    go_wp2;go_ret;exact⟨_,rfl,by rw[HE.out,<-hE.out];exact VS hL.app hsz0,k0.trans hL.keep⟩
end Go.Proofs.YtgakfkjjkobpiaaGreat
