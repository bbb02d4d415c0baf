/- Gathered texts. -/
import Derived.BigRegion
import Derived.Lib.Hide
import Derived.Deep.CutRange
import Derived.Test.YtnmelakgmgenjaaGreatMJ
import Derived.Deep.QuietTactic
import Derived.BigQuiet
import Derived.Deep.Cut
import Derived.Maps.AppendAt
import Derived.Laws.AppendOwn
import Derived.RegionTactic
import Derived.Laws.OwnMore
import Derived.OwnWalk
import Derived.Deep.RegionHeld3
set_option maxRecDepth 100000
set_option maxHeartbeats 8000000
namespace Go.Proofs.YtnmelakgmgenjaaGreat
open Go.ChangeShapes Go.WideShapes Go.ChangeAt Go.RowKit
theorem bg {d:Dd}(h:FW d=true):d.1=1\/d.1=2\/d.1=3\/d.1=4:=by
 simp[FW,D2] at h;omega
theorem YE {d:Dd}(h:FW d=true):0<=d.2.2.2/\d.2.2.2<=9:=by
 simp[FW,D2] at h;omega
theorem KY (w:World)(v:Value)(AA:List (List Dd))(h:Fz w v AA)(hx:AA.length<=3)(hok:∀i,i<AA.length->Fu (AA.getD i [])=true):
  Calls Tryz.prog 46 #[v] w fun e w'=>e = .returned (.int .i64 (SQ AA AA.length))/\AC w w':=by
 obtain⟨a,c,rfl,h⟩:=h;go_enter Tryz.func46,Tryz.ntmps46
 go_wp2;go_loopw [3,4] (fun n i wr=>∃k:Nat,∃m:Int,k<=AA.length/\n = .int .i64 m/\i = .int .i64 k/\Hid (m=SQ AA k)/\0<=m/\m<=10*k/\AC w wr) (fun _ i _=>AA.length-(intOf i).toNat)
 case atStart=>exact⟨0,0,Nat.zero_le _,rfl,rfl,Lib.hid rfl,by omega,by omega,AC.refl _⟩
 case round=>
  obtain⟨k,m,hk,rfl,rfl,hm,m0,m1,hK⟩:=hrel;by_cases hlt:k<AA.length
  ·
   rcases h with h|⟨b,o,rfl,hb,hc⟩
   . exfalso;rw[h] at hlt;simp at hlt
   obtain⟨u,e1,r1⟩:=hc k hlt;have d1:=(hK.cell hb).trans e1;have r1:=r1.keep hK;have Mp:=hok k hlt;clear hc e1 hok;obtain⟨ds,hds⟩:∃ds,ds=AA.getD k []:=⟨_,rfl⟩;have MV:=Lib.hid hds;rw[<-hds] at r1 Mp;clear hds;obtain⟨ai,ci,rfl,r1⟩:=r1;have i1:(0:Int)<=(k:Int):=Int.natCast_nonneg _;have i2:(k:Int)<(AA.length:Int):=by omega
   have hl5:ds.length<=5:=by simp[Fu] at Mp;omega
   have hbw:b<wr.heap.size:=Nat.lt_of_lt_of_le hb hK.size;go_wp2;obtain⟨wo,hwo⟩:∃wo:World,wo=wr:=⟨_,rfl⟩;subst hwo;go_loopw [3,5] (fun n i wq=>∃q:Nat,∃t:Int,q<=ds.length/\n = .int .i64 t/\i = .int .i64 q/\Hid (t=m+PW ds q)/\0<=t/\t<=10*k+2*q/\AC wo wq) (fun _ i _=>ds.length-(intOf i).toNat)
   case atStart=>exact⟨0,m,Nat.zero_le _,rfl,rfl,Lib.hid (by simp[PW]),by omega,by omega,AC.refl _⟩
   case round=>
    obtain⟨q,t,hq,rfl,rfl,ht,t0,t1,hQ⟩:=hrel;have d1:=(hQ.cell hbw).trans d1;have hbq:b<wr.heap.size:=Nat.lt_of_lt_of_le hbw hQ.size;by_cases hlq:q<ds.length
    ·
     rcases r1 with h|⟨b2,o2,rfl,hb2,hc2⟩
     . exfalso;rw[h] at hlq;simp at hlq
     have AT:=(hc2 q hlq).keep hb2 hQ
     have WE:FW (ds.getD q zD)=true:=by
      simp only[Fu,Bool.and_eq_true] at Mp;exact Bo zD Mp.1 q hlq
     clear hc2 Mp;have hb3:b2<wr.heap.size:=Nat.lt_of_lt_of_le hb2 hQ.size;have tN:Hid (t+UV (ds.getD q zD)=m+PW ds (q+1)):=Lib.hid (by rw[PW,ht.out];omega);clear ht;obtain⟨d,hd⟩:∃d,d=ds.getD q zD:=⟨_,rfl⟩;rw[<-hd] at AT WE tN;clear hd;have KD:=bg WE;obtain⟨x0,x1,x2,x3⟩:=d;obtain⟨A0,-,-,-⟩:=AT;simp only at A0 KD;have j1:(0:Int)<=(q:Int):=Int.natCast_nonneg _;have j2:(q:Int)<(ds.length:Int):=by omega
     rcases KD with rfl|rfl|rfl|rfl
     all_goals
      go_wp2;go_roundw;case rel=>exact⟨q+1,_,by omega,rfl,by go_num,Lib.hid (by have:=tN.out;simp[UV] at this;omega),by omega,by omega,hQ.alloc _⟩
      case measure=>simp[intOf];omega
    ·
     obtain rfl:q=ds.length:=by omega
     go_wp2;go_roundw;case rel=>exact⟨k+1,t,by omega,rfl,by go_num,Lib.hid (by rw[SQ,<-MV.out,ht.out,hm.out]),t0,by omega,hK.trans hQ⟩
     case measure=>simp[intOf];omega
  ·
   obtain rfl:k=AA.length:=by omega
   go_wp2;go_ret;exact⟨by rw[hm.out];rfl,hK⟩
theorem Sq:(madeCells (Value.int .i64 0).cells (10*1)).toList=((List.replicate 10 (0:Int)).map (Value.int .i64)):=by
 rw[Nat.mul_one,List.map_replicate];exact toList_madeCells_one _ _
theorem Z6 {i:Nat}{own o:List Int}{ds:List Dd}{k:Nat}(h:Cn i own ds k=some o)(hg:(ds.getD k zD).2.2.2=0):Cn i own ds (k+1)=some o:=by
 rw[Cn,h];simp only[hg,if_true]
theorem jd {i:Nat}{own o:List Int}{ds:List Dd}{k:Nat}(h:Cn i own ds k=some o)(hg:(ds.getD k zD).2.2.2≠0)
  (hb:o.getD (ds.getD k zD).2.2.2.toNat 0≠0/\(o.getD (ds.getD k zD).2.2.2.toNat 0≠(i:Int)+1\/k=0\/(ds.getD (k-1) zD).2.2.2≠(ds.getD k zD).2.2.2)):Cn i own ds (k+1)=none:=by
 rw[Cn,h];simp only;rw[if_neg hg,if_pos hb]
theorem je {i:Nat}{own o:List Int}{ds:List Dd}{k:Nat}(h:Cn i own ds k=some o)(hg:(ds.getD k zD).2.2.2≠0)
  (hb:¬(o.getD (ds.getD k zD).2.2.2.toNat 0≠0/\(o.getD (ds.getD k zD).2.2.2.toNat 0≠(i:Int)+1\/k=0\/(ds.getD (k-1) zD).2.2.2≠(ds.getD k zD).2.2.2))):
  Cn i own ds (k+1)=some (o.set (ds.getD k zD).2.2.2.toNat ((i:Int)+1)):=by
 rw[Cn,h];simp only;rw[if_neg hg,if_neg hb]
theorem Qh {AA:List (List Dd)}{k:Nat}{own:List Int}(hk:k<AA.length)(h:Ec AA k=some own){q:Nat}(hq:q<=(AA.getD k []).length)(hn:Cn k own (AA.getD k []) q=none):KR AA=false:=by
 have h1:Ec AA (k+1)=none:=by
  rw[Ec,h];exact La hn _ hq
 rw[KR,Lb h1 _ hk];rfl
theorem Qv (w:World)(v:Value)(AA:List (List Dd))(h:Fz w v AA)(hx:AA.length<=3)(hok:∀i,i<AA.length->Fu (AA.getD i [])=true):
  Calls Tryz.prog 47 #[v] w fun e w'=>e = .returned (.bool (KR AA))/\AC w w':=by
 obtain⟨a,c,rfl,h⟩:=h;obtain⟨i0,hi,hz0,hz1,hz2⟩:=info_parts Tryz.GI;go_enter Tryz.func47,Tryz.ntmps47
 go_wp2_with (at_make;refine wpList_make_full _ rfl _ _ 28 rfl w.heap.size 2 i0 (.int .i64 0) 1 Tryz.underlying28 hi hz0 hz1 .i64 .i64 _ _ 10 rfl rfl rfl rfl (by rw[hz2];omega) (by unfold maxLen;omega) (Nat.le_refl _) ?_;intro w1 hown hgrow)
 have k1:AC w w1:=(AC.refl w).grown hgrow (by simp)
 have rb:Ch w1 w.heap.size (List.replicate 10 0):=by
  have o:BO w1 w.heap.size (.slice (some ⟨w.heap.size,0,none⟩) 10 10) (List.replicate 10 0):=by
   rw[Sq] at hown;unfold BO;simpa using hown
  rcases o.row with ⟨e,_⟩|⟨g,cap,e,_,hr⟩
  . cases e
  ·
   have e1:=congrArg Value.ownBlock e;simp[Value.ownBlock] at e1;rw[e1];exact hr
 clear hgrow hown hi hz0 hz1 hz2;go_loopw [4] (fun i wr=>∃k:Nat,∃own:List Int,k<=AA.length/\i = .int .i64 k/\Hid (Ec AA k=some own)/\Ch wr w.heap.size own/\AC w wr) (fun i _=>AA.length-(intOf i).toNat)
 case atStart=>exact⟨0,List.replicate 10 0,Nat.zero_le _,rfl,Lib.hid rfl,rb,k1⟩
 case round=>
  obtain⟨k,own,hk,rfl,hG,hR,hK⟩:=hrel;clear rb k1;by_cases hlt:k<AA.length
  ·
   rcases h with h|⟨b,o,rfl,hb,hc⟩
   . exfalso;rw[h] at hlt;simp at hlt
   obtain⟨u,e1,r1⟩:=hc k hlt;have Mp:=hok k hlt;clear hc hok;obtain⟨ds,hds⟩:∃ds,ds=AA.getD k []:=⟨_,rfl⟩;have MV:=Lib.hid hds;rw[<-hds] at r1 Mp;clear hds;obtain⟨ai,ci,rfl,r1⟩:=r1;have d1:=(hK.cell hb).trans e1;have i1:(0:Int)<=(k:Int):=Int.natCast_nonneg _;have i2:(k:Int)<(AA.length:Int):=by omega
   have hl5:ds.length<=5:=by simp[Fu] at Mp;omega
   go_wp2;go_loopw [5] (fun i wq=>∃q:Nat,∃ow:List Int,q<=ds.length/\i = .int .i64 q/\Hid (Cn k own ds q=some ow)/\Ch wq w.heap.size ow/\AC w wq) (fun i _=>ds.length-(intOf i).toNat)
   case atStart=>exact⟨0,own,Nat.zero_le _,rfl,Lib.hid rfl,hR,hK⟩
   case round=>
    obtain⟨q,ow,hq,rfl,hQ,hS,hL⟩:=hrel;have d1:=(hL.cell hb).trans e1;by_cases hlq:q<ds.length
    ·
     rcases r1 with h|⟨b2,o2,rfl,hb2,hc2⟩
     . exfalso;rw[h] at hlq;simp at hlq
     have A3:=((hc2 q hlq).keep hb2 hL).2.2.2
     have WE:FW (ds.getD q zD)=true:=by
      simp only[Fu,Bool.and_eq_true] at Mp;exact Bo zD Mp.1 q hlq
     have g09:0<=(ds.getD q zD).2.2.2/\(ds.getD q zD).2.2.2<=9:=YE WE;clear Mp WE;have AP:0<q->wr.cell? ⟨b2,o2+(q-1)*4+3,none⟩=some (.int .i64 (ds.getD (q-1) zD).2.2.2):=fun _=>((hc2 (q-1) (by omega)).keep hb2 hL).2.2.2
     clear hc2;have S1:=@Z6 k own ow ds q hQ.out;have S2:=@jd k own ow ds q hQ.out;have S3:=@je k own ow ds q hQ.out;have hlen:ow.length=10:=(KT hQ.out).trans (NU hG.out);clear hQ;obtain⟨g,hg⟩:∃g:Nat,(ds.getD q zD).2.2.2=(g:Int):=⟨_,(Int.toNat_of_nonneg g09.1).symm⟩;rw[hg] at A3 g09 S1 S2 S3;rw[Int.toNat_natCast] at S2 S3;clear hg;have hg9:g<10:=by omega
     obtain⟨p,hp⟩:∃p:Int,p=(ds.getD (q-1) zD).2.2.2:=⟨_,rfl⟩;rw[<-hp] at AP S2 S3;clear hp;have Z8:=hS.cell (j:=g) (by omega);obtain⟨y,hy⟩:∃y:Int,y=ow.getD g 0:=⟨_,rfl⟩;rw[<-hy] at Z8 S2 S3;clear hy g09;have j1:(0:Int)<=(q:Int):=Int.natCast_nonneg _;have j2:(q:Int)<(ds.length:Int):=by omega
     have j3:(0:Int)<=(g:Int):=Int.natCast_nonneg _;have j4:(g:Int)<10:=by omega
     have hbq:b<wr.heap.size:=Nat.lt_of_lt_of_le hb hL.size;have hb3:b2<wr.heap.size:=Nat.lt_of_lt_of_le hb2 hL.size;by_cases g0:g=0
     ·
      have eg:((g:Int)==0)=true:=by simp[g0]
      have HE:=Lib.hid (S1 (by omega));clear S1 S2 S3 AP;go_wp2;go_roundw;case rel=>exact⟨q+1,ow,by omega,by go_num,HE,hS,hL⟩
      case measure=>simp[intOf];omega
     ·
      have HN:Hid ((g:Int)≠0):=Lib.hid (by omega);have eg:((g:Int)==0)=false:=by simp;omega
      have hF:=hS.free g;clear S1;by_cases y0:y=0
      ·
       subst y0;have HE:=Lib.hid (S3 HN.out (by simp));clear S2 S3 AP;go_wp2;go_roundw;case rel=>exact⟨q+1,_,by omega,by go_num,HE,hS.set g _,hL.set (Nat.le_refl _) g _⟩
       case measure=>simp[intOf];omega
      ·
       have ey:(y != 0)=true:=by simp[y0]
       by_cases yk:y=(k:Int)+1
       ·
        subst yk;have ek:((k:Int)+1 != (k:Int)+1)=false:=by simp
        by_cases q0:q=0
        ·
         have eq:((q:Int)==0)=true:=by simp[q0]
         have HE:Hid (KR AA=false):=Lib.hid (Qh hlt hG.out (q:=q+1) (by rw[<-MV.out];omega) (by rw[<-MV.out];exact S2 HN.out ⟨y0,.inr (.inl q0)⟩));clear S2 S3 AP y0 q0;go_wp2;go_ret;exact⟨by rw[HE.out];rfl,hL⟩
        ·
         have eq:((q:Int)==0)=false:=by simp;omega
         have AP:=AP (by omega);obtain⟨r,rfl⟩:∃r:Nat,q=r+1:=⟨q-1,by omega⟩;rw[Nat.add_sub_cancel] at AP;have j5:(0:Int)<=(r:Int):=Int.natCast_nonneg _;have j6:(r:Int)<(ds.length:Int):=by omega
         by_cases pg:p=(g:Int)
         ·
          subst pg;have ep:((g:Int) != (g:Int))=false:=by simp
          have HE:=Lib.hid (S3 HN.out (by simp));clear S2 S3 y0;go_wp2;go_roundw;case rel=>exact⟨r+1+1,_,by omega,by go_num,HE,hS.set g _,hL.set (Nat.le_refl _) g _⟩
          case measure=>simp[intOf];omega
         ·
          have ep:(p != (g:Int))=true:=by simp[pg]
          have HE:Hid (KR AA=false):=Lib.hid (Qh hlt hG.out (q:=r+1+1) (by rw[<-MV.out];omega) (by rw[<-MV.out];exact S2 HN.out ⟨y0,.inr (.inr pg)⟩));clear S2 S3 y0 pg;go_wp2;go_ret;exact⟨by rw[HE.out];rfl,hL⟩
       ·
        have ek:(y != (k:Int)+1)=true:=by simp[yk]
        have HE:Hid (KR AA=false):=Lib.hid (Qh hlt hG.out (q:=q+1) (by rw[<-MV.out];omega) (by rw[<-MV.out];exact S2 HN.out ⟨y0,.inl yk⟩));clear S2 S3 AP yk y0;go_wp2;go_ret;exact⟨by rw[HE.out];rfl,hL⟩
    ·
     obtain rfl:q=ds.length:=by omega
     go_wp2;go_roundw;case rel=>exact⟨k+1,ow,by omega,by go_num,Lib.hid (by rw[Ec,hG.out,<-MV.out];exact hQ.out),hS,hL⟩
     case measure=>simp[intOf];omega
  ·
   obtain rfl:k=AA.length:=by omega
   go_wp2;go_ret;exact⟨by rw[KR,hG.out];rfl,hK⟩
theorem QF {α:Type}(l:List α)(k:Nat)(z:α)(h:k<l.length):l.take (k+1)=l.take k++[l.getD k z]:=by
 rw[List.take_add_one,List.getElem?_eq_getElem h,List.getD_eq_getElem?_getD,List.getElem?_eq_getElem h];rfl
theorem Rv {α:Type}{f:α->Bool}{l:List α}{k:Nat}(z:α)(h:k<l.length)(h1:(l.take k).all f=true)(h2:f (l.getD k z)=true):(l.take (k+1)).all f=true:=by
 rw[QF l k z h,List.all_append,h1];rw[List.all_cons,h2];rfl
theorem Po (d:List Dd):∀l:List (List Dd),BF (l++[d])=BF l+d.length
 | []=>by simp[BF]
 |x::r=>by rw[List.cons_append,BF,BF,Po d r];omega
theorem QM {AA:List (List Dd)}{k:Nat}(hk:k<AA.length)(h:Fu (AA.getD k [])=false):AO AA=false:=by
 rw[AO,QV [] k hk h];simp
theorem IR (w:World)(v:Value)(AA:List (List Dd))(h:Fz w v AA)(hx:AA.length<=1048576)(hm:∀i,i<AA.length->(AA.getD i []).length<=1048576):
  Calls Tryz.prog 16 #[v] w fun e w'=>e = .returned (.bool (AO AA))/\AC w w':=by
 have RW:=h;obtain⟨a,c,rfl,h⟩:=h;cases hb:Cx (AA.length:Int) 1 3
 ·
  have HE:Hid (AO AA=false):=by
   refine Lib.hid ?_;simp[Cx] at hb;rw[AO,decide_eq_false (by omega)];rfl
  go_enter Tryz.func16,Tryz.ntmps16
  go_wp2_with (go_at_call 44;refine (Nl _ _ _ _).mono ?_;rintro e w' ⟨rfl,rfl⟩)
  go_ret;exact⟨by rw[HE.out];rfl,AC.refl _⟩
 ·
  have h13:1<=AA.length/\AA.length<=3:=by simp[Cx] at hb;omega
  have HIN:=Lib.hid h13;have h3:=h13.2;clear h13;go_enter Tryz.func16,Tryz.ntmps16
  go_wp2_with (go_at_call 44;refine (Nl _ _ _ _).mono ?_;rintro e w' ⟨rfl,rfl⟩)
  clear hb;go_loopw [3,4] (fun n i wr=>∃k m:Nat,k<=AA.length/\n = .int .i64 m/\i = .int .i64 k/\Hid (m=BF (AA.take k)/\(AA.take k).all Fu=true)/\m<=5*k/\AC w' wr) (fun _ i _=>AA.length-(intOf i).toNat)
  case atStart=>exact⟨0,0,Nat.zero_le _,rfl,rfl,Lib.hid (by simp[BF]),by omega,AC.refl _⟩
  case round=>
   obtain⟨k,m,hk,rfl,rfl,hM,m5,hK⟩:=hrel;by_cases hlt:k<AA.length
   ·
    rcases h with h|⟨b,o,rfl,hb,hc⟩
    . exfalso;rw[h] at hlt;simp at hlt
    obtain⟨u,e1,r1⟩:=hc k hlt;have hmk:=hm k hlt;clear hc hm RW;obtain⟨ds,hds⟩:∃ds,ds=AA.getD k []:=⟨_,rfl⟩;have MV:=Lib.hid hds;rw[<-hds] at r1 hmk;clear hds;obtain⟨ai,ci,rfl,r1⟩:=r1;have d1:=(hK.cell hb).trans e1;have i1:(0:Int)<=(k:Int):=Int.natCast_nonneg _;have i2:(k:Int)<(AA.length:Int):=by omega
    go_wp2;go_loopw [5] (fun i wq=>∃q:Nat,q<=ds.length/\i = .int .i64 q/\Hid ((ds.take q).all FW=true)/\AC w' wq) (fun i _=>ds.length-(intOf i).toNat)
    case atStart=>exact⟨0,Nat.zero_le _,rfl,Lib.hid (by simp),hK⟩
    case round=>
     obtain⟨q,hq,rfl,hQ,hL⟩:=hrel;have d1:=(hL.cell hb).trans e1;by_cases hlq:q<ds.length
     ·
      rcases r1 with h|⟨b2,o2,rfl,hb2,hc2⟩
      . exfalso;rw[h] at hlq;simp at hlq
      have AT:=(hc2 q hlq).keep hb2 hL;clear hc2;have hbq:b<wr.heap.size:=Nat.lt_of_lt_of_le hb hL.size;have hb3:b2<wr.heap.size:=Nat.lt_of_lt_of_le hb2 hL.size;have j1:(0:Int)<=(q:Int):=Int.natCast_nonneg _;have j2:(q:Int)<(ds.length:Int):=by omega
      have HT:FW (ds.getD q zD)=true->Hid ((ds.take (q+1)).all FW=true):=fun e=>Lib.hid (Rv zD hlq hQ.out e)
      have HF:FW (ds.getD q zD)=false->Hid (AO AA=false):=fun e=>Lib.hid (QM hlt (by rw[<-MV.out,Fu,QV zD q hlq e];rfl))
      clear hQ;obtain⟨d,hd⟩:∃d,d=ds.getD q zD:=⟨_,rfl⟩;rw[<-hd] at AT HT HF;clear hd;obtain⟨x0,x1,x2,x3⟩:=d;obtain⟨A0,A1,A2,A3⟩:=AT;simp only at A0 A1 A2 A3;unfold FW at HT HF;simp only at HT HF;cases hd:D2 x0 x1 x2 x3
      ·
       have HE:=HF hd;clear HT HF;go_wp2_with fail
       refine (IQ _ _ _ _ _).mono ?_;rintro e wz ⟨rfl,kk⟩;go_wp2;go_ret;exact⟨by rw[HE.out];rfl,hL.trans kk⟩
      ·
       have HE:=HT hd;clear HT HF;go_wp2_with fail
       refine (IQ _ _ _ _ _).mono ?_;rintro e wz ⟨rfl,kk⟩;go_wp2;go_roundw;case rel=>exact⟨q+1,by omega,by go_num,HE,hL.trans kk⟩
       case measure=>simp[intOf];omega
     ·
      obtain rfl:q=ds.length:=by omega
      rw[List.take_length] at hQ;by_cases h5:ds.length<=5
      ·
       have HE:Hid (m+ds.length=BF (AA.take (k+1))/\(AA.take (k+1)).all Fu=true):=by
        refine Lib.hid ⟨?_,Rv [] hlt hM.out.2 (by rw[<-MV.out,Fu,hQ.out];simp[h5])⟩;rw[QF AA k [] hlt,Po,<-MV.out,hM.out.1]
       go_wp2;go_roundw;case rel=>exact⟨k+1,m+ds.length,by omega,by go_num,by go_num,HE,by omega,hL⟩
       case measure=>simp[intOf];omega
      ·
       have HE:Hid (AO AA=false):=Lib.hid (QM hlt (by rw[<-MV.out,Fu];simp;omega));go_wp2;go_ret;exact⟨by rw[HE.out];rfl,hL⟩
   ·
    obtain rfl:k=AA.length:=by omega
    rw[List.take_length] at hM;have zU:∀i,i<AA.length->Fu (AA.getD i [])=true:=fun i hi=>Bo [] hM.out.2 i hi
    have HW:Hid (AO AA=(decide (m<=12)&&decide (SQ AA AA.length<=6)&&KR AA)):=by
     refine Lib.hid ?_;rw[AO,decide_eq_true HIN.out,hM.out.2,hM.out.1];rfl
    have rw1:=RW.keep hK;clear hM RW h hm;by_cases h12:m<=12
    ·
     have e12:decide ((m:Int)<=12)=true:=by simp;omega
     by_cases h6:SQ AA AA.length<=6
     ·
      have HE:Hid (AO AA=KR AA):=Lib.hid (by rw[HW.out];simp[h12,h6]);go_wp2_with fail
      refine (KY _ _ _ rw1 h3 zU).mono ?_;rintro e wz ⟨rfl,kk⟩;have rw2:=rw1.keep kk;go_wp2_with fail
      refine (Qv _ _ _ rw2 h3 zU).mono ?_;rintro e wy ⟨rfl,k2⟩;go_wp2;go_ret;exact⟨by rw[HE.out];rfl,(hK.trans kk).trans k2⟩
     ·
      have HE:Hid (AO AA=false):=Lib.hid (by rw[HW.out];simp[h6]);go_wp2_with fail
      refine (KY _ _ _ rw1 h3 zU).mono ?_;rintro e wz ⟨rfl,kk⟩;go_wp2;go_ret;exact⟨by rw[HE.out];rfl,hK.trans kk⟩
    ·
     have HE:Hid (AO AA=false):=Lib.hid (by rw[HW.out];simp[h12]);go_wp2;go_ret;exact⟨by rw[HE.out];rfl,hK⟩
section
abbrev dC (k p v g:Int):Obj:= .cells #[.int .i64 k,.int .i64 p,.int .i64 v,.int .i64 g] 65
abbrev eC (i k:Int)(r:Bool)(p v c:Int):Obj:= .cells #[.int .i64 i,.int .i64 k,.bool r,.int .i64 p,.int .i64 v,.int .i64 c] 128
structure mI (w wr:World)(F:Nat)(out:Value)(es:List Ev)(f:List Int):Prop where
 app:JB wr w.heap.size out es
 row:Ch wr F f
 keep:AC w wr
 hF:w.heap.size<=F
 oF:out.ownBlock≠some F
structure Gw (w wr:World)(F D X:Nat)(out:Value)(es:List Ev)(f:List Int)(k p v g:Int)(i q:Int)(r:Bool)(pl vl c:Int):Prop where
 l:mI w wr F out es f
 box:wr.heap[D]? = some (dC k p v g)
 ev:wr.heap[X]? = some (eC i q r pl vl c)
 hD:w.heap.size<=D
 hX:w.heap.size<=X
 DX:D≠X
 FD:F≠D
 FX:F≠X
 oD:out.ownBlock≠some D
 oX:out.ownBlock≠some X
theorem mI.more {w wr wr':World}{F:Nat}{out:Value}{es:List Ev}{f:List Int}(h:mI w wr F out es f)(k:AC wr wr'):mI w wr' F out es f:=
 ⟨h.app.keep k,h.row.keep k,h.keep.trans k,h.hF,h.oF⟩
theorem mI.boxes {w wr:World}{F:Nat}{out:Value}{es:List Ev}{f:List Int}(h:mI w wr F out es f)(k p v g i q:Int)(r:Bool)(pl vl c:Int):
  Gw w ((wr.alloc (dC k p v g)).alloc (eC i q r pl vl c)) F wr.heap.size (wr.heap.size+1) out es f k p v g i q r pl vl c:=by
 have hs:=h.keep.size;have hR:=h.row.lt;have hl:=h.app.lt;have z:(wr.alloc (dC k p v g)).heap.size=wr.heap.size+1:=AD wr _;refine⟨h.more (((AC.refl wr).alloc _).alloc _),?_,?_,hs,by omega,by omega,by omega,by omega,fun e=>?_,fun e=>?_⟩
 . rw[B7,if_neg (by rw[z];omega),B7,if_pos rfl]
 . rw[B7,if_pos z.symm]
 . have:=(hl _ e).2;omega
 . have:=(hl _ e).2;omega
variable {w wr:World} {F D X:Nat} {out:Value} {es:List Ev} {f:List Int} {k p v g i q pl vl c:Int} {r:Bool}
theorem Gw.more {wr':World}(h:Gw w wr F D X out es f k p v g i q r pl vl c)(kk:AC wr wr'):Gw w wr' F D X out es f k p v g i q r pl vl c:=
 ⟨h.l.more kk,(Below.block kk D (Array.getElem?_eq_some_iff.1 h.box).1).trans h.box,(Below.block kk X (Array.getElem?_eq_some_iff.1 h.ev).1).trans h.ev,h.hD,h.hX,h.DX,h.FD,h.FX,h.oD,h.oX⟩
theorem Gw.lt (h:Gw w wr F D X out es f k p v g i q r pl vl c):D<wr.heap.size/\X<wr.heap.size/\F<wr.heap.size:=
 ⟨(Array.getElem?_eq_some_iff.1 h.box).1,(Array.getElem?_eq_some_iff.1 h.ev).1,h.l.row.lt⟩
theorem Gw.deed (h:Gw w wr F D X out es f k p v g i q r pl vl c):
  wr.cell? ⟨D,0,none⟩=some (.int .i64 k)/\wr.cell? ⟨D,1,none⟩=some (.int .i64 p)/\wr.cell? ⟨D,2,none⟩=some (.int .i64 v)/\wr.cell? ⟨D,3,none⟩=some (.int .i64 g):=
 ⟨cell_of_row wr D 0 _ _ (0,0) h.box,cell_of_row wr D 1 _ _ (0,0) h.box,cell_of_row wr D 2 _ _ (0,0) h.box,cell_of_row wr D 3 _ _ (0,0) h.box⟩
theorem Gw.event (h:Gw w wr F D X out es f k p v g i q r pl vl c):
  wr.cell? ⟨X,0,none⟩=some (.int .i64 i)/\wr.cell? ⟨X,1,none⟩=some (.int .i64 q)/\wr.cell? ⟨X,2,none⟩=some (.bool r)/\wr.cell? ⟨X,3,none⟩=some (.int .i64 pl)/\wr.cell? ⟨X,4,none⟩=some (.int .i64 vl)/\wr.cell? ⟨X,5,none⟩=some (.int .i64 c):=
 ⟨cell_of_row wr X 0 _ _ (0,0) h.ev,cell_of_row wr X 1 _ _ (0,0) h.ev,cell_of_row wr X 2 _ _ (0,0) h.ev,cell_of_row wr X 3 _ _ (0,0) h.ev,cell_of_row wr X 4 _ _ (0,0) h.ev,cell_of_row wr X 5 _ _ (0,0) h.ev⟩
theorem Gw.free (h:Gw w wr F D X out es f k p v g i q r pl vl c)(j:Nat):wr.frozen? ⟨X,j,none⟩=false:=frozen_of_row wr X j _ _ h.ev
theorem Gw.qw (h:Gw w wr F D X out es f k p v g i q r pl vl c)(j:Nat)(x:Value){r':Bool}{pl' vl' c':Int}
  (he:(wr.setCell ⟨X,j,none⟩ x).heap[X]? = some (eC i q r' pl' vl' c')):Gw w (wr.setCell ⟨X,j,none⟩ x) F D X out es f k p v g i q r' pl' vl' c':=by
 have hg:=Ae wr X j x;have a:=h.l;refine⟨⟨a.app.kept hg (.inr h.oX),a.row.kept hg (by simp;exact fun e=>h.FX e.symm),a.keep.grown hg (by simp;exact h.hX),a.hF,a.oF⟩,(hg.block D h.lt.1 (by simp;exact h.DX)).trans h.box,he,h.hD,h.hX,h.DX,h.FD,h.FX,h.oD,h.oX⟩
theorem Gw.set2 (h:Gw w wr F D X out es f k p v g i q r pl vl c)(x:Bool):Gw w (wr.setCell ⟨X,2,none⟩ (.bool x)) F D X out es f k p v g i q x pl vl c:=
 h.qw 2 _ (by rw[heap_setCell_same wr X 2 _ _ _ h.ev];rfl)
theorem Gw.set4 (h:Gw w wr F D X out es f k p v g i q r pl vl c)(x:Int):Gw w (wr.setCell ⟨X,4,none⟩ (.int .i64 x)) F D X out es f k p v g i q r pl x c:=
 h.qw 4 _ (by rw[heap_setCell_same wr X 4 _ _ _ h.ev];rfl)
theorem Gw.set5 (h:Gw w wr F D X out es f k p v g i q r pl vl c)(x:Int):Gw w (wr.setCell ⟨X,5,none⟩ (.int .i64 x)) F D X out es f k p v g i q r pl vl x:=
 h.qw 5 _ (by rw[heap_setCell_same wr X 5 _ _ _ h.ev];rfl)
theorem Gw.xG (h:Gw w wr F D X out es f k p v g i q r pl vl c)(j:Nat)(x:Int):Gw w (wr.setCell ⟨F,j,none⟩ (.int .i64 x)) F D X out es (f.set j x) k p v g i q r pl vl c:=by
 have hg:=Ae wr F j (.int .i64 x);have a:=h.l;exact⟨⟨a.app.kept hg (.inr a.oF),a.row.set j x,a.keep.grown hg (by simp;exact a.hF),a.hF,a.oF⟩,(hg.block D h.lt.1 (by simp;exact fun e=>h.FD e.symm)).trans h.box,(hg.block X h.lt.2.1 (by simp;exact fun e=>h.FX e.symm)).trans h.ev,h.hD,h.hX,h.DX,h.FD,h.FX,h.oD,h.oX⟩
theorem Gw.hit (h:Gw w wr F D X out es f k p v g i q r pl vl c){o:Obj}{v':Value}{w':World}(e:Ev)
  (ho:w'.ownsRow w.heap.size 128 6 v' (es.length+1) (es.flatMap cE++cE e)) (hg:(wr.alloc o).grownBy w' out.ownBlock) (hb:v'.ownBlock=out.ownBlock\/v'.ownBlock=some (wr.heap.size+1)):
  Gw w w' F D X v' (es++[e]) f k p v g i q r pl vl c:=by
 have h1:=h.more ((AC.refl wr).alloc o);obtain⟨a1,a2,a3⟩:=h1.lt
 have apart:∀n,n<(wr.alloc o).heap.size->out.ownBlock≠some n->v'.ownBlock≠some n:=fun n hn hne e=>by
  rcases hb with hb|hb
  . exact hne (hb ▸ e)
  . rw[hb] at e;have:=Option.some.inj e;rw[AD] at hn;omega
 exact⟨⟨J3 ho,h1.l.row.kept hg h1.l.oF,h1.l.keep.grown hg h1.l.app.ge,h1.l.hF,apart F a3 h1.l.oF⟩,(hg.block D a1 (fun e=>h1.oD e.symm)).trans h1.box,(hg.block X a2 (fun e=>h1.oX e.symm)).trans h1.ev,h1.hD,h1.hX,h1.DX,h1.FD,h1.FX,apart D a1 h1.oD,apart X a2 h1.oX⟩
theorem M8 (e:Ev):∀u∈cE e,u.oneCell'=true:=by
 intro u hu;simp only[cE,List.mem_cons,List.not_mem_nil,or_false] at hu;rcases hu with rfl|rfl|rfl|rfl|rfl|rfl<;>rfl
theorem M7 (w:World)(i q:Int)(r:Bool)(pl vl c:Int):∀j u,(cE (i,q,r,pl,vl,c))[j]? = some u->(w.alloc (eC i q r pl vl c)).cell? ((⟨w.heap.size,0,none⟩:Addr).add j)=some u:=by
 intro j u hj
 match j,hj with
 | 0,hj=>simp[cE] at hj;subst hj;simp[Addr.add]
 | 1,hj=>simp[cE] at hj;subst hj;simp[Addr.add]
 | 2,hj=>simp[cE] at hj;subst hj;simp[Addr.add]
 | 3,hj=>simp[cE] at hj;subst hj;simp[Addr.add]
 | 4,hj=>simp[cE] at hj;subst hj;simp[Addr.add]
 | 5,hj=>simp[cE] at hj;subst hj;simp[Addr.add]
theorem ZY (w:World)(n:Nat)(hn:w.heap.size=n)(i q:Int)(r:Bool)(pl vl c:Int):∀j u,(cE (i,q,r,pl,vl,c))[j]? = some u->(w.alloc (eC i q r pl vl c)).cell? ((⟨n,0,none⟩:Addr).add j)=some u:=by
 subst hn;exact M7 w i q r pl vl c
end
theorem NQ (g:Int)(n:Nat)(f:List Int):(DJ g n f).length=f.length:=by unfold DJ;split<;>simp
theorem Ka (w:World)(v:Value)(AA:List (List Dd))(h:Fz w v AA)(hx:AA.length<=3)(hok:∀i,i<AA.length->Fu (AA.getD i [])=true):
  Calls Tryz.prog 82 #[v] w fun e w'=>∃v',e = .returned v'/\JB w' w.heap.size v' (A8 AA AA.length)/\AC w w':=by
 obtain⟨a,c,rfl,h⟩:=h;obtain⟨i0,hi,hz0,hz1,hz2⟩:=info_parts Tryz.GI;obtain⟨j0,hj,hy0,hy1,hy2⟩:=info_parts Tryz.aI;have A0:JB (w.alloc (.cells #[] 128)) w.heap.size (.slice (some ⟨w.heap.size,0,none⟩) 0 0) []:=My w;go_enter Tryz.func82,Tryz.ntmps82
 go_wp2;go_loopw [3,4] (fun v i wr=>∃k:Nat,∃m:Int,∃es:List Ev,k<=3/\i = .int .i64 m/\m=(k:Int)/\Hid (es=CU.take k)/\es.length<=k/\JB wr w.heap.size v es/\AC w wr) (fun _ i _=>3-(intOf i).toNat)
 case atStart=>exact⟨0,0,[],Nat.zero_le _,rfl,rfl,Lib.hid rfl,Nat.le_refl _,A0,(AC.refl _).alloc _⟩
 case round=>
  obtain⟨k,m,es,hk,rfl,hm,hE,hel,ho,hK⟩:=hrel;clear A0;have hsz:=hK.size;by_cases hlt:k<3
  ·
   subst hm
   have HM:Hid (es++[((-1:Int),(-1:Int),false,(k:Int),0,(k:Int))]=CU.take (k+1)):=Lib.hid (by
    rw[hE.out];have:k=0\/k=1\/k=2:=by omega
    rcases this with rfl|rfl|rfl<;>rfl)
   clear hE;go_wp2_with (at_builtin;refine wpList_append_own_at _ rfl _ _ 98 rfl w.heap.size 128 j0 (.agg #[.int .i64 0,.int .i64 0,.bool false,.int .i64 0,.int .i64 0,.int .i64 0]) 6 48 Tryz.underlying98 hj hy0 hy1 hy2 rfl (by decide) _ _ _ rfl (ho.keep ((AC.refl _).alloc _)) ⟨_,0,none⟩ 1 1 (cE ((-1:Int),(-1:Int),false,(k:Int),0,(k:Int))) rfl rfl ?c1 ?c2 ?c3 ?c4 ?c5 ?_)
   case c1=>exact M7 _ _ _ _ _ _ _
   case c2=>exact M8 _
   case c3=>unfold maxLen;omega
   case c4=>omega
   case c5=>simp;omega
   intro v' w1 hown' hgrow _ _;have hK1:AC w w1:=(hK.alloc _).grown hgrow ho.ge;have hA:=J3 hown';clear hgrow hown';go_wp2;go_roundw;case rel=>exact⟨k+1,_,_,by omega,rfl,by omega,HM,by simp;omega,hA,hK1⟩
   case measure=>simp[intOf];omega
  obtain rfl:m=3:=by omega
  have HB:Hid (es=A8 AA 0):=Lib.hid (by rw[hE.out,show k=3 by omega];rfl);clear hE hm;go_wp2;go_loopw [3,5] (fun v i wr=>∃k:Nat,∃es:List Ev,k<=AA.length/\i = .int .i64 k/\Hid (es=A8 AA k)/\es.length<=3+10*k/\JB wr w.heap.size v es/\AC w wr) (fun _ i _=>AA.length-(intOf i).toNat)
  case atStart=>exact⟨0,es,Nat.zero_le _,rfl,HB,by omega,ho,hK⟩
  case round=>
   clear HB hel ho hK hsz hlt hk;obtain⟨k,es,hk,rfl,hE,hel,ho,hK⟩:=hrel;have hsz:=hK.size;by_cases hlt:k<AA.length
   ·
    rcases h with h|⟨b,o,rfl,hb,hc⟩
    . exfalso;rw[h] at hlt;simp at hlt
    obtain⟨u,e1,r1⟩:=hc k hlt;have Mp:=hok k hlt;clear hc hok;obtain⟨ds,hds⟩:∃ds,ds=AA.getD k []:=⟨_,rfl⟩;have MV:=Lib.hid hds;rw[<-hds] at r1 Mp;clear hds;obtain⟨ai,ci,rfl,r1⟩:=r1;have d1:=(hK.cell hb).trans e1;have i1:(0:Int)<=(k:Int):=Int.natCast_nonneg _;have i2:(k:Int)<(AA.length:Int):=by omega
    have hl5:ds.length<=5:=by simp[Fu] at Mp;omega
    obtain⟨wo,hwo⟩:∃wo:World,wo=wr:=⟨_,rfl⟩;subst hwo;go_wp2_with (at_make;refine wpList_make_full _ rfl _ _ 28 rfl wo.heap.size 2 i0 (.int .i64 0) 1 Tryz.underlying28 hi hz0 hz1 .i64 .i64 _ _ 10 rfl rfl rfl rfl (by rw[hz2];omega) (by unfold maxLen;omega) (Nat.le_refl _) ?_;intro w1 hown hgrow)
    have k1:AC wo w1:=(AC.refl wo).grown hgrow (by simp)
    have rb:Ch w1 wo.heap.size (List.replicate 10 0):=by
     have o:BO w1 wo.heap.size (.slice (some ⟨wo.heap.size,0,none⟩) 10 10) (List.replicate 10 0):=by
      rw[Sq] at hown;unfold BO;simpa using hown
     rcases o.row with ⟨e,_⟩|⟨g,cap,e,_,hr⟩
     . cases e
     ·
      have e1:=congrArg Value.ownBlock e;simp[Value.ownBlock] at e1;rw[e1];exact hr
    clear hgrow hown;have L0:mI w w1 wo.heap.size _ es (List.replicate 10 0):=⟨ho.keep k1,rb,hK.trans k1,hsz,fun e=>by have:=(ho.lt _ e).2;omega⟩;go_loopw [3,7] (fun v i wq=>∃q:Nat,∃evs:List Ev,∃f:List Int,q<=ds.length/\i = .int .i64 q/\Hid (Bh k ds es q=(evs,f))/\Hid (f.length=10)/\evs.length<=3+10*k+2*q/\mI w wq wo.heap.size v evs f) (fun _ i _=>ds.length-(intOf i).toNat)
    case atStart=>exact⟨0,es,_,Nat.zero_le _,rfl,Lib.hid rfl,Lib.hid rfl,by omega,L0⟩
    case round=>
     clear L0 rb k1 w1 d1;obtain⟨q,evs,f,hq,rfl,hC,hfl,hev,hI⟩:=hrel;have d1:=(hI.keep.cell hb).trans e1;have hbq:b<wr.heap.size:=Nat.lt_of_lt_of_le hb hI.keep.size;by_cases hlq:q<ds.length
     ·
      rcases r1 with h|⟨b2,o2,rfl,hb2,hc2⟩
      . exfalso;rw[h] at hlq;simp at hlq
      have AT:=(hc2 q hlq).keep hb2 hI.keep
      have WE:FW (ds.getD q zD)=true:=by
       simp only[Fu,Bool.and_eq_true] at Mp;exact Bo zD Mp.1 q hlq
      clear hc2 Mp;have hb3:b2<wr.heap.size:=Nat.lt_of_lt_of_le hb2 hI.keep.size;have HST:Hid (Bh k ds es (q+1)=EU k q (ds.getD q zD) (evs,f)):=Lib.hid (by rw[Bh,hC.out]);clear hC;obtain⟨d,hd⟩:∃d,d=ds.getD q zD:=⟨_,rfl⟩;rw[<-hd] at AT WE HST;clear hd;have KD:=CQ WE;have RD:=Cd WE;obtain⟨x0,x1,x2,x3⟩:=d;obtain⟨A0,A1,A2,A3⟩:=AT;simp only at A0 A1 A2 A3 KD RD;obtain⟨-,-,r2,r3,r4⟩:=RD;obtain⟨g,rfl⟩:=Int.eq_ofNat_of_zero_le r2;have j1:(0:Int)<=(q:Int):=Int.natCast_nonneg _;have j2:(q:Int)<(ds.length:Int):=by omega
      have j3:(0:Int)<=(g:Int):=Int.natCast_nonneg _;have j4:(g:Int)<10:=by omega
      have hg9:g<10:=by omega
      clear r2 r3 WE;obtain⟨av,cv,rfl⟩:=hI.app.shape;rcases KD with rfl|rfl|rfl|rfl
      ·
       obtain⟨f',hf'⟩:∃f',f'=DJ (g:Int) evs.length f:=⟨_,rfl⟩;obtain⟨cl,hcl⟩:∃cl,cl=Cw (g:Int) evs.length f:=⟨_,rfl⟩;have HS:Hid (Bh k ds es (q+1)=(evs++[((k:Int),(q:Int),true,x1,0,cl)],f')):=Lib.hid (by rw[HST.out,hf',hcl];rfl);have hfl':Hid (f'.length=10):=Lib.hid (by rw[hf',NQ];exact hfl.out);have HF:=Lib.hid hf';have HC:=Lib.hid hcl;clear HST hf' hcl;clear r4;go_upto_if 61 with fail
       have I1:=hI.boxes 1 x1 x2 (g:Int) (k:Int) (q:Int) true x1 0 (evs.length:Int);go_cut [] from 29 to 99 (fun wx=>Gw w wx wo.heap.size wr.heap.size (wr.heap.size+1) (.slice av evs.length cv) evs f 1 x1 x2 g k q true x1 0 evs.length)
       case first=>
        go_wp2;go_meet;case rel=>exact I1
       case rest=>
        clear I1 A0 A1 A2 A3 d1;have IH:=hcut;clear hcut;obtain⟨t0,t1,t2,t3⟩:=IH.deed;obtain⟨s0,s1,s2,s3,s4,s5⟩:=IH.event;have F2:=IH.free 2;have F4:=IH.free 4;have F5:=IH.free 5;obtain⟨z1,z2,z3⟩:=IH.lt;go_upto_if 67 with fail
        go_cut [] from 29 to 99 (fun wx=>Gw w wx wo.heap.size wr.heap.size (wr.heap.size+1) (.slice av evs.length cv) evs f' 1 x1 x2 g k q true x1 0 cl)
        case first=>
         by_cases g0:g=0
         ·
          have n0:(g:Int)<=0:=by omega
          have E1:Hid (f'=f):=Lib.hid (by rw[HF.out,DJ,if_neg (by omega)]);have E2:Hid (cl=(evs.length:Int)):=Lib.hid (by rw[HC.out,Cw,if_neg (by omega)]);go_wp2;go_meet;case rel=>rw[E1.out,E2.out];exact IH
         ·
          have n0:(0:Int)<(g:Int):=by omega
          have gg:Hid (f'.getD g 0=cl):=Lib.hid (by rw[HC.out,HF.out,Cw,if_pos n0,Int.toNat_natCast]);have Z8:=IH.l.row.cell (j:=g) (by rw[hfl.out];exact hg9);obtain⟨y,hy⟩:∃y,y=f.getD g 0:=⟨_,rfl⟩;rw[<-hy] at Z8;have HY:=Lib.hid hy;have FG:=IH.l.row.free g;clear hy g0;go_upto_if 73 with fail
          go_cut [] from 29 to 99 (fun wx=>Gw w wx wo.heap.size wr.heap.size (wr.heap.size+1) (.slice av evs.length cv) evs f' 1 x1 x2 g k q true x1 0 evs.length)
          case first=>
           by_cases y0:y=0
           ·
            have E1:Hid (f'=f.set g (evs.length:Int)):=Lib.hid (by rw[HF.out,DJ,Int.toNat_natCast,if_pos ⟨n0,by rw[<-HY.out];exact y0⟩]);subst y0;go_wp2;go_meet;case rel=>rw[E1.out];exact IH.xG g _
           ·
            have E1:Hid (f'=f):=Lib.hid (by rw[HF.out,DJ,Int.toNat_natCast,if_neg (fun e=>y0 (HY.out.trans e.2))]);have ey:(y==0)=false:=by simp[y0]
            clear y0;go_wp2;go_meet;case rel=>rw[E1.out];exact IH
          case rest=>
           clear t0 t1 t2 t3 s0 s1 s2 s3 s4 s5 F2 F4 F5 z1 z2 z3;clear Z8 FG IH;have Z8:=hcut.l.row.cell (j:=g) (by rw[hfl'.out];exact hg9);rw[gg.out] at Z8;obtain⟨t0,t1,t2,t3⟩:=hcut.deed;obtain⟨s0,s1,s2,s3,s4,s5⟩:=hcut.event;have F2:=hcut.free 2;have F4:=hcut.free 4;have F5:=hcut.free 5;obtain⟨z1,z2,z3⟩:=hcut.lt;go_wp2;go_meet;case rel=>exact hcut.set5 _
        case rest=>
         clear t0 t1 t2 t3 s0 s1 s2 s3 s4 s5 F2 F4 F5 z1 z2 z3;clear IH hI;obtain⟨t0,t1,t2,t3⟩:=hcut.deed;obtain⟨s0,s1,s2,s3,s4,s5⟩:=hcut.event;have F2:=hcut.free 2;have F4:=hcut.free 4;have F5:=hcut.free 5;obtain⟨z1,z2,z3⟩:=hcut.lt;go_wp2_with (at_builtin;refine wpList_append_own_at _ rfl _ _ 98 rfl w.heap.size 128 j0 (.agg #[.int .i64 0,.int .i64 0,.bool false,.int .i64 0,.int .i64 0,.int .i64 0]) 6 48 Tryz.underlying98 hj hy0 hy1 hy2 rfl (by decide) _ _ _ rfl (hcut.l.app.keep ((AC.refl _).alloc _)) ⟨_,0,none⟩ 1 1 (cE ((k:Int),(q:Int),true,x1,0,cl)) rfl rfl ?a1 ?a2 ?a3 ?a4 ?a5 ?_)
         case a1=>exact M7 _ _ _ _ _ _ _
         case a2=>exact M8 _
         case a3=>unfold maxLen;omega
         case a4=>omega
         case a5=>simp;omega
         intro v' w5 hown' hgrow _ hbl;have I5:=hcut.hit ((k:Int),(q:Int),true,x1,0,cl) hown' hgrow hbl;clear hown' hgrow hbl;obtain⟨es1,h1⟩:∃es1,es1=evs++[((k:Int),(q:Int),true,x1,0,cl)]:=⟨_,rfl⟩;have l1:es1.length<=evs.length+1:=by rw[h1];simp
         rw[<-h1] at I5;clear t0 t1 t2 t3 s0 s1 s2 s3 s4 s5 F2 F4 F5 z1 z2 z3;clear hcut;obtain⟨t0,t1,t2,t3⟩:=I5.deed;obtain⟨s0,s1,s2,s3,s4,s5⟩:=I5.event;have F2:=I5.free 2;have F4:=I5.free 4;have F5:=I5.free 5;obtain⟨z1,z2,z3⟩:=I5.lt;have HS1:Hid (Bh k ds es (q+1)=(es1,f')):=Lib.hid (by rw[HS.out,h1]);clear h1 HS;go_wp2;go_roundw;case rel=>exact⟨q+1,es1,f',by omega,by go_num,HS1,hfl',by omega,I5.l⟩
         case measure=>simp[intOf];omega
      ·
       obtain⟨f',hf'⟩:∃f',f'=DJ (g:Int) evs.length f:=⟨_,rfl⟩;obtain⟨cl,hcl⟩:∃cl,cl=Cw (g:Int) evs.length f:=⟨_,rfl⟩;have HS:Hid (Bh k ds es (q+1)=(evs++[((k:Int),(q:Int),false,x1,x2,cl)],f')):=Lib.hid (by rw[HST.out,hf',hcl];rfl);have hfl':Hid (f'.length=10):=Lib.hid (by rw[hf',NQ];exact hfl.out);have HF:=Lib.hid hf';have HC:=Lib.hid hcl;clear HST hf' hcl;clear r4;go_upto_if 61 with fail
       have I1:=hI.boxes 2 x1 x2 (g:Int) (k:Int) (q:Int) false x1 x2 (evs.length:Int);go_cut [] from 29 to 99 (fun wx=>Gw w wx wo.heap.size wr.heap.size (wr.heap.size+1) (.slice av evs.length cv) evs f 2 x1 x2 g k q false x1 x2 evs.length)
       case first=>
        go_wp2;go_meet;case rel=>exact I1
       case rest=>
        clear I1 A0 A1 A2 A3 d1;have IH:=hcut;clear hcut;obtain⟨t0,t1,t2,t3⟩:=IH.deed;obtain⟨s0,s1,s2,s3,s4,s5⟩:=IH.event;have F2:=IH.free 2;have F4:=IH.free 4;have F5:=IH.free 5;obtain⟨z1,z2,z3⟩:=IH.lt;go_upto_if 67 with fail
        go_cut [] from 29 to 99 (fun wx=>Gw w wx wo.heap.size wr.heap.size (wr.heap.size+1) (.slice av evs.length cv) evs f' 2 x1 x2 g k q false x1 x2 cl)
        case first=>
         by_cases g0:g=0
         ·
          have n0:(g:Int)<=0:=by omega
          have E1:Hid (f'=f):=Lib.hid (by rw[HF.out,DJ,if_neg (by omega)]);have E2:Hid (cl=(evs.length:Int)):=Lib.hid (by rw[HC.out,Cw,if_neg (by omega)]);go_wp2;go_meet;case rel=>rw[E1.out,E2.out];exact IH
         ·
          have n0:(0:Int)<(g:Int):=by omega
          have gg:Hid (f'.getD g 0=cl):=Lib.hid (by rw[HC.out,HF.out,Cw,if_pos n0,Int.toNat_natCast]);have Z8:=IH.l.row.cell (j:=g) (by rw[hfl.out];exact hg9);obtain⟨y,hy⟩:∃y,y=f.getD g 0:=⟨_,rfl⟩;rw[<-hy] at Z8;have HY:=Lib.hid hy;have FG:=IH.l.row.free g;clear hy g0;go_upto_if 73 with fail
          go_cut [] from 29 to 99 (fun wx=>Gw w wx wo.heap.size wr.heap.size (wr.heap.size+1) (.slice av evs.length cv) evs f' 2 x1 x2 g k q false x1 x2 evs.length)
          case first=>
           by_cases y0:y=0
           ·
            have E1:Hid (f'=f.set g (evs.length:Int)):=Lib.hid (by rw[HF.out,DJ,Int.toNat_natCast,if_pos ⟨n0,by rw[<-HY.out];exact y0⟩]);subst y0;go_wp2;go_meet;case rel=>rw[E1.out];exact IH.xG g _
           ·
            have E1:Hid (f'=f):=Lib.hid (by rw[HF.out,DJ,Int.toNat_natCast,if_neg (fun e=>y0 (HY.out.trans e.2))]);have ey:(y==0)=false:=by simp[y0]
            clear y0;go_wp2;go_meet;case rel=>rw[E1.out];exact IH
          case rest=>
           clear t0 t1 t2 t3 s0 s1 s2 s3 s4 s5 F2 F4 F5 z1 z2 z3;clear Z8 FG IH;have Z8:=hcut.l.row.cell (j:=g) (by rw[hfl'.out];exact hg9);rw[gg.out] at Z8;obtain⟨t0,t1,t2,t3⟩:=hcut.deed;obtain⟨s0,s1,s2,s3,s4,s5⟩:=hcut.event;have F2:=hcut.free 2;have F4:=hcut.free 4;have F5:=hcut.free 5;obtain⟨z1,z2,z3⟩:=hcut.lt;go_wp2;go_meet;case rel=>exact hcut.set5 _
        case rest=>
         clear t0 t1 t2 t3 s0 s1 s2 s3 s4 s5 F2 F4 F5 z1 z2 z3;clear IH hI;obtain⟨t0,t1,t2,t3⟩:=hcut.deed;obtain⟨s0,s1,s2,s3,s4,s5⟩:=hcut.event;have F2:=hcut.free 2;have F4:=hcut.free 4;have F5:=hcut.free 5;obtain⟨z1,z2,z3⟩:=hcut.lt;go_wp2_with (at_builtin;refine wpList_append_own_at _ rfl _ _ 98 rfl w.heap.size 128 j0 (.agg #[.int .i64 0,.int .i64 0,.bool false,.int .i64 0,.int .i64 0,.int .i64 0]) 6 48 Tryz.underlying98 hj hy0 hy1 hy2 rfl (by decide) _ _ _ rfl (hcut.l.app.keep ((AC.refl _).alloc _)) ⟨_,0,none⟩ 1 1 (cE ((k:Int),(q:Int),false,x1,x2,cl)) rfl rfl ?a1 ?a2 ?a3 ?a4 ?a5 ?_)
         case a1=>exact M7 _ _ _ _ _ _ _
         case a2=>exact M8 _
         case a3=>unfold maxLen;omega
         case a4=>omega
         case a5=>simp;omega
         intro v' w5 hown' hgrow _ hbl;have I5:=hcut.hit ((k:Int),(q:Int),false,x1,x2,cl) hown' hgrow hbl;clear hown' hgrow hbl;obtain⟨es1,h1⟩:∃es1,es1=evs++[((k:Int),(q:Int),false,x1,x2,cl)]:=⟨_,rfl⟩;have l1:es1.length<=evs.length+1:=by rw[h1];simp
         rw[<-h1] at I5;clear t0 t1 t2 t3 s0 s1 s2 s3 s4 s5 F2 F4 F5 z1 z2 z3;clear hcut;obtain⟨t0,t1,t2,t3⟩:=I5.deed;obtain⟨s0,s1,s2,s3,s4,s5⟩:=I5.event;have F2:=I5.free 2;have F4:=I5.free 4;have F5:=I5.free 5;obtain⟨z1,z2,z3⟩:=I5.lt;have HS1:Hid (Bh k ds es (q+1)=(es1,f')):=Lib.hid (by rw[HS.out,h1]);clear h1 HS;go_wp2;go_roundw;case rel=>exact⟨q+1,es1,f',by omega,by go_num,HS1,hfl',by omega,I5.l⟩
         case measure=>simp[intOf];omega
      ·
       obtain⟨f',hf'⟩:∃f',f'=DJ (g:Int) evs.length f:=⟨_,rfl⟩;obtain⟨cl,hcl⟩:∃cl,cl=Cw (g:Int) evs.length f:=⟨_,rfl⟩;have HS:Hid (Bh k ds es (q+1)=(evs++[((k:Int),(q:Int),true,x1,0,cl),((k:Int),(q:Int),false,x1,x2,cl)],f')):=Lib.hid (by rw[HST.out,hf',hcl];rfl);have hfl':Hid (f'.length=10):=Lib.hid (by rw[hf',NQ];exact hfl.out);have HF:=Lib.hid hf';have HC:=Lib.hid hcl;clear HST hf' hcl;have n0:(g:Int)<=0:=by have:=r4 (by omega);omega
       clear r4;go_upto_if 61 with fail
       have I1:=hI.boxes 3 x1 x2 (g:Int) (k:Int) (q:Int) true x1 0 (evs.length:Int);go_cut [] from 29 to 99 (fun wx=>Gw w wx wo.heap.size wr.heap.size (wr.heap.size+1) (.slice av evs.length cv) evs f 3 x1 x2 g k q true x1 0 evs.length)
       case first=>
        go_wp2;go_meet;case rel=>exact I1
       case rest=>
        clear I1 A0 A1 A2 A3 d1;have IH:=hcut;clear hcut;obtain⟨t0,t1,t2,t3⟩:=IH.deed;obtain⟨s0,s1,s2,s3,s4,s5⟩:=IH.event;have F2:=IH.free 2;have F4:=IH.free 4;have F5:=IH.free 5;obtain⟨z1,z2,z3⟩:=IH.lt;go_upto_if 67 with fail
        go_cut [] from 29 to 99 (fun wx=>Gw w wx wo.heap.size wr.heap.size (wr.heap.size+1) (.slice av evs.length cv) evs f' 3 x1 x2 g k q true x1 0 cl)
        case first=>
         have E1:Hid (f'=f):=Lib.hid (by rw[HF.out,DJ,if_neg (by omega)]);have E2:Hid (cl=(evs.length:Int)):=Lib.hid (by rw[HC.out,Cw,if_neg (by omega)]);go_wp2;go_meet;case rel=>rw[E1.out,E2.out];exact IH
        case rest=>
         clear t0 t1 t2 t3 s0 s1 s2 s3 s4 s5 F2 F4 F5 z1 z2 z3;clear IH hI;obtain⟨t0,t1,t2,t3⟩:=hcut.deed;obtain⟨s0,s1,s2,s3,s4,s5⟩:=hcut.event;have F2:=hcut.free 2;have F4:=hcut.free 4;have F5:=hcut.free 5;obtain⟨z1,z2,z3⟩:=hcut.lt;go_wp2_with (at_builtin;refine wpList_append_own_at _ rfl _ _ 98 rfl w.heap.size 128 j0 (.agg #[.int .i64 0,.int .i64 0,.bool false,.int .i64 0,.int .i64 0,.int .i64 0]) 6 48 Tryz.underlying98 hj hy0 hy1 hy2 rfl (by decide) _ _ _ rfl (hcut.l.app.keep ((AC.refl _).alloc _)) ⟨_,0,none⟩ 1 1 (cE ((k:Int),(q:Int),true,x1,0,cl)) rfl rfl ?a1 ?a2 ?a3 ?a4 ?a5 ?_)
         case a1=>exact M7 _ _ _ _ _ _ _
         case a2=>exact M8 _
         case a3=>unfold maxLen;omega
         case a4=>omega
         case a5=>simp;omega
         intro v' w5 hown' hgrow _ hbl;have I5:=hcut.hit ((k:Int),(q:Int),true,x1,0,cl) hown' hgrow hbl;clear hown' hgrow hbl;obtain⟨es1,h1⟩:∃es1,es1=evs++[((k:Int),(q:Int),true,x1,0,cl)]:=⟨_,rfl⟩;have l1:es1.length<=evs.length+1:=by rw[h1];simp
         rw[<-h1] at I5;clear t0 t1 t2 t3 s0 s1 s2 s3 s4 s5 F2 F4 F5 z1 z2 z3;clear hcut;obtain⟨t0,t1,t2,t3⟩:=I5.deed;obtain⟨s0,s1,s2,s3,s4,s5⟩:=I5.event;have F2:=I5.free 2;have F4:=I5.free 4;have F5:=I5.free 5;obtain⟨z1,z2,z3⟩:=I5.lt;have HS1:Hid (Bh k ds es (q+1)=(es1++[((k:Int),(q:Int),false,x1,x2,cl)],f')):=Lib.hid (by rw[HS.out,h1,List.append_assoc];rfl);clear h1 HS;go_upto_region 26 with fail
         have zz:w.heap.size<=w5.heap.size:=I5.l.keep.size;have I6:=I5.set2 false;clear t0 t1 t2 t3 s0 s1 s2 s3 s4 s5 F2 F4 F5 z1 z2 z3;obtain⟨t0,t1,t2,t3⟩:=I6.deed;obtain⟨s0,s1,s2,s3,s4,s5⟩:=I6.event;have F2:=I6.free 2;have F4:=I6.free 4;have F5:=I6.free 5;obtain⟨z1,z2,z3⟩:=I6.lt;go_upto_region 27 with fail
         have I7:=I6.set4 x2;clear t0 t1 t2 t3 s0 s1 s2 s3 s4 s5 F2 F4 F5 z1 z2 z3;obtain⟨t0,t1,t2,t3⟩:=I7.deed;obtain⟨s0,s1,s2,s3,s4,s5⟩:=I7.event;have F2:=I7.free 2;have F4:=I7.free 4;have F5:=I7.free 5;obtain⟨z1,z2,z3⟩:=I7.lt;go_wp2_with (at_builtin;refine wpList_append_own_at _ rfl _ _ 98 rfl w.heap.size 128 j0 (.agg #[.int .i64 0,.int .i64 0,.bool false,.int .i64 0,.int .i64 0,.int .i64 0]) 6 48 Tryz.underlying98 hj hy0 hy1 hy2 rfl (by decide) _ _ _ rfl (I7.l.app.keep ((AC.refl _).alloc _)) ⟨_,0,none⟩ 1 1 (cE ((k:Int),(q:Int),false,x1,x2,cl)) rfl rfl ?b1 ?b2 ?b3 ?b4 ?b5 ?_)
         case b1=>exact ZY _ _ (by simp) _ _ _ _ _ _
         case b2=>exact M8 _
         case b3=>unfold maxLen;omega
         case b4=>omega
         case b5=>simp;omega
         intro v' w5 hown' hgrow _ hbl;have I8:=I7.hit ((k:Int),(q:Int),false,x1,x2,cl) hown' hgrow (by simpa using hbl);clear hown' hgrow hbl;clear t0 t1 t2 t3 s0 s1 s2 s3 s4 s5 F2 F4 F5 z1 z2 z3;clear I5 I6 I7;go_wp2;go_roundw;case rel=>exact⟨q+1,_,f',by omega,by go_num,HS1,hfl',by simp;omega,I8.l⟩
         case measure=>simp[intOf];omega
      ·
       have HS:Hid (Bh k ds es (q+1)=(evs,f)):=Lib.hid (by rw[HST.out];rfl);clear HST r4;go_wp2;go_roundw;case rel=>exact⟨q+1,evs,f,by omega,by go_num,HS,hfl,by omega,hI.more ((AC.refl _).alloc _)⟩
       case measure=>simp[intOf];omega
     ·
      obtain rfl:q=ds.length:=by omega
      go_wp2;go_roundw;case rel=>exact⟨k+1,evs,by omega,by go_num,Lib.hid (by rw[A8,<-MV.out,<-hE.out,hC.out]),by omega,hI.app,hI.keep⟩
      case measure=>simp[intOf];omega
   ·
    obtain rfl:k=AA.length:=by omega
    go_wp2;go_ret;exact⟨_,rfl,by rw[<-hE.out];exact ho,hK⟩
theorem G2 (w:World)(v:Value)(es:List Ev)(h:gV w v es)(hx:es.length<=1048576):
  Calls Tryz.prog 81 #[v] w fun e w'=>∃v',e = .returned v'/\BO w' w.heap.size v' (AV Ad es)/\AC w w':=by
 have hown0:BO (w.alloc (.cells #[] 2)) w.heap.size (.slice (some ⟨w.heap.size,0,none⟩) 0 0) []:=World.ownsRow_lit w #[] 0 (Nat.le_refl _) (by decide) rfl;obtain⟨a,cap,rfl,h⟩:=h;by_cases hl:12<es.length
 ·
  have HE:Hid (AV Ad es=[]):=Lib.hid (by unfold AV;rw[if_neg (by omega)]);have l1:(12:Int)<(es.length:Int):=by omega
  go_enter Tryz.func81,Tryz.ntmps81
  go_wp2;refine wp_loop_rounds 1 ?_;rw[rounds_succ];go_wp2;go_ret;exact⟨_,rfl,by rw[HE.out];exact hown0,(AC.refl _).alloc _⟩
 have l1:es.length<=12:=by omega
 clear hl;have HE:Hid (AV Ad es=BZ Ad es es.length):=Lib.hid (by unfold AV;rw[if_pos l1]);obtain⟨i0,hi,hz0,hz1,hz2⟩:=info_parts Tryz.GI;go_enter Tryz.func81,Tryz.ntmps81
 go_wp2;go_loopw [3,4] (fun v i wr=>∃k:Nat,k<=es.length/\i = .int .i64 k/\BO wr w.heap.size v (BZ Ad es k)/\AC w wr) (fun _ i _=>es.length-(intOf i).toNat)
 case atStart=>exact⟨0,Nat.zero_le _,rfl,hown0,(AC.refl _).alloc _⟩
 case round=>
  obtain⟨k,hk,rfl,ho,hK⟩:=hrel;clear hown0;by_cases hlt:k<es.length
  ·
   rcases h with h|⟨b,off,rfl,hb,hc⟩
   . exfalso;rw[h] at hlt;simp at hlt
   have AT:=(hc k _ (Mj hlt)).keep hb hK;have hbw:b<wr.heap.size:=Nat.lt_of_lt_of_le hb hK.size;clear hc;have hml:(BZ Ad es k).length<=k:=C9 Ad es k;have hsz:=hK.size;have i1:(0:Int)<=(k:Int):=Int.natCast_nonneg _;have i2:(k:Int)<(es.length:Int):=by omega
   have l2:(es.length:Int)<=12:=by omega
   have HP:Hid (BZ Ad es (k+1)=if Ad (es.getD k zE)=true then BZ Ad es k++[(k:Int)] else BZ Ad es k):=Lib.hid rfl;obtain⟨e,he⟩:∃e,e=es.getD k zE:=⟨_,rfl⟩;rw[<-he] at AT HP;clear he;obtain⟨x0,x1,x2,x3,x4,x5⟩:=e;obtain⟨-,-,A2,-,-,-⟩:=rZ AT;clear AT;cases x2
   ·
    have HM:Hid (BZ Ad es (k+1)=BZ Ad es k):=Lib.hid (by rw[HP.out];rfl);clear HP;go_wp2;go_roundw;case rel=>exact⟨k+1,by omega,by go_num,by rw[HM.out];exact ho,hK⟩
    case measure=>simp[intOf];omega
   ·
    have HM:Hid (BZ Ad es (k+1)=BZ Ad es k++[(k:Int)]):=Lib.hid (by rw[HP.out];rfl);clear HP;go_wp2_with (at_builtin;refine wpList_append_own _ rfl _ _ 28 rfl w.heap.size 2 i0 (.int .i64 0) 1 8 Tryz.underlying28 hi hz0 hz1 hz2 rfl (by decide) _ _ _ rfl (World.ownsRow.alloc ho _) ⟨_,0,none⟩ 1 1 [.int .i64 k] rfl rfl ?c1 ?c2 ?c3 ?c4 ?c5 ?_)
    case c1=>
     intro j u hj
     match j,hj with
     | 0,hj=>simp at hj;subst hj;simp[Addr.add]
    case c2=>intro u hu;simp at hu;subst hu;rfl
    case c3=>unfold maxLen;omega
    case c4=>omega
    case c5=>simp;omega
    intro v' w1 hown' hgrow _;have hK1:AC w w1:=(hK.alloc _).grown hgrow ho.ge;clear hgrow;go_wp2;go_roundw;case rel=>exact⟨k+1,by omega,by go_num,by rw[HM.out];exact EJ hown',hK1⟩
    case measure=>simp[intOf];omega
  ·
   obtain rfl:k=es.length:=by omega
   go_wp2;go_ret;exact⟨_,rfl,by rw[HE.out];exact ho,hK⟩
theorem MY (w:World)(v:BV)(AA:List (List Dd))(b:Bd)(h:Cf w v AA b)(hp:Y6 AA b):
  Calls Tryz.prog 50 #[v.agg] w fun e w'=>∃v',e = .returned v'/\BO w' w.heap.size v' (Ah AA b)/\AC w w':=by
 have C:=fun (W:World) (kW:AC w W) (c:Nat) (hc:c<AA.length)=>Uh W v AA b c (h.keep kW) hp hc
 obtain⟨i0,hi,hz0,hz1,hz2⟩:=info_parts Tryz.GI;have HN:=Lib.hid h.N;have hm:=hp.m;have hpn:=Lib.hid hp.n;obtain⟨aW,aP,aL,aN,aX,aS,aF,aR,cW,cP,cL,cN,cX,cS,cF,cR,rfl⟩:=h.shapes;clear h hp;go_enter Tryz.func50,Tryz.ntmps50
 go_upto_region 1 with fail
 obtain⟨wB,wE⟩:∃W:World,W=w.alloc (.cells #[.slice aW AA.length cW,.slice aP b.AM.length cP,.slice aL b.AQ.length cL,.slice aN b.AG.length cN,.slice aX b.AK.length cX,.slice aS b.sn.length cS,.slice aF b.fr.length cF,.slice aR b.rws.length cR] 36):=⟨_,rfl⟩;have kB:AC w wB:=by rw[wE];exact (AC.refl w).alloc _
 have sB:wB.heap.size=w.heap.size+1:=by rw[wE];exact AD _ _
 have BC:Hid (∀(W:World),AC wB W->W.cell? ⟨w.heap.size,0,none⟩=some (.slice aW AA.length cW)/\W.cell? ⟨w.heap.size,1,none⟩=some (.slice aP b.AM.length cP)/\W.cell? ⟨w.heap.size,2,none⟩=some (.slice aL b.AQ.length cL)/\W.cell? ⟨w.heap.size,3,none⟩=some (.slice aN b.AG.length cN)/\W.cell? ⟨w.heap.size,4,none⟩=some (.slice aX b.AK.length cX)/\W.cell? ⟨w.heap.size,5,none⟩=some (.slice aS b.sn.length cS)/\W.cell? ⟨w.heap.size,6,none⟩=some (.slice aF b.fr.length cF)/\W.cell? ⟨w.heap.size,7,none⟩=some (.slice aR b.rws.length cR)):=Lib.hid (by
  rw[wE]
  exact fun W k=>⟨AZ k 0,AZ k 1,AZ k 2,AZ k 3,AZ k 4,AZ k 5,AZ k 6,AZ k 7⟩)
 rw[<-wE];clear wE;have SB:=Lib.hid sB;have lB:w.heap.size<wB.heap.size:=by omega
 clear sB;have hown0:BO (wB.alloc (.cells #[] 2)) wB.heap.size (.slice (some ⟨wB.heap.size,0,none⟩) 0 0) []:=World.ownsRow_lit wB #[] 0 (Nat.le_refl _) (by decide) rfl;go_wp2;go_loopw [3,4] (fun v0 i wr=>∃(k:Nat) (v:Value),v=v0/\k<=AA.length/\i = .int .i64 k/\BO wr wB.heap.size v (G7 AA b k)/\AC wB wr) (fun _ i _=>AA.length-(intOf i).toNat)
 case atStart=>exact⟨0,_,rfl,Nat.zero_le _,rfl,hown0,(AC.refl _).alloc _⟩
 case round=>
  obtain⟨k,v,rfl,hk,rfl,ho,hK⟩:=hrel;clear hown0;obtain⟨b0,b1,b2,b3,b4,b5,b6,b7⟩:=BC.out _ hK;by_cases hlt:k<AA.length
  ·
   have i1:(0:Int)<=(k:Int):=Int.natCast_nonneg _;have i2:(k:Int)<(AA.length:Int):=by omega
   go_wp2_with fail
   refine (C _ (kB.trans hK) k hlt).mono ?_;rintro e w2 ⟨rfl,k2⟩;have hK2:=hK.trans k2;have hml:(G7 AA b k).length<=k:=R9 _ _ _;have hsz:=hK2.size;replace ho:=ho.keep k2;clear b0 b1 b2 b3 b4 b5 b6 b7;cases hc:BU AA b k
   ·
    have HM:Hid (G7 AA b (k+1)=G7 AA b k):=Lib.hid (W7 hc);go_wp2;go_roundw;case rel=>exact⟨k+1,_,rfl,by omega,by go_num,by rw[HM.out];exact ho,hK2⟩
    case measure=>simp[intOf];omega
   ·
    have HM:Hid (G7 AA b (k+1)=G7 AA b k++[(k:Int)]):=Lib.hid (Za hc);go_wp2_with (at_builtin;refine wpList_append_own _ rfl _ _ 28 rfl wB.heap.size 2 i0 (.int .i64 0) 1 8 Tryz.underlying28 hi hz0 hz1 hz2 rfl (by decide) _ _ _ rfl (World.ownsRow.alloc ho _) ⟨_,0,none⟩ 1 1 [.int .i64 k] rfl rfl ?c1 ?c2 ?c3 ?c4 ?c5 ?_)
    case c1=>
     intro j u hj
     match j,hj with
     | 0,hj=>simp at hj;subst hj;simp[Addr.add]
    case c2=>intro u hu;simp at hu;subst hu;rfl
    case c3=>unfold maxLen;omega
    case c4=>omega
    case c5=>simp;omega
    intro v' w1 hown' hgrow _;have hK1:AC wB w1:=(hK2.alloc _).grown hgrow ho.ge;clear hgrow;go_wp2;go_roundw;case rel=>exact⟨k+1,_,rfl,by omega,by go_num,by rw[HM.out];exact EJ hown',hK1⟩
    case measure=>simp[intOf];omega
  ·
   obtain rfl:k=AA.length:=by omega
   have HP:Hid (G7 AA b AA.length++PD b AA.length=Ah AA b):=Lib.hid (YK AA b);have hml:(G7 AA b AA.length).length<=AA.length:=R9 _ _ _;generalize G7 AA b AA.length=CK at *;have ho0:BO wr wB.heap.size v (CK++PD b 0):=by rw[show PD b 0=[] from rfl,List.append_nil];exact ho
   clear ho hk hlt;go_wp2;clear b0 b1 b2 b3 b4 b5 b6 b7;go_loopw [3,5] (fun v0 i wr=>∃(k:Nat) (v:Value),v=v0/\k<=AA.length/\i = .int .i64 k/\BO wr wB.heap.size v (CK++PD b k)/\AC wB wr) (fun _ i _=>AA.length-(intOf i).toNat)
   case atStart=>exact⟨0,_,rfl,Nat.zero_le _,rfl,ho0,hK⟩
   case round=>
    clear hK ho0;obtain⟨k,v,rfl,hk,rfl,ho,hK⟩:=hrel;obtain⟨b0,b1,b2,b3,b4,b5,b6,b7⟩:=BC.out _ hK;by_cases hlt:k<AA.length
    ·
     have i1:(0:Int)<=(k:Int):=Int.natCast_nonneg _;have i2:(k:Int)<(AA.length:Int):=by omega
     have hkn:k<b.AG.length:=by rw[hpn.out];exact hlt
     have i3:(k:Int)<(b.AG.length:Int):=by omega
     have hN:=HN.out.keep (kB.trans hK);obtain⟨a',c',he',hN⟩:=hN;simp only[Value.slice.injEq,true_and] at he';obtain⟨rfl,rfl⟩:=he';rcases hN with h0|⟨bn,on,rfl,hbn,hcn'⟩
     . exfalso;rw[h0] at hkn;simp at hkn
     obtain⟨vn,d3,r3⟩:=hcn' k hkn;obtain⟨an,cn,rfl,-⟩:=r3;have hml2:=jy b k;have hml3:(CK++PD b k).length<=AA.length+k:=by rw[List.length_append];omega
     have hsz:=hK.size;have HH:0<(b.AG.getD k []).length->Hid (PD b (k+1)=PD b k++[10+(k:Int)]):=fun h=>Lib.hid (jv h)
     have HZ:¬ 0<(b.AG.getD k []).length->Hid (PD b (k+1)=PD b k):=fun h=>Lib.hid (bT h)
     generalize b.AG.getD k []=ns at *;have i4:IntKind.i64.wrap (10+(k:Int))=10+(k:Int):=by rw[IntKind.wrap_i64];omega
     clear hcn';by_cases hz:0<ns.length
     ·
      have HM:Hid (CK++PD b (k+1)=(CK++PD b k)++[10+(k:Int)]):=Lib.hid (by rw[(HH hz).out,List.append_assoc]);have i5:(0:Int)<(ns.length:Int):=by omega
      clear HH HZ;generalize CK++PD b k=PK at *;go_wp2_with (at_builtin;refine wpList_append_own _ rfl _ _ 28 rfl wB.heap.size 2 i0 (.int .i64 0) 1 8 Tryz.underlying28 hi hz0 hz1 hz2 rfl (by decide) _ _ _ rfl (World.ownsRow.alloc ho _) ⟨_,0,none⟩ 1 1 [.int .i64 (10+(k:Int))] rfl rfl ?c1 ?c2 ?c3 ?c4 ?c5 ?_)
      case c1=>
       intro j u hj
       match j,hj with
       | 0,hj=>simp at hj;subst hj;simp[Addr.add]
      case c2=>intro u hu;simp at hu;subst hu;rfl
      case c3=>unfold maxLen;omega
      case c4=>omega
      case c5=>simp;omega
      intro v' w1 hown' hgrow _;have hK1:AC wB w1:=(hK.alloc _).grown hgrow ho.ge;clear hgrow b0 b1 b2 b3 b4 b5 b6 b7;go_wp2;go_roundw;case rel=>exact⟨k+1,_,rfl,by omega,by go_num,by rw[HM.out];exact EJ hown',hK1⟩
      case measure=>simp[intOf];omega
     ·
      have HM:=HZ hz;have i5:¬((0:Int)<(ns.length:Int)):=by omega
      clear HH HZ;go_wp2;clear b0 b1 b2 b3 b4 b5 b6 b7;go_roundw;case rel=>exact⟨k+1,_,rfl,by omega,by go_num,by rw[HM.out];exact ho,hK⟩
      case measure=>simp[intOf];omega
    ·
     obtain rfl:k=AA.length:=by omega
     go_wp2;go_ret;exact⟨_,rfl,by rw[<-HP.out];exact ho.BM (by have:=SB.out;omega),kB.trans hK⟩
def C6 (AA:List (List Dd))(b:Bd):List Int:=if Ac AA b=true then Ah AA b else []
section
section
variable {P:Program} {w:World}
theorem Dx {o:Oper}{a:Act}{K:Act->World->Prop}{Q:Exit->Act->World->Prop}(s x:Operand)(t:TypeId)
  (ho:o.op = .call { callee:= .builtin .append,args:=#[s,x],argTypes:=#[t,t] })
  (base:Nat) (e:TypeId) (i:TypeInfo) (z:Value) (size bytes:Nat) (ht:P.underlying t=some (.slice e)) (hi:P.info? e=some i) (hz:i.zero=some z)
  (hsize:i.size=size) (hby:i.bytes=bytes) (hzs:z.cells.size=size) (hsz:0<size)
  (v:Value) (n:Nat) (xs:List Value) (hs:a.eval s=v) (hown:w.ownsRow base e size v n xs)
  (ad:Addr) (m c:Nat) (news:List Value) (hx:a.eval x = .slice (some ad) m c) (hl:news.length=m*size) (hnews:∀j u,news[j]? = some u->w.cell? (ad.add j)=some u) (h1:∀u∈news,u.oneCell'=true)
  (h63:n+m<=maxLen) (hbytes:(n+m)*bytes<=140737488355328) (hbase:base<=w.heap.size)
  (h:∀v' w',w'.ownsRow base e size v' (n+m) (xs++news)->w.grownBy w' v.ownBlock->(v'.ownBlock=v.ownBlock\/v'.ownBlock=some w.heap.size)->K (a.put o.dst v') w'):o.wp P a w K Q:=by
 obtain⟨v',w',hr,h2,h3,_,h5⟩:=run_append_own_at (P:=P) w base t o.type e i z size bytes ht hi hz hsize hby hzs hsz v n xs hown ad m c news hl hnews h1 h63 hbytes hbase;unfold Oper.wp execOp;simp only[ho,resolve,invoke,builtin,Sem.run_bind,Sem.run_pure,Result.andThen_ok,List.map_toArray,List.map_cons,List.map_nil,hs,hx,hr];exact h v' w' h2 h3 h5
end
theorem Tryz.aJ:(Tryz.prog.info? 104).map (fun i=>(i.zero,i.size,i.bytes))=some (some (.agg #[.int .i64 0,.int .i64 0,.int .i64 0]),3,24):=by kernel_rfl
theorem WA (ns:List Nt):(ns.flatMap cN).length=ns.length*3:=by
 induction ns with
 |nil=>rfl
 |cons d r ih=>rw[List.flatMap_cons,List.length_append,ih,List.length_cons];simp[cN];omega
theorem kC (ns:List Nt):∀u∈ns.flatMap cN,u.oneCell'=true:=fun u hu=>by
 obtain⟨x,_,hx⟩:=List.mem_flatMap.1 hu;simp only[cN,List.mem_cons,List.not_mem_nil,or_false] at hx;rcases hx with rfl|rfl|rfl<;>rfl
theorem qb (ns:List Nt):∀(i m:Nat),i<ns.length->m<3->(ns.flatMap cN)[i*3+m]? = (cN (ns.getD i zN))[m]?:=by
 induction ns with
 |nil=>intro i m hi _;simp at hi
 |cons d r ih=>
  intro i m hi hm;rw[List.flatMap_cons]
  cases i with
  |zero=>
   rw[List.getElem?_append_left (by rw[D5];omega)];simp
  |succ i=>
   rw[List.getElem?_append_right (by rw[D5];omega),D5,show (i+1)*3+m-3=i*3+m by omega,ih i m (by simpa using hi) hm];simp
theorem YA {w:World}{b off:Nat}{ns:List Nt}(h:∀i x,ns[i]? = some x->gP cN w b (off+i*3) x):∀j u,(ns.flatMap cN)[j]? = some u->w.cell? ((⟨b,off,none⟩:Addr).add j)=some u:=fun j u hj=>by
 have hl:j<ns.length*3:=by rw[<-WA];exact (List.getElem?_eq_some_iff.1 hj).1
 have hi:j / 3<ns.length:=by omega
 have hm:j % 3<3:=Nat.mod_lt _ (by omega);have e:j=j / 3*3+j % 3:=by omega
 have h1:=qb ns (j / 3) (j % 3) hi hm;rw[<-e] at h1;rw[h1] at hj;have ea:(⟨b,off,none⟩:Addr).add j=⟨b,off+j / 3*3+j % 3,none⟩:=by rw[show off+j / 3*3+j % 3=off+j by omega];simp[Addr.add]
 rw[ea];exact h (j / 3) _ (Kn hi) (j % 3) u hj
theorem G3 {w:World}{o:Oper}{a:Act}{K:Act->World->Prop}{Q:Exit->Act->World->Prop}(s x:Operand)
  (ho:o.op = .call { callee:= .builtin .append,args:=#[s,x],argTypes:=#[101,101] })
  (base g:Nat) (hs:a.eval s = .slice (some ⟨g,0,none⟩) 0 0) (hown:Bz cN 104 3 w base (.slice (some ⟨g,0,none⟩) 0 0) [])
  (vx:Value) (hx:a.eval x=vx) (ns:List Nt) (hr:mJ w vx ns) (hn:ns.length<=1048576) (hb:base<=w.heap.size)
  (h:∀v' w',Bz cN 104 3 w' base v' ns->w.grownBy w' (some g)->K (a.put o.dst v') w'):o.wp Tryz.prog a w K Q:=by
 obtain⟨i0,hi,hz0,hz1,hz2⟩:=info_parts Tryz.aJ;obtain⟨ax,cx,rfl,hr⟩:=hr;rcases hr with h0|⟨bx,ox,rfl,hbx,hcx⟩
 ·
  subst h0
  cases ax with
  |none=>
   have hh:=h (.slice (some ⟨g,0,none⟩) 0 0) w hown (World.grownBy.refl _ _);unfold Oper.wp execOp;simp only[ho,resolve,invoke,builtin,Sem.run_bind,Sem.run_pure,Result.andThen_ok,List.map_toArray,List.map_cons,List.map_nil,hs,hx];go_simp;exact hh
  |some y=>
   refine wp_append_own w s x 101 ho base 104 i0 _ 3 24 Tryz.underlying101 hi hz0 hz1 hz2 rfl (by decide) _ 0 [] hs hown y 0 _ [] hx rfl (by simp) (by simp) (by simp) (by simp) hb ?_;intro v' w' h1 h2 _;exact h v' w' h1 h2
 ·
  refine wp_append_own w s x 101 ho base 104 i0 _ 3 24 Tryz.underlying101 hi hz0 hz1 hz2 rfl (by decide) _ 0 [] hs hown ⟨bx,ox,none⟩ ns.length _ (ns.flatMap cN) hx (WA ns) (YA hcx) (kC ns) (by unfold maxLen;omega) (by omega) hb ?_;intro v' w' h1 h2 _;refine h v' w' ?_ h2;unfold Bz
  simpa using h1
theorem Cv {w:World}{o:Oper}{a:Act}{K:Act->World->Prop}{Q:Exit->Act->World->Prop}(s x:Operand)
  (ho:o.op = .call { callee:= .builtin .append,args:=#[s,x],argTypes:=#[28,28] })
  (base:Nat) (v:Value) (zs:List Int) (hs:a.eval s=v) (hown:BO w base v zs)
  (vx:Value) (hx:a.eval x=vx) (ys:List Int) (hr:Rd w vx ys) (hz:zs.length<=1048576) (hy:ys.length<=1048576) (hb:base<=w.heap.size)
  (h:∀v' w',BO w' base v' (zs++ys)->w.grownBy w' v.ownBlock->(v'.ownBlock=v.ownBlock\/v'.ownBlock=some w.heap.size)->K (a.put o.dst v') w'):o.wp Tryz.prog a w K Q:=by
 obtain⟨i0,hi,hz0,hz1,hz2⟩:=info_parts Tryz.GI
 have law:∀(ad:Addr) (c:Nat),a.eval x = .slice (some ad) ys.length c->(∀j u,(ys.map (Value.int .i64))[j]? = some u->w.cell? (ad.add j)=some u)->o.wp Tryz.prog a w K Q:=fun ad c hx hn=>by
  refine Dx s x 28 ho base 2 i0 _ 1 8 Tryz.underlying28 hi hz0 hz1 hz2 rfl (by decide) v zs.length (zs.map (Value.int .i64)) hs hown ad ys.length c (ys.map (Value.int .i64)) hx (by simp) hn (fun u hu=>?_) (by unfold maxLen;omega) (by omega) hb ?_
  . obtain⟨q,_,rfl⟩:=List.mem_map.1 hu;rfl
  ·
   intro v' w' h1 h2 h3;refine h v' w' ?_ h2 h3;unfold BO;rw[List.length_append,List.map_append];exact h1
 obtain⟨ax,cx,rfl,hr⟩:=hr;rcases hr with h0|⟨bx,ox,rfl,hbx,hcx⟩
 ·
  subst h0
  cases ax with
  |none=>
   have hh:=h v w (by rw[List.append_nil];exact hown) (World.grownBy.refl _ _) (.inl rfl);rcases hown.2 with ⟨rfl,hn0⟩|⟨g,cap,cur,rfl,-,-,hcap,-⟩
   ·
    unfold Oper.wp execOp;simp only[ho,resolve,invoke,builtin,Sem.run_bind,Sem.run_pure,Result.andThen_ok,List.map_toArray,List.map_cons,List.map_nil,hs,hx];go_simp;exact hh
   ·
    unfold Oper.wp execOp;simp only[ho,resolve,invoke,builtin,Sem.run_bind,Sem.run_pure,Result.andThen_ok,List.map_toArray,List.map_cons,List.map_nil,hs,hx];go_simp;exact hh
  |some y=>exact law y _ hx (fun j u hu=>by simp at hu)
 ·
  refine law _ _ hx (fun j u hu=>?_);have hj:j<ys.length:=by have:=(List.getElem?_eq_some_iff.1 hu).1;simpa using this
  have e:=hcx j hj;rw[List.getElem?_map,List.getElem?_eq_getElem hj] at hu;simp only[Option.map_some,Option.some.injEq] at hu;rw[List.getD_eq_getElem?_getD,List.getElem?_eq_getElem hj] at e;simp only[Option.getD_some] at e;rw[<-hu]
  have ea:(⟨bx,ox,none⟩:Addr).add j=⟨bx,ox+j,none⟩:=by
   by_cases hj0:j=0
   . subst hj0;simp[Addr.add]
   . simp[Addr.add,hj0]
  rw[ea];exact e
end
theorem A6 {w:World}{ops:Array Oper}{rest:List Oper}{o:Oper}{a:Act}{Q:Exit->Act->World->Prop}(hgd:o.guard=none)(s x:Operand)
  (ho:o.op = .call { callee:= .builtin .append,args:=#[s,x],argTypes:=#[28,28] })
  (base:Nat) (v:Value) (zs:List Int) (hs:a.eval s=v) (hown:BO w base v zs)
  (vx:Value) (hx:a.eval x=vx) (ys:List Int) (hr:Rd w vx ys) (hz:zs.length<=1048576) (hy:ys.length<=1048576) (hb:base<=w.heap.size)
  (h:∀v' w',BO w' base v' (zs++ys)->w.grownBy w' v.ownBlock->(v'.ownBlock=v.ownBlock\/v'.ownBlock=some w.heap.size)->wpList Tryz.prog ops Q rest (a.put o.dst v') w'):wpList Tryz.prog ops Q (o::rest) a w:=
 wpList_plain hgd fun _ hK=>Cv s x ho base v zs hs hown vx hx ys hr hz hy hb (fun v' w' h1 h2 h3=>hK _ _ (h v' w' h1 h2 h3))
section
theorem GQ {x:Bool}{C:Prop}(h:x=true)(q:x=false):C:=absurd (h.symm.trans q) (by simp)
def AX (B:Nat->Bool)(i:Nat):Nat->Bool:=fun k=>if k=i then true else B k
def Cy (rows:List Nat)(B:Nat->Bool)(j:Nat):Prop:=j∈rows/\B j=true
theorem Lg {rows:List Nat}{B:Nat->Bool}{i j:Nat}(h:Cy rows (AX B i) j):Cy rows B j\/j=i:=by
 obtain⟨h1,h2⟩:=h;by_cases e:j=i
 . exact .inr e
 ·
  refine .inl ⟨h1,?_⟩;unfold AX at h2;rw[if_neg e] at h2;exact h2
theorem Cp {rows:List Nat}{B:Nat->Bool}{i j:Nat}(hi:i∉rows)(h:Cy rows (AX B i) j):Cy rows B j:=by
 rcases Lg h with q|rfl
 . exact q
 . exact absurd h.1 hi
structure Mk (w:World)(m:Nat)(live:Nat->Prop)(R:Nat->Rw)(wk:Bool)(vW:Value)(bs N:Nat)(AA:List (List Dd)):Prop where
 Ag:Fl w m live R
 work:wk=true->JP w bs N vW AA/\N<=w.heap.size/\m<=bs
 out:wk=true->∀i,live i->∀k,(R i).v.ownBlock=some k->k<bs\/N<=k
section
variable {w w':World} {m:Nat} {rows:List Nat} {B:Nat->Bool} {R:Nat->Rw} {wk:Bool} {vW:Value} {bs N:Nat} {AA:List (List Dd)}
theorem Mk.start (w:World)(m:Nat)(rows:List Nat)(R:Nat->Rw)(vW:Value)(bs N:Nat)(AA:List (List Dd)):Mk w m (Cy rows (fun _=>false)) R false vW bs N AA:=
 ⟨⟨fun _ h=>(by cases h.2),fun _ _ h=>(by cases h.2)⟩,fun h=>(by cases h),fun h=>(by cases h)⟩
theorem Mk.keep {live:Nat->Prop}(h:Mk w m live R wk vW bs N AA)(k:AC w w'):Mk w' m live R wk vW bs N AA:=
 ⟨h.Ag.keep k,fun e=>⟨(h.work e).1.kept k.grownBy (by simp),Nat.le_trans (h.work e).2.1 k.size,(h.work e).2.2⟩,h.out⟩
theorem Mk.pass (h:Mk w m (Cy rows B) R wk vW bs N AA){i:Nat}(hi:i∉rows):Mk w m (Cy rows (AX B i)) R wk vW bs N AA:=
 ⟨h.Ag.congr (fun _ hj=>Cp hi hj) (fun _ _=>rfl),h.work,fun e j hj=>h.out e j (Cp hi hj)⟩
theorem Mk.add (h:Mk w m (Cy rows B) R wk vW bs N AA){i:Nat}(hi:B i=false){r:Rw}(k:AC w w')(ho:r.own w' m)(hn:∀b,r.v.ownBlock=some b->w.heap.size<=b):Mk w' m (Cy rows (AX B i)) (IX R i r) wk vW bs N AA:=by
 have F:=h.Ag.add (i:=i) (fun q=>by have q2:=q.2;rw[hi] at q2;cases q2) (r:=r) rfl k ho hn;refine⟨F.congr (fun j hj=>Lg hj) (fun _ _=>rfl),(h.keep k).work,fun e j hj b hb=>?_⟩;by_cases ej:j=i
 ·
  subst ej;rw[Am] at hb;have:=hn b hb;have:=(h.work e).2.1;right;omega
 ·
  rw[AR _ _ ej] at hb;exact h.out e j ((Lg hj).resolve_right ej) b hb
theorem Mk.copied (h:Mk w m (Cy rows B) R false vW bs N AA){i:Nat}(hi:i∉rows){v':Value}(k:AC w w')(hx:Wj w' w.heap.size v' AA)(hm:m<=w.heap.size):Mk w' m (Cy rows (AX B i)) R true v' w.heap.size w'.heap.size AA:=
 ⟨(h.Ag.keep k).congr (fun _ hj=>Cp hi hj) (fun _ _=>rfl),fun _=>⟨hx.upto,Nat.le_refl _,hm⟩,fun _ _ hj b hb => .inl (h.Ag.lt (Cp hi hj) b hb).2⟩
theorem Mk.turn (h:Mk w m (Cy rows B) R wk vW bs N AA){i j:Nat}(hi:i∉rows)(hj:Cy rows B j){r:Rw}(hg:w.grownBy w' (R j).v.ownBlock)(hv:r.v=(R j).v)(ho:r.own w' m):Mk w' m (Cy rows (AX B i)) (IX R j r) wk vW bs N AA:=by
 have F:=h.Ag.set hj (r:=r) hg (.inl (by rw[hv])) ho;refine⟨F.congr (fun _ q=>Cp hi q) (fun _ _=>rfl),fun e=>⟨(h.work e).1.kept hg (fun g e'=>h.out e j hj g e'),Nat.le_trans (h.work e).2.1 hg.size,(h.work e).2.2⟩,fun e q hq b hb=>?_⟩;by_cases eq:q=j
 ·
  subst eq;rw[Am,hv] at hb;exact h.out e q hj b hb
 ·
  rw[AR _ _ eq] at hb;exact h.out e q (Cp hi hq) b hb
theorem Mk.grow (h:Mk w m (Cy rows B) R wk vW bs N AA){i j:Nat}(hi:i∉rows)(hj:Cy rows B j){r:Rw}(hg:w.grownBy w' (R j).v.ownBlock)(hv:r.v.ownBlock=(R j).v.ownBlock\/r.v.ownBlock=some w.heap.size)(ho:r.own w' m):Mk w' m (Cy rows (AX B i)) (IX R j r) wk vW bs N AA:=by
 have F:=h.Ag.set hj (r:=r) hg (by rcases hv with e|e;exact .inl e;exact .inr (.inl e)) ho;refine⟨F.congr (fun _ q=>Cp hi q) (fun _ _=>rfl),fun e=>⟨(h.work e).1.kept hg (fun g e'=>h.out e j hj g e'),Nat.le_trans (h.work e).2.1 hg.size,(h.work e).2.2⟩,fun e q hq b hb=>?_⟩;by_cases eq:q=j
 ·
  subst eq;rw[Am] at hb;rcases hv with e1|e1
  . rw[e1] at hb;exact h.out e q hj b hb
  ·
   rw[e1] at hb;have:=Option.some.inj hb;have:=(h.work e).2.1;right;omega
 ·
  rw[AR _ _ eq] at hb;exact h.out e q (Cp hi hq) b hb
theorem Mk.far (h:Mk w m (Cy rows B) R false vW bs N AA){i:Nat}(hi:i∉rows){g:Nat}(hg:w.grownBy w' (some g))(hl:g<m):Mk w' m (Cy rows (AX B i)) R false vW bs N AA:=
 ⟨(h.Ag.far hg (fun j hj=>by
  cases e:(R j).v.ownBlock with
  |none=>exact .inl rfl
  |some k=>exact .inr (fun e'=>by have:=(h.Ag.lt hj k e).1;have:=Option.some.inj e';omega))).congr (fun _ q=>Cp hi q) (fun _ _=>rfl),fun e=>(by cases e),fun e=>(by cases e)⟩
end
theorem Fl.via {ι κ:Type}{w:World}{m:Nat}{live:ι->Prop}{R:ι->Rw}(h:Fl w m live R)(g:κ->Option ι)(inj:∀a b i,g a=some i->g b=some i->a=b){live':κ->Prop}{R':κ->Rw}
  (h1:∀a i,live' a->g a=some i->live i/\R' a=R i) (h2:∀a,live' a->g a=none->(R' a).own w m/\(R' a).v.ownBlock=none):Fl w m live' R':=by
 refine⟨fun a ha=>?_,fun a b ha hb hab=>?_⟩
 ·
  cases e:g a with
  |none=>exact (h2 a ha e).1
  |some i=>rw[(h1 a i ha e).2];exact h.own i (h1 a i ha e).1
 ·
  cases e:g a with
  |none=>exact .inl (h2 a ha e).2
  |some i=>
   cases e':g b with
   |none=>
    rw[(h2 b hb e').2]
    cases (R' a).v.ownBlock with
    |none=>exact .inl rfl
    |some q=>exact .inr (by simp)
   |some j=>
    rw[(h1 a i ha e).2,(h1 b j hb e').2];exact h.apart i j (h1 a i ha e).1 (h1 b j hb e').1 (fun q=>by subst q;exact hab (inj a b i e e'))
theorem II (w:World)(m:Nat)(t:TypeId)(s:Nat):Rw.own w m ⟨t,s,AE,0,[]⟩:=⟨by simp,.inl ⟨rfl,rfl⟩⟩
theorem Kq (w:World){m:Nat}(hm:m<=w.heap.size)(t:TypeId)(cs:Array Value)(h:cs.size<=maxLen):Rw.own (w.alloc (.cells cs t)) m ⟨t,1,.slice (some ⟨w.heap.size,0,none⟩) cs.size cs.size,cs.size,cs.toList⟩:=by
 refine⟨by simp,.inr ⟨w.heap.size,cs.size,cs,rfl,hm,heap_alloc_new w _,Nat.le_refl _,h,by simp,?_⟩⟩;rw[Nat.mul_one];exact List.take_of_length_le (by simp)
section
variable {P:Program} {ops:Array Oper} {Q:Exit->Act->World->Prop} {md:Region.Mode}
theorem Bj {listed:Array Bool}(h:Region.ready md ops listed=[])(i:Nat)(o:Oper)(ho:ops[i]? = some o)(hd:o.after.all (fun e=>!Region.binds md e||listed.getD e.on false)=true):listed.getD i true=true:=by
 cases e:listed.getD i true with
 |true=>rfl
 |false=>
  exfalso;have hi:i<ops.size:=(Array.getElem?_eq_some_iff.1 ho).1
  have:i∈Region.ready md ops listed:=by
   unfold Region.ready;rw[List.mem_filter,List.mem_range];refine⟨hi,?_⟩;simp only[Bool.and_eq_true,Bool.not_eq_true'];refine⟨e,?_⟩;rw[ho];exact hd
  rw[h] at this;cases this
theorem AJ {listed:Array Bool}{i:Nat}(h:i∈Region.ready md ops listed)(k:Nat){o:Oper}(ho:ops[i]? = some o)(he:o.after.any (fun e=>e.on==k&&Region.binds md e)=true):listed.getD k false=true:=by
 have h1:=(AF h).2.2 o ho;rw[Array.any_eq_true'] at he;obtain⟨e,hm,he⟩:=he;rw[Array.all_eq_true'] at h1;have h2:=h1 e hm;rw[Bool.and_eq_true,beq_iff_eq] at he;rw[he.2,he.1] at h2
 simpa using h2
theorem Da {listed:Array Bool}(h:Region.ready md ops listed=[])(hs:listed.size=ops.size)(ha:(List.range ops.size).all (fun i=>match ops[i]? with|some o=>o.after.all (fun e=>decide (e.on<i))|none=>true)=true):∀i,i<ops.size->listed.getD i false=true:=by
 intro i
 induction i using Nat.strongRecOn with
 |ind i ih=>
  intro hi;have hi':=List.all_eq_true.1 ha i (List.mem_range.2 hi);rw[Array.getElem?_eq_getElem hi] at hi'
  have h1:=Bj h i ops[i] (Array.getElem?_eq_getElem hi) (by
   rw[Array.all_eq_true'];intro e he;have h2:=(Array.all_eq_true'.1 hi') e he;rw[decide_eq_true_eq] at h2;rw[ih e.on h2 (by omega)]
   simp)
  rw[Array.getD_eq_getD_getElem?,Array.getElem?_eq_getElem (by omega)] at h1 ⊢;exact h1
theorem AH {i:Nat}{o:Oper}{K:Act->World->Prop}{a:Act}{w:World}(ho:ops[i]? = some o)(hg:Region.wanted o (yielded ops a.tmps)=true)
  (h:∀K':Act->World->Prop,Shut (∀a w,K a w->K' a w)->Oper.wp P o a w K' Q):wpOp P ops Q i K a w:=wpOp_step ho (fun K' hK=>by rw[if_pos hg];exact h K' hK)
end
theorem LF {o:Oper}{a:Act}{w:World}{K:Act->World->Prop}{Q:Exit->Act->World->Prop}(x y:Operand)(ho:o.op = .makeSlice 28 x y)(n:Nat)(hx:a.eval x = .int .i64 (n:Int))(hy:a.eval y = .int .i64 (n:Int))(hn:n<=1048576)(m:Nat)(hm:m<=w.heap.size)
  (h:∀w',BO w' m (.slice (some ⟨w.heap.size,0,none⟩) n n) (List.replicate n 0)->AC w w'->K (a.put o.dst (.slice (some ⟨w.heap.size,0,none⟩) n n)) w'):o.wp Tryz.prog a w K Q:=by
 obtain⟨i0,hi,hz0,hz1,hz2⟩:=info_parts Tryz.GI;obtain⟨w',hrun,r1,r2⟩:=run_make_full (P:=Tryz.prog) w m 28 2 i0 (.int .i64 0) 1 Tryz.underlying28 hi hz0 hz1 .i64 .i64 n (by rw[hz2];omega) (by unfold maxLen;omega) hm;unfold Oper.wp;simp[execOp,ho,hx,hy,hrun,Result.andThen];refine h w' ?_ ((AC.refl w).grown r2 (by simp));unfold BO;rw[Nat.mul_one,show (Value.int .i64 0).cells=#[.int .i64 0] from rfl,toList_madeCells_one] at r1
 simpa using r1
theorem Fr {g n cap b:Nat}(h:(Value.slice (some ⟨g,0,none⟩) n cap).ownBlock=some b):g<=b:=Nat.le_of_eq (Option.some.inj h)
end
section
def CG (rows:List Nat)(cnt:Nat->Nat)(B:Nat->Bool)(j:Nat×Nat):Prop:=j.1∈rows/\B j.1=true/\j.2<cnt j.1
def Tk (R:Nat×Nat->Rw)(o:Nat)(r:Nat->Rw):Nat×Nat->Rw:=fun j=>if j.1=o then r j.2 else R j
theorem Eu {rows:List Nat}{cnt:Nat->Nat}{B:Nat->Bool}{i:Nat}{j:Nat×Nat}(h:CG rows cnt (AX B i) j):CG rows cnt B j\/j.1=i:=by
 obtain⟨h1,h2,h3⟩:=h;by_cases e:j.1=i
 . exact .inr e
 ·
  refine .inl ⟨h1,?_,h3⟩;unfold AX at h2;rw[if_neg e] at h2;exact h2
theorem DB {rows:List Nat}{cnt:Nat->Nat}{B:Nat->Bool}{i:Nat}{j:Nat×Nat}(hi:i∉rows)(h:CG rows cnt (AX B i) j):CG rows cnt B j:=by
 rcases Eu h with q|q
 . exact q
 . exact absurd h.1 (by rw[q];exact hi)
structure Js (w:World)(m:Nat)(live:Nat×Nat->Prop)(R:Nat×Nat->Rw)(wk:Bool)(vW:Value)(wv:List Value)(bs N:Nat)(AA:List (List Dd)):Prop where
 Ag:Fl w m live R
 work:wk=true->JP w bs N vW AA/\Dk w bs N vW wv AA/\N<=w.heap.size/\m<=bs
 out:wk=true->∀i,live i->∀k,(R i).v.ownBlock=some k->k<bs\/N<=k
section
variable {w w':World} {m:Nat} {rows:List Nat} {cnt:Nat->Nat} {B:Nat->Bool} {R:Nat×Nat->Rw} {wk:Bool} {vW:Value} {wv:List Value} {bs N:Nat} {AA:List (List Dd)}
theorem Js.start (w:World)(m:Nat)(rows:List Nat)(cnt:Nat->Nat)(R:Nat×Nat->Rw)(vW:Value)(wv:List Value)(bs N:Nat)(AA:List (List Dd)):Js w m (CG rows cnt (fun _=>false)) R false vW wv bs N AA:=
 ⟨⟨fun _ h=>(by cases h.2.1),fun _ _ h=>(by cases h.2.1)⟩,fun h=>(by cases h),fun h=>(by cases h)⟩
theorem Js.keep {live:Nat×Nat->Prop}(h:Js w m live R wk vW wv bs N AA)(k:AC w w'):Js w' m live R wk vW wv bs N AA:=
 ⟨h.Ag.keep k,fun e=>⟨(h.work e).1.kept k.grownBy (by simp),(h.work e).2.1.keep k,Nat.le_trans (h.work e).2.2.1 k.size,(h.work e).2.2.2⟩,h.out⟩
theorem Js.pass (h:Js w m (CG rows cnt B) R wk vW wv bs N AA){i:Nat}(hi:i∉rows):Js w m (CG rows cnt (AX B i)) R wk vW wv bs N AA:=
 ⟨h.Ag.congr (fun _ hj=>DB hi hj) (fun _ _=>rfl),h.work,fun e j hj=>h.out e j (DB hi hj)⟩
theorem Js.add (h:Js w m (CG rows cnt B) R wk vW wv bs N AA){i:Nat}(hi:B i=false){r:Nat->Rw}(k:AC w w')(ho:∀q,q<cnt i->(r q).own w' m)(ha:∀p q,p<cnt i->q<cnt i->p≠q->(r p).v.ownBlock=none\/(r p).v.ownBlock≠(r q).v.ownBlock)
  (hn:∀q,q<cnt i->∀b,(r q).v.ownBlock=some b->w.heap.size<=b):Js w' m (CG rows cnt (AX B i)) (Tk R i r) wk vW wv bs N AA:=by
 have hk:=h.keep k;have wT:∀j,CG rows cnt B j->j.1≠i:=fun j hj e=>by have q:=hj.2.1;rw[e,hi] at q;cases q
 have eo:∀j:Nat×Nat,j.1≠i->Tk R i r j=R j:=fun j hj=>if_neg hj
 have es:∀j:Nat×Nat,j.1=i->Tk R i r j=r j.2:=fun j hj=>if_pos hj
 have cs:∀j:Nat×Nat,j.1=i->CG rows cnt (AX B i) j->j.2<cnt i:=fun j e hj=>by have:=hj.2.2;rw[e] at this;exact this
 have old:∀j,CG rows cnt B j->∀q,q<cnt i->(R j).v.ownBlock=none\/(R j).v.ownBlock≠(r q).v.ownBlock:=fun j hj q hq=>by
  cases e:(R j).v.ownBlock with
  |none=>exact .inl rfl
  |some b=>exact .inr (fun e'=>by have:=(h.Ag.lt hj b e).2;have:=hn q hq b e'.symm;omega)
 refine⟨⟨fun j hj=>?_,fun j l hj hl hjl=>?_⟩,hk.work,fun e j hj b hb=>?_⟩
 ·
  rcases Eu hj with q|q
  . rw[eo j (wT j q)];exact hk.Ag.own j q
  . rw[es j q];exact ho _ (cs j q hj)
 ·
  rcases Eu hj with q|q
  ·
   rw[eo j (wT j q)];rcases Eu hl with p|p
   . rw[eo l (wT l p)];exact h.Ag.apart j l q p hjl
   . rw[es l p];exact old j q _ (cs l p hl)
  ·
   rw[es j q];rcases Eu hl with p|p
   ·
    rw[eo l (wT l p)];rcases old l p _ (cs j q hj) with x|x
    ·
     rw[x]
     cases (r j.2).v.ownBlock with
     |none=>exact .inl rfl
     |some b=>exact .inr (by simp)
    . exact .inr (fun e=>x e.symm)
   ·
    rw[es l p];refine ha _ _ (cs j q hj) (cs l p hl) (fun e=>hjl ?_);exact Prod.ext (q.trans p.symm) e
 ·
  rcases Eu hj with q|q
  . rw[eo j (wT j q)] at hb;exact h.out e j q b hb
  ·
   rw[es j q] at hb;have:=hn _ (cs j q hj) b hb;have:=(h.work e).2.2.1;right;omega
theorem Js.one (h:Js w m (CG rows cnt B) R wk vW wv bs N AA){i:Nat}(hi:B i=false)(hc:cnt i=1){r:Rw}(k:AC w w')(ho:r.own w' m)(hn:∀b,r.v.ownBlock=some b->w.heap.size<=b):Js w' m (CG rows cnt (AX B i)) (Tk R i (fun _=>r)) wk vW wv bs N AA:=
 h.add hi k (fun _ _=>ho) (fun p q hp hq hne=>absurd (by omega:p=q) hne) (fun _ _=>hn)
theorem Js.copied (h:Js w m (CG rows cnt B) R false vW wv bs N AA){i:Nat}(hi:i∉rows){v':Value}{V:Nat->Value}(k:AC w w')(hx:Di w' w.heap.size w'.heap.size v' V AA)(hm:m<=w.heap.size):Js w' m (CG rows cnt (AX B i)) R true v' ((List.range AA.length).map V) w.heap.size w'.heap.size AA:=
 ⟨(h.Ag.keep k).congr (fun _ hj=>DB hi hj) (fun _ _=>rfl),fun _=>⟨hx.rdX.upto,hx.nQ,Nat.le_refl _,hm⟩,fun _ _ hj b hb => .inl (h.Ag.lt (DB hi hj) b hb).2⟩
theorem Js.grow (h:Js w m (CG rows cnt B) R wk vW wv bs N AA){i o:Nat}(hi:i∉rows)(hc:cnt o=1)(hj:CG rows cnt B (o,0)){r:Rw}(hg:w.grownBy w' (R (o,0)).v.ownBlock)(hv:r.v.ownBlock=(R (o,0)).v.ownBlock\/r.v.ownBlock=some w.heap.size)(ho:r.own w' m):Js w' m (CG rows cnt (AX B i)) (Tk R o (fun _=>r)) wk vW wv bs N AA:=by
 have F:=h.Ag.set hj (r:=r) hg (by rcases hv with e|e;exact .inl e;exact .inr (.inl e)) ho
 have eq:∀j,CG rows cnt (AX B i) j->Tk R o (fun _=>r) j=IX R (o,0) r j:=fun j q=>by
  unfold Tk IX;by_cases e:j.1=o
  ·
   have h2:j.2=0:=by have:=q.2.2;rw[e,hc] at this;omega
   rw[if_pos e,if_pos (Prod.ext e h2)]
  . rw[if_neg e,if_neg (fun x=>e (by rw[x]))]
 refine⟨F.congr (fun _ q=>DB hi q) eq,fun e=>⟨(h.work e).1.kept hg (fun g e'=>h.out e _ hj g e'),(h.work e).2.1.kept hg (fun g e'=>h.out e _ hj g e'),Nat.le_trans (h.work e).2.2.1 hg.size,(h.work e).2.2.2⟩,fun e q hq b hb=>?_⟩;rw[eq q hq] at hb;by_cases eq':q=(o,0)
 ·
  subst eq';rw[Am] at hb;rcases hv with e1|e1
  . rw[e1] at hb;exact h.out e _ hj b hb
  ·
   rw[e1] at hb;have:=Option.some.inj hb;have:=(h.work e).2.2.1;right;omega
 ·
  rw[AR _ _ eq'] at hb;exact h.out e q (DB hi hq) b hb
theorem Js.far (h:Js w m (CG rows cnt B) R wk vW wv bs N AA){i:Nat}(hi:i∉rows){g:Nat}(hg:w.grownBy w' (some g))(hl:g<m):Js w' m (CG rows cnt (AX B i)) R wk vW wv bs N AA:=
  ⟨(h.Ag.far hg (fun j hj=>by
    cases e:(R j).v.ownBlock with
    |none=>exact .inl rfl
    |some k=>exact .inr (fun e'=>by have:=(h.Ag.lt hj k e).1;have:=Option.some.inj e';omega))).congr (fun _ q=>DB hi q) (fun _ _=>rfl),
   fun e=>⟨(h.work e).1.kept hg (fun q e'=>by have:=Option.some.inj e';have:=(h.work e).2.2.2;omega),(h.work e).2.1.kept hg (fun q e'=>by have:=Option.some.inj e';have:=(h.work e).2.2.2;omega),Nat.le_trans (h.work e).2.2.1 hg.size,(h.work e).2.2.2⟩,fun e j hj=>h.out e j (DB hi hj)⟩
theorem Js.mM (h:Js w m (CG rows cnt B) R wk vW wv bs N AA){α:Type}{t:TypeId}{rowOf:List α->Value->Rw}{i:Nat}(hi:B i=false){v:Value}{hs:List Value}{xss:List (List α)}(hc:cnt i=xss.length+1)(k:AC w w')(hm:m<=w.heap.size)(o:C4 t rowOf w' w.heap.size v hs xss):
  Js w' m (CG rows cnt (AX B i)) (Tk R i (fun q=>LI t rowOf v hs xss (match q with|0=>none|q+1=>some q))) wk vW wv bs N AA:=by
 have lv:∀q,q<cnt i->ED hs.length (match q with|0=>none|q+1=>some q):=fun q hq=>by
  cases q with
  |zero=>trivial
  |succ q=>show q<hs.length;rw[o.len];omega
 refine h.add hi k (fun q hq=>DR (o.Ag.own _ (lv q hq)) hm) (fun p q hp hq hne=>o.Ag.apart _ _ (lv p hp) (lv q hq) (fun e=>hne ?_)) (fun q hq b hb=>(o.Ag.lt (lv q hq) b hb).1);cases p<;>cases q<;>simp_all
end
end
end Go.Proofs.YtnmelakgmgenjaaGreat
