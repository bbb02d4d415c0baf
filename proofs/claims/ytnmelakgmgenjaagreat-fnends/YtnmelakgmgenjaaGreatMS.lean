/- Gathered texts. -/
import Derived.Test.YtnmelakgmgenjaaGreatMR
import Derived.Maps.AppendAt
import Derived.Deep.CutRange
import Derived.Lib.Hide
import Derived.Laws.Rows
import Derived.Deep.Cut
import Derived.RegionTactic
import Derived.Defers
import Derived.Recover
import Derived.Test.YtnmelakgmgenjaaGreatMK
set_option maxRecDepth 100000
set_option maxHeartbeats 8000000
namespace Go.Proofs.YtnmelakgmgenjaaGreat
open Go.ChangeShapes Go.WideShapes Go.ChangeAt Go.RowKit
theorem UP {AA:List (List Dd)}(h:AQ AA=true):1<=AA.length/\AA.length<=3/\∀i,i<AA.length->GI (AA.getD i [])=true:=by
 simp only[AQ,Bool.and_eq_true,decide_eq_true_eq] at h;obtain⟨⟨⟨⟨h1,h2⟩,_⟩,_⟩,_⟩:=h;exact⟨h1.1,h1.2,fun i hi=>Bo [] h2 i hi⟩
abbrev cO (v:Value)(t:Int):Obj:= .cells #[v,.int .i64 t] 155
abbrev dO (k p v g:Int):Obj:= .cells #[.int .i64 k,.int .i64 p,.int .i64 v,.int .i64 g] 65
theorem EG (w:World)(v:Value)(AA:List (List Dd))(h:JJ w v AA)(hx:AA.length<=1048576)(hm:∀i,i<AA.length->(AA.getD i []).length<=1048576):
  Calls Tryz.prog 116 #[v] w fun e w'=>∃v',e = .returned v'/\JD w' w.heap.size v' (AB AA)/\AC w w':=by
 cases hb:AQ AA
 ·
  have HE:Hid (AB AA=[]):=Lib.hid (by rw[AB,hb];rfl);have O:∀w1:World,AC w w1->JD (w1.alloc (.cells #[] 128)) w.heap.size (.slice (some ⟨w1.heap.size,0,none⟩) 0 0) []:=fun w1 k1=>World.ownsRow_lit w1 #[] 0 k1.size (by decide) (by simp)
  go_enter Tryz.func116,Tryz.ntmps116
  go_wp2_with fail
  refine (C7 _ _ _ h hx hm).mono ?_;rintro e w1 ⟨rfl,k1⟩;go_wp2;go_ret;exact⟨_,rfl,by rw[HE.out];exact O w1 k1,k1.alloc _⟩
 ·
  obtain⟨h1,h3,u2⟩:=UP hb;have HE:Hid (AB AA=Ta AA AA.length):=Lib.hid (by rw[AB,if_pos hb,(Op hb AA.length (Nat.le_refl _)).1]);obtain⟨j0,hj,hy0,hy1,hy2⟩:=info_parts Tryz.ZF;go_enter Tryz.func116,Tryz.ntmps116
  go_wp2_with fail
  refine (C7 _ _ _ h hx hm).mono ?_;rintro e w0 ⟨rfl,k0⟩;go_wp2_with fail
  refine (Hv _).mono ?_;rintro e w1 ⟨x1,rfl,a1,k1⟩;go_wp2_with fail
  refine (Rf w _ (k0.trans k1) _ _ h h1 h3 hm).mono ?_;rintro e w2 ⟨v2,rfl,rc,k2⟩;have K01:AC w0 w2:=k1.trans k2;have hsz0:=k0.size;clear hb h hm hx;obtain⟨b,c1,V,rfl,hbl,hbu,hc⟩:=rc;have HR:∀i,i<AA.length->MC w (V i) (AA.getD i []):=fun i hi=>(hc i hi).1
  obtain⟨ob,zG⟩:∃ob,w2.heap[b]? = some ob:=⟨_,Array.getElem?_eq_getElem hbu⟩
  have HC:∀wq:World,wq.heap[b]? = some ob->∀i,i<AA.length->wq.cell? ⟨b,i*2,none⟩=some (V i)/\wq.cell? ⟨b,i*2+1,none⟩=some (.int .i64 (Gd AA i)):=fun wq hq i hi=>by
   have e:wq.heap[b]? = w2.heap[b]?:=hq.trans zG.symm;have f:∀j,wq.cell? ⟨b,j,none⟩=w2.cell? ⟨b,j,none⟩:=fun j=>by simp only[World.cell?,e]
   exact⟨(f _).trans (hc i hi).2.1,(f _).trans (hc i hi).2.2⟩
  clear hc;have L0:LP w0 w2 x1 CZ [(b,ob)]:=LP.add ⟨a1.keep k2,K01,by simp⟩ b ob (fun e=>by have:=(a1.lt _ e).2;omega) zG;clear a1 zG hbl;go_wp2;go_loopw [3,20] (fun x i wr=>∃k:Nat,∃es:List Ev,k<=AA.length/\i = .int .i64 k/\Hid (es=Ta AA k)/\1<=es.length/\es.length<=3+10*k/\LP w0 wr x es [(b,ob)]) (fun _ i _=>AA.length-(intOf i).toNat)
  case atStart=>exact⟨0,CZ,Nat.zero_le _,rfl,Lib.hid rfl,by decide,by decide,L0⟩
  case round=>
   clear L0 K01 k2 hbu;obtain⟨k,es,hk,rfl,hE,he1,hel,hL⟩:=hrel;by_cases hlt:k<AA.length
   ·
    have r1:=HR k hlt;have hKw:AC w wr:=k0.trans hL.keep;obtain⟨d1,d2⟩:=HC wr (hL.held b ob (by simp)).2 k hlt;have hbw:=hL.lt (n:=b) (o:=ob) (by simp);have MS:=u2 k hlt;have HV:Hid (Ta AA (k+1)=Kv k (AA.getD k []) es (AA.getD k []).length):=Lib.hid (by rw[Ta,hE.out]);obtain⟨ds,hds⟩:∃ds,ds=AA.getD k []:=⟨_,rfl⟩;rw[<-hds] at r1 MS HV;clear hds;generalize Gd AA k=t at d2;obtain⟨u,hu⟩:∃u,u=V k:=⟨_,rfl⟩;rw[<-hu] at d1 r1;clear hu;have R1:=r1;obtain⟨ai,ci,rfl,r1⟩:=r1;have hl5:ds.length<=5:=by simp[GI] at MS;omega
    have i1:(0:Int)<=(k:Int):=Int.natCast_nonneg _;have i2:(k:Int)<(AA.length:Int):=by omega
    obtain⟨wo,hwo⟩:∃wo:World,wo=wr:=⟨_,rfl⟩;subst hwo;have L1:=hL.new (cO (.slice ai ds.length (ds.length+ci)) t);go_wp2;go_loopw [3,28] (fun x i wq=>∃q:Nat,∃evs:List Ev,q<=ds.length/\i = .int .i64 q/\Hid (evs=Kv k ds es q)/\1<=evs.length/\evs.length<=3+10*k+2*q/\LP w0 wq x evs [(wo.heap.size,cO (.slice ai ds.length (ds.length+ci)) t),(b,ob)]) (fun _ i _=>ds.length-(intOf i).toNat)
    case atStart=>exact⟨0,es,Nat.zero_le _,rfl,Lib.hid rfl,he1,by omega,L1⟩
    case round=>
     clear L1 d1 d2;obtain⟨q,evs,hq,rfl,hC,hv1,hev,hI⟩:=hrel;by_cases hlq:q<ds.length
     ·
      have yt:AC w wr:=k0.trans hI.keep;have R2:=R1.keep yt;rcases r1 with h|⟨b2,o2,rfl,hb2,hc2⟩
      . exfalso;rw[h] at hlq;simp at hlq
      have AT:=(hc2 q hlq).keep hb2 yt
      have VD:Fm (ds.getD q zD)=true:=by
       simp only[GI,Bool.and_eq_true] at MS;exact Bo zD MS.1 q hlq
      clear hc2 MS;have hb3:b2<wr.heap.size:=Nat.lt_of_lt_of_le hb2 yt.size;have HST:Hid (Kv k ds es (q+1)=evs++Cs k q (ds.getD q zD) (Ns evs (Gq ds q))):=Lib.hid (by rw[Kv,hC.out]);clear hC;obtain⟨d,hd⟩:∃d,d=ds.getD q zD:=⟨_,rfl⟩;rw[<-hd] at AT VD HST;clear hd;have KD:=CM VD;obtain⟨x0,x1,x2,x3⟩:=d;obtain⟨A0,A1,A2,A3⟩:=AT;simp only at A0 A1 A2 A3 KD;have j1:(0:Int)<=(q:Int):=Int.natCast_nonneg _;have j2:(q:Int)<(ds.length:Int):=by omega
      have z5:=hI.lt (n:=wo.heap.size) (o:=cO (.slice (some ⟨b2,o2,none⟩) ds.length (ds.length+ci)) t) (by simp);have c5:wr.cell? ⟨wo.heap.size,0,none⟩=some (.slice (some ⟨b2,o2,none⟩) ds.length (ds.length+ci)):=(hI.held wo.heap.size (cO (.slice (some ⟨b2,o2,none⟩) ds.length (ds.length+ci)) t) (by simp)) |>.2 |> fun h=>cell_of_row wr _ 0 _ _ (0,0) h
      clear VD;rcases KD with rfl|rfl|rfl|rfl
      ·
       have HS:Hid (Kv k ds es (q+1)=evs++Cs k q (1,x1,x2,x3) (Ns evs (Gq ds q))):=HST;clear HST;have L2:=hI.new (dO 1 x1 x2 x3);have K2:AC wr (wr.alloc (dO 1 x1 x2 x3)):=(AC.refl wr).alloc _;have R3:=R2.keep K2;go_wp2_with fail
       refine (Gr _ _ _ R3 q hlq (by omega)).mono ?_;rintro e w3 ⟨rfl,k3⟩;have L3:=L2.more k3;go_wp2_with fail
       refine (ER _ _ _ L3.app.rd (by omega) hv1 _).mono ?_;generalize Gq ds q=go at HS;generalize hcl:Ns evs go=cl at HS;clear hcl;rintro e w4 ⟨rfl,k4⟩;have L4:=L3.more k4;have z7:=L4.lt (n:=wr.heap.size) (o:=dO 1 x1 x2 x3) (by simp);have s0:w4.cell? ⟨wr.heap.size,0,none⟩=some (.int .i64 1):=L4.cell (n:=wr.heap.size) (cs:=#[.int .i64 1,.int .i64 x1,.int .i64 x2,.int .i64 x3]) (t:=65) (by simp) 0;have s1:w4.cell? ⟨wr.heap.size,1,none⟩=some (.int .i64 x1):=L4.cell (n:=wr.heap.size) (cs:=#[.int .i64 1,.int .i64 x1,.int .i64 x2,.int .i64 x3]) (t:=65) (by simp) 1;have s2:w4.cell? ⟨wr.heap.size,2,none⟩=some (.int .i64 x2):=L4.cell (n:=wr.heap.size) (cs:=#[.int .i64 1,.int .i64 x1,.int .i64 x2,.int .i64 x3]) (t:=65) (by simp) 2;have s3:w4.cell? ⟨wr.heap.size,3,none⟩=some (.int .i64 x3):=L4.cell (n:=wr.heap.size) (cs:=#[.int .i64 1,.int .i64 x1,.int .i64 x2,.int .i64 x3]) (t:=65) (by simp) 3;clear A0 A1 A2 A3 c5 L2 L3 R3 K2;go_wp2_with fail
       refine (Wy _ _ _ _).mono ?_;rintro e w5 ⟨B,rfl,hB,hBl,k5⟩;have L5:=L4.later k5 hBl hB;clear L4 s0 s1 s2 s3 z7 hI;have z8:=L5.lt (n:=B) (o:= .cells #[Wq x1] 167) (by simp);have c6:w5.cell? ⟨B,0,none⟩=some (Wq x1):=L5.cell (n:=B) (cs:=#[Wq x1]) (t:=167) (by simp) 0;go_wp2;refine wp_loop_rounds 2 ?_;rw[rounds_succ];go_wp2_with fail
       refine (Mp _ _).mono ?_;rintro e wa0 ⟨rfl,ka0⟩;have X7:=L5.more ka0;have X8:=(X7.more ((AC.refl wa0).alloc (eO k q true x1 0 cl))).more ((AC.refl _).alloc (eO k q true x1 0 cl));have hs0:w0.heap.size<=wa0.heap.size:=X7.keep.size;go_wp2_with (at_builtin;refine wpList_append_own_at _ rfl _ _ 98 rfl w0.heap.size 128 j0 (.agg #[.int .i64 0,.int .i64 0,.bool false,.int .i64 0,.int .i64 0,.int .i64 0]) 6 48 Tryz.underlying98 hj hy0 hy1 hy2 rfl (by decide) _ _ _ rfl X8.app ⟨_,0,none⟩ 1 1 (cE ((k:Int),(q:Int),true,x1,0,cl)) rfl rfl ?YT ?YU ?YV ?YW ?YX ?_)
       case YT=>exact Jx _ _ (AD _ _) _ _ _ _ _ _
       case YU=>exact Jy _
       case YV=>unfold maxLen;first|omega|(simp;omega)
       case YW=>first|omega|(simp;omega)
       case YX=>first|omega|(simp;omega)
       intro v0' wb0 hown' hgrow _ hblk;have dK:=X8.hit _ hown' hgrow (by rw[AD,AD];exact hblk);clear hgrow hown' hblk X8 X7 L5;go_wp2;rw[rounds_succ];go_wp2;go_roundw;case rel=>exact⟨q+1,_,by omega,by go_num,Lib.hid (by rw[HS.out];simp[Cs]),by first|omega|(simp<;>omega),by first|omega|(simp<;>omega),dK.less (fun y hy=>by simp only[List.mem_cons,List.not_mem_nil,or_false] at hy ⊢;rcases hy with rfl|rfl<;>simp)⟩
       case measure=>simp[intOf];omega
      ·
       have HS:Hid (Kv k ds es (q+1)=evs++Cs k q (2,x1,x2,x3) (Ns evs (Gq ds q))):=HST;clear HST;have L2:=hI.new (dO 2 x1 x2 x3);have K2:AC wr (wr.alloc (dO 2 x1 x2 x3)):=(AC.refl wr).alloc _;have R3:=R2.keep K2;go_wp2_with fail
       refine (Gr _ _ _ R3 q hlq (by omega)).mono ?_;rintro e w3 ⟨rfl,k3⟩;have L3:=L2.more k3;go_wp2_with fail
       refine (ER _ _ _ L3.app.rd (by omega) hv1 _).mono ?_;generalize Gq ds q=go at HS;generalize hcl:Ns evs go=cl at HS;clear hcl;rintro e w4 ⟨rfl,k4⟩;have L4:=L3.more k4;have z7:=L4.lt (n:=wr.heap.size) (o:=dO 2 x1 x2 x3) (by simp);have s0:w4.cell? ⟨wr.heap.size,0,none⟩=some (.int .i64 2):=L4.cell (n:=wr.heap.size) (cs:=#[.int .i64 2,.int .i64 x1,.int .i64 x2,.int .i64 x3]) (t:=65) (by simp) 0;have s1:w4.cell? ⟨wr.heap.size,1,none⟩=some (.int .i64 x1):=L4.cell (n:=wr.heap.size) (cs:=#[.int .i64 2,.int .i64 x1,.int .i64 x2,.int .i64 x3]) (t:=65) (by simp) 1;have s2:w4.cell? ⟨wr.heap.size,2,none⟩=some (.int .i64 x2):=L4.cell (n:=wr.heap.size) (cs:=#[.int .i64 2,.int .i64 x1,.int .i64 x2,.int .i64 x3]) (t:=65) (by simp) 2;have s3:w4.cell? ⟨wr.heap.size,3,none⟩=some (.int .i64 x3):=L4.cell (n:=wr.heap.size) (cs:=#[.int .i64 2,.int .i64 x1,.int .i64 x2,.int .i64 x3]) (t:=65) (by simp) 3;clear A0 A1 A2 A3 c5 L2 L3 R3 K2;go_wp2_with fail
       refine (W6 _ _ _ _).mono ?_;rintro e w5 ⟨B,rfl,hB,hBl,k5⟩;have L5:=L4.later k5 hBl hB;clear L4 s0 s1 s2 s3 z7 hI;have z8:=L5.lt (n:=B) (o:= .cells #[UQ x1 x2] 167) (by simp);have c6:w5.cell? ⟨B,0,none⟩=some (UQ x1 x2):=L5.cell (n:=B) (cs:=#[UQ x1 x2]) (t:=167) (by simp) 0;go_wp2;refine wp_loop_rounds 2 ?_;rw[rounds_succ];go_wp2_with fail
       refine (JY _ _ _).mono ?_;rintro e wa0 ⟨rfl,ka0⟩;have X7:=L5.more ka0;have X8:=(X7.more ((AC.refl wa0).alloc (eO k q false x1 x2 cl))).more ((AC.refl _).alloc (eO k q false x1 x2 cl));have hs0:w0.heap.size<=wa0.heap.size:=X7.keep.size;go_wp2_with (at_builtin;refine wpList_append_own_at _ rfl _ _ 98 rfl w0.heap.size 128 j0 (.agg #[.int .i64 0,.int .i64 0,.bool false,.int .i64 0,.int .i64 0,.int .i64 0]) 6 48 Tryz.underlying98 hj hy0 hy1 hy2 rfl (by decide) _ _ _ rfl X8.app ⟨_,0,none⟩ 1 1 (cE ((k:Int),(q:Int),false,x1,x2,cl)) rfl rfl ?YT ?YU ?YV ?YW ?YX ?_)
       case YT=>exact Jx _ _ (AD _ _) _ _ _ _ _ _
       case YU=>exact Jy _
       case YV=>unfold maxLen;first|omega|(simp;omega)
       case YW=>first|omega|(simp;omega)
       case YX=>first|omega|(simp;omega)
       intro v0' wb0 hown' hgrow _ hblk;have dK:=X8.hit _ hown' hgrow (by rw[AD,AD];exact hblk);clear hgrow hown' hblk X8 X7 L5;go_wp2;rw[rounds_succ];go_wp2;go_roundw;case rel=>exact⟨q+1,_,by omega,by go_num,Lib.hid (by rw[HS.out];simp[Cs]),by first|omega|(simp<;>omega),by first|omega|(simp<;>omega),dK.less (fun y hy=>by simp only[List.mem_cons,List.not_mem_nil,or_false] at hy ⊢;rcases hy with rfl|rfl<;>simp)⟩
       case measure=>simp[intOf];omega
      ·
       have HS:Hid (Kv k ds es (q+1)=evs++Cs k q (3,x1,x2,x3) (Ns evs (Gq ds q))):=HST;clear HST;have L2:=hI.new (dO 3 x1 x2 x3);have K2:AC wr (wr.alloc (dO 3 x1 x2 x3)):=(AC.refl wr).alloc _;have R3:=R2.keep K2;go_wp2_with fail
       refine (Gr _ _ _ R3 q hlq (by omega)).mono ?_;rintro e w3 ⟨rfl,k3⟩;have L3:=L2.more k3;go_wp2_with fail
       refine (ER _ _ _ L3.app.rd (by omega) hv1 _).mono ?_;generalize Gq ds q=go at HS;generalize hcl:Ns evs go=cl at HS;clear hcl;rintro e w4 ⟨rfl,k4⟩;have L4:=L3.more k4;have z7:=L4.lt (n:=wr.heap.size) (o:=dO 3 x1 x2 x3) (by simp);have s0:w4.cell? ⟨wr.heap.size,0,none⟩=some (.int .i64 3):=L4.cell (n:=wr.heap.size) (cs:=#[.int .i64 3,.int .i64 x1,.int .i64 x2,.int .i64 x3]) (t:=65) (by simp) 0;have s1:w4.cell? ⟨wr.heap.size,1,none⟩=some (.int .i64 x1):=L4.cell (n:=wr.heap.size) (cs:=#[.int .i64 3,.int .i64 x1,.int .i64 x2,.int .i64 x3]) (t:=65) (by simp) 1;have s2:w4.cell? ⟨wr.heap.size,2,none⟩=some (.int .i64 x2):=L4.cell (n:=wr.heap.size) (cs:=#[.int .i64 3,.int .i64 x1,.int .i64 x2,.int .i64 x3]) (t:=65) (by simp) 2;have s3:w4.cell? ⟨wr.heap.size,3,none⟩=some (.int .i64 x3):=L4.cell (n:=wr.heap.size) (cs:=#[.int .i64 3,.int .i64 x1,.int .i64 x2,.int .i64 x3]) (t:=65) (by simp) 3;clear A0 A1 A2 A3 c5 L2 L3 R3 K2;go_wp2_with fail
       refine (Wz _ _ _ _).mono ?_;rintro e w5 ⟨B,rfl,hB,hBl,k5⟩;have L5:=L4.later k5 hBl hB;clear L4 s0 s1 s2 s3 z7 hI;have z8:=L5.lt (n:=B) (o:= .cells #[Wq x1,UQ x1 x2] 167) (by simp);have c6:w5.cell? ⟨B,0,none⟩=some (Wq x1):=L5.cell (n:=B) (cs:=#[Wq x1,UQ x1 x2]) (t:=167) (by simp) 0;have c7:w5.cell? ⟨B,1,none⟩=some (UQ x1 x2):=L5.cell (n:=B) (cs:=#[Wq x1,UQ x1 x2]) (t:=167) (by simp) 1;go_wp2;refine wp_loop_rounds 3 ?_;rw[rounds_succ];go_wp2_with fail
       refine (Mp _ _).mono ?_;rintro e wa0 ⟨rfl,ka0⟩;have X7:=L5.more ka0;have X8:=(X7.more ((AC.refl wa0).alloc (eO k q true x1 0 cl))).more ((AC.refl _).alloc (eO k q true x1 0 cl));have hs0:w0.heap.size<=wa0.heap.size:=X7.keep.size;go_wp2_with (at_builtin;refine wpList_append_own_at _ rfl _ _ 98 rfl w0.heap.size 128 j0 (.agg #[.int .i64 0,.int .i64 0,.bool false,.int .i64 0,.int .i64 0,.int .i64 0]) 6 48 Tryz.underlying98 hj hy0 hy1 hy2 rfl (by decide) _ _ _ rfl X8.app ⟨_,0,none⟩ 1 1 (cE ((k:Int),(q:Int),true,x1,0,cl)) rfl rfl ?YT ?YU ?YV ?YW ?YX ?_)
       case YT=>exact Jx _ _ (AD _ _) _ _ _ _ _ _
       case YU=>exact Jy _
       case YV=>unfold maxLen;first|omega|(simp;omega)
       case YW=>first|omega|(simp;omega)
       case YX=>first|omega|(simp;omega)
       intro v0' wb0 hown' hgrow _ hblk;have dK:=X8.hit _ hown' hgrow (by rw[AD,AD];exact hblk);clear hgrow hown' hblk X8 X7 L5;obtain⟨ev1,hev1⟩:∃ev1,ev1=evs++[((k:Int),(q:Int),true,x1,0,cl)]:=⟨_,rfl⟩;rw[<-hev1] at dK;have HV1:=Lib.hid hev1;have hl1:ev1.length<=evs.length+1:=by rw[hev1];simp
       clear hev1;clear c6 c7 z8;have z8:=dK.lt (n:=B) (o:= .cells #[Wq x1,UQ x1 x2] 167) (by simp);have c7:wb0.cell? ⟨B,1,none⟩=some (UQ x1 x2):=dK.cell (n:=B) (cs:=#[Wq x1,UQ x1 x2]) (t:=167) (by simp) 1;go_wp2;rw[rounds_succ];go_wp2_with fail
       refine (JY _ _ _).mono ?_;rintro e wa1 ⟨rfl,ka1⟩;have wh:=dK.more ka1;have wm:=(wh.more ((AC.refl wa1).alloc (eO k q false x1 x2 cl))).more ((AC.refl _).alloc (eO k q false x1 x2 cl));have hs1:w0.heap.size<=wa1.heap.size:=wh.keep.size;go_wp2_with (at_builtin;refine wpList_append_own_at _ rfl _ _ 98 rfl w0.heap.size 128 j0 (.agg #[.int .i64 0,.int .i64 0,.bool false,.int .i64 0,.int .i64 0,.int .i64 0]) 6 48 Tryz.underlying98 hj hy0 hy1 hy2 rfl (by decide) _ _ _ rfl wm.app ⟨_,0,none⟩ 1 1 (cE ((k:Int),(q:Int),false,x1,x2,cl)) rfl rfl ?yB ?yC ?yD ?yE ?yG ?_)
       case yB=>exact Jx _ _ (AD _ _) _ _ _ _ _ _
       case yC=>exact Jy _
       case yD=>unfold maxLen;first|omega|(simp;omega)
       case yE=>first|omega|(simp;omega)
       case yG=>first|omega|(simp;omega)
       intro v1' wb1 hown' hgrow _ hblk;have Lc1:=wm.hit _ hown' hgrow (by rw[AD,AD];exact hblk);clear hgrow hown' hblk wm wh dK;go_wp2;rw[rounds_succ];go_wp2;go_roundw;case rel=>exact⟨q+1,_,by omega,by go_num,Lib.hid (by rw[HS.out,HV1.out];simp[Cs]),by first|omega|(simp<;>omega),by first|omega|(simp<;>omega),Lc1.less (fun y hy=>by simp only[List.mem_cons,List.not_mem_nil,or_false] at hy ⊢;rcases hy with rfl|rfl<;>simp)⟩
       case measure=>simp[intOf];omega
      ·
       have HS:Hid (Kv k ds es (q+1)=evs++Cs k q (4,x1,x2,x3) (Ns evs (Gq ds q))):=HST;clear HST;have L2:=hI.new (dO 4 x1 x2 x3);have K2:AC wr (wr.alloc (dO 4 x1 x2 x3)):=(AC.refl wr).alloc _;have R3:=R2.keep K2;go_wp2_with fail
       refine (Gr _ _ _ R3 q hlq (by omega)).mono ?_;rintro e w3 ⟨rfl,k3⟩;have L3:=L2.more k3;go_wp2_with fail
       refine (ER _ _ _ L3.app.rd (by omega) hv1 _).mono ?_;generalize Gq ds q=go at HS;generalize hcl:Ns evs go=cl at HS;clear hcl;rintro e w4 ⟨rfl,k4⟩;have L4:=L3.more k4;have z7:=L4.lt (n:=wr.heap.size) (o:=dO 4 x1 x2 x3) (by simp);have s0:w4.cell? ⟨wr.heap.size,0,none⟩=some (.int .i64 4):=L4.cell (n:=wr.heap.size) (cs:=#[.int .i64 4,.int .i64 x1,.int .i64 x2,.int .i64 x3]) (t:=65) (by simp) 0;have s1:w4.cell? ⟨wr.heap.size,1,none⟩=some (.int .i64 x1):=L4.cell (n:=wr.heap.size) (cs:=#[.int .i64 4,.int .i64 x1,.int .i64 x2,.int .i64 x3]) (t:=65) (by simp) 1;have s2:w4.cell? ⟨wr.heap.size,2,none⟩=some (.int .i64 x2):=L4.cell (n:=wr.heap.size) (cs:=#[.int .i64 4,.int .i64 x1,.int .i64 x2,.int .i64 x3]) (t:=65) (by simp) 2;have s3:w4.cell? ⟨wr.heap.size,3,none⟩=some (.int .i64 x3):=L4.cell (n:=wr.heap.size) (cs:=#[.int .i64 4,.int .i64 x1,.int .i64 x2,.int .i64 x3]) (t:=65) (by simp) 3;clear A0 A1 A2 A3 c5 L2 L3 R3 K2;go_wp2_with fail
       refine (W4 _ _ _ _).mono ?_;rintro e w5 ⟨B,rfl,hB,hBl,k5⟩;have L5:=L4.later k5 hBl hB;clear L4 s0 s1 s2 s3 z7 hI;have z8:=L5.lt (n:=B) (o:= .cells #[] 167) (by simp);go_wp2;refine wp_loop_rounds 1 ?_;rw[rounds_succ];go_wp2;go_roundw;case rel=>exact⟨q+1,_,by omega,by go_num,Lib.hid (by rw[HS.out];simp[Cs]),by first|omega|(simp<;>omega),by first|omega|(simp<;>omega),L5.less (fun y hy=>by simp only[List.mem_cons,List.not_mem_nil,or_false] at hy ⊢;rcases hy with rfl|rfl<;>simp)⟩
       case measure=>simp[intOf];omega
     ·
      obtain rfl:q=ds.length:=by omega
      go_wp2;go_roundw;case rel=>exact⟨k+1,evs,by omega,by go_num,Lib.hid (by rw[HV.out];exact hC.out),hv1,by omega,hI.less (fun y hy=>by simp only[List.mem_cons,List.not_mem_nil,or_false] at hy ⊢;subst hy;simp)⟩
      case measure=>simp[intOf];omega
   ·
    obtain rfl:k=AA.length:=by omega
    go_wp2;go_ret;exact⟨_,rfl,by rw[HE.out,<-hE.out];exact YK hL.app hsz0,k0.trans hL.keep⟩
theorem OC (w:World)(v:BV)(AA:List (List Dd))(b:Bd)(last:Int)(h:CV w v AA b)(hz:Gi AA b):
  Calls Tryz.prog 117 #[v.agg,.int .i64 last] w fun e w'=>e=KX (Et last b)/\AC w w':=by
 obtain⟨aW,aP,aL,aN,aX,aS,aF,aR,cW,cP,cL,cN,cX,cS,cF,cR,rfl⟩:=h.shapes;have CP:=fun (W:World) (kW:AC w W)=>Dt W _ b.AM 3 0 9 (h.P.keep kW) hz.AM
 have CL:=fun (W:World) (kW:AC w W)=>Dt W _ b.AO 3 0 last (h.L.keep kW) hz.AO
 have HD:Hid (Et last b=(FZ b.AM 3 0 9&&(FZ b.AO 3 0 last&&(decide (b.rws.length=3)&&b.rws.all (JF last))))):=Lib.hid rfl;have HR:=Lib.hid h.R;have HZ:=Lib.hid hz.r2;have hz1:=hz.r1;have c1:(w.alloc (.cells #[.slice aW AA.length cW,.slice aP b.AM.length cP,.slice aL b.AO.length cL,.slice aN b.AG.length cN,.slice aX b.AL.length cX,.slice aS b.sn.length cS,.slice aF b.fr.length cF,.slice aR b.rws.length cR] 36)).cell? ⟨w.heap.size,1,none⟩=some (.slice aP b.AM.length cP):=AU (AC.refl _) 1;have c2:(w.alloc (.cells #[.slice aW AA.length cW,.slice aP b.AM.length cP,.slice aL b.AO.length cL,.slice aN b.AG.length cN,.slice aX b.AL.length cX,.slice aS b.sn.length cS,.slice aF b.fr.length cF,.slice aR b.rws.length cR] 36)).cell? ⟨w.heap.size,2,none⟩=some (.slice aL b.AO.length cL):=AU (AC.refl _) 2;have c7:(w.alloc (.cells #[.slice aW AA.length cW,.slice aP b.AM.length cP,.slice aL b.AO.length cL,.slice aN b.AG.length cN,.slice aX b.AL.length cX,.slice aS b.sn.length cS,.slice aF b.fr.length cF,.slice aR b.rws.length cR] 36)).cell? ⟨w.heap.size,7,none⟩=some (.slice aR b.rws.length cR):=AU (AC.refl _) 7;have KW:AC w (w.alloc (.cells #[.slice aW AA.length cW,.slice aP b.AM.length cP,.slice aL b.AO.length cL,.slice aN b.AG.length cN,.slice aX b.AL.length cX,.slice aS b.sn.length cS,.slice aF b.fr.length cF,.slice aR b.rws.length cR] 36)):=(AC.refl w).alloc _;clear h hz;go_enter Tryz.func117,Tryz.ntmps117
 go_upto_region 1 with fail
 generalize (w.alloc (.cells #[.slice aW AA.length cW,.slice aP b.AM.length cP,.slice aL b.AO.length cL,.slice aN b.AG.length cN,.slice aX b.AL.length cX,.slice aS b.sn.length cS,.slice aF b.fr.length cF,.slice aR b.rws.length cR] 36))=w1 at *;go_wp2_with fail
 refine (CP _ KW).mono ?_;rintro e w2 ⟨rfl,rfl⟩;cases hp:FZ b.AM 3 0 9
 ·
  have HE:Hid (Et last b=false):=Lib.hid (by rw[HD.out,hp];rfl);rw[Ag rfl];go_wp2;exact⟨rfl,by rw[Ag HE.out],KW⟩
 rw[Aw rfl];go_wp2_with fail
 refine (CL _ KW).mono ?_;rintro e w2 ⟨rfl,rfl⟩;cases hl:FZ b.AO 3 0 last
 ·
  have HE:Hid (Et last b=false):=Lib.hid (by rw[HD.out,hl];simp);rw[Ag rfl];go_wp2;exact⟨rfl,by rw[Ag HE.out],KW⟩
 rw[Aw rfl];go_wp2_with fail
 refine (Du _ _).mono ?_;rintro e w2 ⟨rfl,rfl⟩;by_cases hr:b.rws.length=3;rotate_left
 ·
  have HE:Hid (Et last b=false):=Lib.hid (by rw[HD.out,decide_eq_false hr];simp);rw[Ag (by simp;omega)];go_wp2;exact⟨rfl,by rw[Ag HE.out],KW⟩
 have HT:Hid (Et last b=b.rws.all (JF last)):=Lib.hid (by rw[HD.out,hp,hl,decide_eq_true hr];rfl);rw[Aw (by simp;omega)];clear HD hp hl hr CP CL;go_wp2;go_loopw [5,21] (fun _ i wr=>∃k:Nat,k<=b.rws.length/\i = .int .i64 k/\Hid (∀j,j<k->JF last (b.rws.getD j [])=true)/\wr=w2) (fun _ i _=>b.rws.length-(intOf i).toNat)
 case atStart=>exact⟨0,Nat.zero_le _,rfl,Lib.hid (fun j hj=>absurd hj (Nat.not_lt_zero _)),rfl⟩
 case round=>
  obtain⟨k,hk,rfl,hno,rfl⟩:=hrel;by_cases hlt:k<b.rws.length
  ·
   obtain⟨a',c',he',hR⟩:=HR.out.keep KW;simp only[Value.slice.injEq,true_and] at he';obtain⟨rfl,rfl⟩:=he';rcases hR with h0|⟨br,or,rfl,hbr,hcr⟩
   . exfalso;rw[h0] at hlt;simp at hlt
   obtain⟨vr,d,r⟩:=hcr k hlt;have C:=SM wr vr _ last r (HZ.out k hlt);have HF:JF last (b.rws.getD k [])=false->Hid (Et last b=false):=fun e=>Lib.hid (by rw[HT.out];exact Hs [] hlt e)
   have HN:JF last (b.rws.getD k [])=true->Hid (∀j,j<k+1->JF last (b.rws.getD j [])=true):=fun hq=>Lib.hid (fun j hj=>by
    by_cases e:j=k
    . rw[e];exact hq
    . exact hno.out j (by omega))
   clear hcr hno HT r;have i1:(0:Int)<=(k:Int):=Int.natCast_nonneg _;have i2:(k:Int)<(b.rws.length:Int):=by omega
   generalize b.rws.getD k []=row at *;go_wp2_with fail
   refine C.mono ?_;rintro e w3 ⟨rfl,rfl⟩;cases hq:JF last row
   ·
    have HE:=HF hq;rw[Ag rfl];go_wp2;exact⟨rfl,by rw[Ag HE.out],KW⟩
   ·
    have HE:=HN hq;rw[Aw rfl];go_wp2;go_roundw;case rel=>exact⟨k+1,by omega,rfl,HE,trivial⟩
    case measure=>simp[intOf];omega
  have HE:Hid (Et last b=true):=Lib.hid (by rw[HT.out];exact Fz [] (fun j hj=>hno.out j (by omega)));obtain rfl:k=b.rws.length:=by omega
  clear hno HT;go_wp2;go_end0;exact⟨by rw[Aw HE.out],KW⟩
theorem NM (w:World)(v:BV)(AA:List (List Dd))(b:Bd)(last:Int)(h:CV w v AA b)(hz:Gi AA b):
  Calls Tryz.prog 118 #[v.agg,.int .i64 last] w fun e w'=>e=KX (Hx last AA b)/\AC w w':=by
 obtain⟨aW,aP,aL,aN,aX,aS,aF,aR,cW,cP,cL,cN,cX,cS,cF,cR,rfl⟩:=h.shapes;have HD:Hid (Hx last AA b=(decide (b.AG.length=AA.length)&&(decide (b.AL.length=AA.length)&&(List.range AA.length).all (V4 last AA b)))):=Lib.hid rfl;have HH:=Lib.hid h;have HZ:=Lib.hid hz;have hz1:=hz.w1;have c0:(w.alloc (.cells #[.slice aW AA.length cW,.slice aP b.AM.length cP,.slice aL b.AO.length cL,.slice aN b.AG.length cN,.slice aX b.AL.length cX,.slice aS b.sn.length cS,.slice aF b.fr.length cF,.slice aR b.rws.length cR] 36)).cell? ⟨w.heap.size,0,none⟩=some (.slice aW AA.length cW):=AU (AC.refl _) 0;have c3:(w.alloc (.cells #[.slice aW AA.length cW,.slice aP b.AM.length cP,.slice aL b.AO.length cL,.slice aN b.AG.length cN,.slice aX b.AL.length cX,.slice aS b.sn.length cS,.slice aF b.fr.length cF,.slice aR b.rws.length cR] 36)).cell? ⟨w.heap.size,3,none⟩=some (.slice aN b.AG.length cN):=AU (AC.refl _) 3;have c4:(w.alloc (.cells #[.slice aW AA.length cW,.slice aP b.AM.length cP,.slice aL b.AO.length cL,.slice aN b.AG.length cN,.slice aX b.AL.length cX,.slice aS b.sn.length cS,.slice aF b.fr.length cF,.slice aR b.rws.length cR] 36)).cell? ⟨w.heap.size,4,none⟩=some (.slice aX b.AL.length cX):=AU (AC.refl _) 4;have KW:AC w (w.alloc (.cells #[.slice aW AA.length cW,.slice aP b.AM.length cP,.slice aL b.AO.length cL,.slice aN b.AG.length cN,.slice aX b.AL.length cX,.slice aS b.sn.length cS,.slice aF b.fr.length cF,.slice aR b.rws.length cR] 36)):=(AC.refl w).alloc _;have z1:w.heap.size<(w.alloc (.cells #[.slice aW AA.length cW,.slice aP b.AM.length cP,.slice aL b.AO.length cL,.slice aN b.AG.length cN,.slice aX b.AL.length cX,.slice aS b.sn.length cS,.slice aF b.fr.length cF,.slice aR b.rws.length cR] 36)).heap.size:=by rw[AD];omega
 clear h hz;go_enter Tryz.func118,Tryz.ntmps118
 go_upto_region 1 with fail
 generalize (w.alloc (.cells #[.slice aW AA.length cW,.slice aP b.AM.length cP,.slice aL b.AO.length cL,.slice aN b.AG.length cN,.slice aX b.AL.length cX,.slice aS b.sn.length cS,.slice aF b.fr.length cF,.slice aR b.rws.length cR] 36))=w1 at *;go_wp2_with fail
 refine (Du _ _).mono ?_;rintro e w2 ⟨rfl,rfl⟩;by_cases hr:b.AG.length=AA.length;rotate_left
 ·
  have HE:Hid (Hx last AA b=false):=Lib.hid (by rw[HD.out,decide_eq_false hr];rfl);rw[Ag (by simp;omega)];go_wp2;exact⟨rfl,by rw[Ag HE.out],KW⟩
 have HN:=Lib.hid hr;rw[Aw (by simp;omega)];clear hr;go_wp2_with fail
 refine (Du _ _).mono ?_;rintro e w2 ⟨rfl,rfl⟩;by_cases hr:b.AL.length=AA.length;rotate_left
 ·
  have HE:Hid (Hx last AA b=false):=Lib.hid (by rw[HD.out,decide_eq_false hr];simp);rw[Ag (by simp;omega)];go_wp2;exact⟨rfl,by rw[Ag HE.out],KW⟩
 have HX:=Lib.hid hr;have HT:Hid (Hx last AA b=(List.range AA.length).all (V4 last AA b)):=Lib.hid (by rw[HD.out,decide_eq_true HX.out,decide_eq_true HN.out];rfl);rw[Aw (by simp;omega)];clear hr HD;go_wp2;go_loopw [4,5,25] (fun _ _ i wr=>∃k:Nat,k<=AA.length/\i = .int .i64 k/\Hid (∀j,j<k->V4 last AA b j=true)/\AC w2 wr) (fun _ _ i _=>AA.length-(intOf i).toNat)
 case atStart=>exact⟨0,Nat.zero_le _,rfl,Lib.hid (fun j hj=>absurd hj (Nat.not_lt_zero _)),AC.refl _⟩
 case round=>
  obtain⟨k,hk,rfl,hno,hK⟩:=hrel;by_cases hlt:k<AA.length
  ·
   have lN:k<b.AG.length:=by rw[HN.out];exact hlt
   have lX:k<b.AL.length:=by rw[HX.out];exact hlt
   have K2:=KW.trans hK;have e3:=(hK.cell z1).trans c3;have e4:=(hK.cell z1).trans c4;obtain⟨a',c',he',hX⟩:=HH.out.X.keep K2;simp only[Value.slice.injEq,true_and] at he';obtain⟨rfl,rfl⟩:=he';rcases hX with h0|⟨bx,ox,rfl,hbx,hcx⟩
   . exfalso;rw[h0] at lX;simp at lX
   obtain⟨a',c',he',hW⟩:=HH.out.W.keep K2;simp only[Value.slice.injEq,true_and] at he';obtain⟨rfl,rfl⟩:=he';rcases hW with h0|⟨bw,ow,rfl,hbw,hcw⟩
   . exfalso;rw[h0] at hlt;simp at hlt
   obtain⟨a',c',he',hN⟩:=HH.out.N.keep K2;simp only[Value.slice.injEq,true_and] at he';obtain⟨rfl,rfl⟩:=he';rcases hN with h0|⟨bn,on,rfl,hbn,hcn⟩
   . exfalso;rw[h0] at lN;simp at lN
   have d1:=hcx k lX;obtain⟨vw,d2,r2⟩:=hcw k hlt;obtain⟨vn,d3,r3⟩:=hcn k lN;have hz2:=HZ.out.w2 k hlt;have C:=OB wr vn _ last r3 (HZ.out.n2 k lN);have HF:V4 last AA b k=false->Hid (Hx last AA b=false):=fun e=>Lib.hid (by rw[HT.out];exact Cv hlt e)
   have HM:V4 last AA b k=true->Hid (∀j,j<k+1->V4 last AA b j=true):=fun hq=>Lib.hid (fun j hj=>by
    by_cases e:j=k
    . rw[e];exact hq
    . exact hno.out j (by omega))
   have HC:Hid (V4 last AA b k=(Cj (b.AL.getD k 0) 0 ((AA.getD k []).length:Int)&&ON last (b.AG.getD k []))):=Lib.hid rfl;have i1:(0:Int)<=(k:Int):=Int.natCast_nonneg _;have i2:(k:Int)<(AA.length:Int):=by omega
   have i3:(k:Int)<(b.AL.length:Int):=by omega
   have i4:(k:Int)<(b.AG.length:Int):=by omega
   clear hcx hcw hcn hno HT r3 HH HZ;obtain⟨aw,cw,rfl,-⟩:=r2;generalize AA.getD k []=ds at *;generalize b.AL.getD k 0=x at *;generalize b.AG.getD k []=ns at *;go_wp2_with fail
   refine (BH _ _ _ _).mono ?_;rintro e w3 ⟨rfl,rfl⟩;cases hi:Cj x 0 (ds.length:Int)
   ·
    have HE:=HF (by rw[HC.out,hi];rfl);go_wp2_with fail
    refine (Gz _).mono ?_;rintro e w3 ⟨rfl,rfl⟩;go_wp2;exact⟨rfl,by rw[Ag HE.out],K2⟩
   have HC2:Hid (V4 last AA b k=ON last ns):=Lib.hid (by rw[HC.out,hi];rfl);go_wp2_with fail
   refine (DB _).mono ?_;rintro e w3 ⟨rfl,rfl⟩;clear hi HC;go_wp2_with fail
   refine C.mono ?_;rintro e w4 ⟨rfl,k4⟩;rw[<-HC2.out];cases hq:V4 last AA b k
   ·
    have HE:=HF hq;rw[Ag rfl];go_wp2;exact⟨rfl,by rw[Ag HE.out],K2.trans k4⟩
   ·
    have HE:=HM hq;rw[Aw rfl];clear HF HM HC2;go_wp2;go_roundw;case rel=>exact⟨k+1,by omega,rfl,HE,hK.trans k4⟩
    case measure=>simp[intOf];omega
  have HE:Hid (Hx last AA b=true):=Lib.hid (by rw[HT.out];exact C5 (fun j hj=>hno.out j (by omega)));obtain rfl:k=AA.length:=by omega
  clear hno HT;go_wp2;go_end0;exact⟨by rw[Aw HE.out],KW.trans hK⟩
theorem GC (w:World)(v:BV)(AA:List (List Dd))(b:Bd)(h:CV w v AA b)(hz:Gi AA b):
  Calls Tryz.prog 94 #[v.agg] w fun e w'=>e=KX (AW AA b)/\AC w w':=by
 obtain⟨aW,aP,aL,aN,aX,aS,aF,aR,cW,cP,cL,cN,cX,cS,cF,cR,rfl⟩:=h.shapes;have HS:Hid (AW AA b=GA AA b):=Lib.hid (Re AA b (IB Ah (AB AA))).symm;have HD:Hid (GA AA b=(AQ AA&&(Et (((AB AA).length:Int)-1) b&&(Hx (((AB AA).length:Int)-1) AA b&&(FZ b.sn (AX Ah (AB AA)).length (-1) 9&&FZ b.fr (AX Ah (AB AA)).length (-1) (((AB AA).length:Int)-1)))))):=Lib.hid rfl;have CW:=fun (W:World) (kW:AC w W)=>C7 W _ AA (h.W.keep kW) hz.w1 hz.w2
 have CE:=fun (W:World) (kW:AC w W)=>EG W _ AA (h.W.keep kW) hz.w1 hz.w2
 have CT:=fun (W:World) (kW:AC w W)=>OC W _ AA b (((AB AA).length:Int)-1) (h.keep kW) hz
 have CC:=fun (W:World) (kW:AC w W)=>NM W _ AA b (((AB AA).length:Int)-1) (h.keep kW) hz
 have CS:=fun (W:World) (kW:AC w W)=>Dt W _ b.sn (AX Ah (AB AA)).length (-1) 9 (h.S.keep kW) hz.sn
 have CF:=fun (W:World) (kW:AC w W)=>Dt W _ b.fr (AX Ah (AB AA)).length (-1) (((AB AA).length:Int)-1) (h.F.keep kW) hz.fr
 have le:=Bv AA;have lr:=IB Ah (AB AA);have c0:(w.alloc (.cells #[.slice aW AA.length cW,.slice aP b.AM.length cP,.slice aL b.AO.length cL,.slice aN b.AG.length cN,.slice aX b.AL.length cX,.slice aS b.sn.length cS,.slice aF b.fr.length cF,.slice aR b.rws.length cR] 36)).cell? ⟨w.heap.size,0,none⟩=some (.slice aW AA.length cW):=AU (AC.refl _) 0;have hB1:(w.alloc (.cells #[.slice aW AA.length cW,.slice aP b.AM.length cP,.slice aL b.AO.length cL,.slice aN b.AG.length cN,.slice aX b.AL.length cX,.slice aS b.sn.length cS,.slice aF b.fr.length cF,.slice aR b.rws.length cR] 36)).heap[w.heap.size]? = some (.cells #[.slice aW AA.length cW,.slice aP b.AM.length cP,.slice aL b.AO.length cL,.slice aN b.AG.length cN,.slice aX b.AL.length cX,.slice aS b.sn.length cS,.slice aF b.fr.length cF,.slice aR b.rws.length cR] 36 (0,0)):=heap_alloc_new _ _;have KW:AC w (w.alloc (.cells #[.slice aW AA.length cW,.slice aP b.AM.length cP,.slice aL b.AO.length cL,.slice aN b.AG.length cN,.slice aX b.AL.length cX,.slice aS b.sn.length cS,.slice aF b.fr.length cF,.slice aR b.rws.length cR] 36)):=(AC.refl w).alloc _;have z1:w.heap.size<(w.alloc (.cells #[.slice aW AA.length cW,.slice aP b.AM.length cP,.slice aL b.AO.length cL,.slice aN b.AG.length cN,.slice aX b.AL.length cX,.slice aS b.sn.length cS,.slice aF b.fr.length cF,.slice aR b.rws.length cR] 36)).heap.size:=by rw[AD];omega
 clear h hz;go_enter Tryz.func94,Tryz.ntmps94
 go_upto_region 1 with fail
 generalize (w.alloc (.cells #[.slice aW AA.length cW,.slice aP b.AM.length cP,.slice aL b.AO.length cL,.slice aN b.AG.length cN,.slice aX b.AL.length cX,.slice aS b.sn.length cS,.slice aF b.fr.length cF,.slice aR b.rws.length cR] 36))=w1 at *;go_wp2_with fail
 refine (CW _ KW).mono ?_;rintro e w2 ⟨rfl,k2⟩;have K2:=KW.trans k2;have e0:=(k2.cell z1).trans c0;go_wp2_with fail
 refine (Du _ _).mono ?_;rintro e w3 ⟨rfl,rfl⟩;cases hw:AQ AA
 ·
  have HE:Hid (GA AA b=false):=Lib.hid (by rw[HD.out,hw];simp);rw[Ag rfl];go_wp2;exact⟨rfl,by rw[HS.out,Ag HE.out],K2⟩
 rw[Aw rfl];go_wp2_with fail
 refine (CE _ K2).mono ?_;rintro e w4 ⟨v4,rfl,A4,k4⟩;have K4:=K2.trans k4;have R4:=A4.rd;obtain⟨a4,x4,rfl,-⟩:=id R4;have CR:=Eh w4 _ _ R4 (by omega);have el:IntKind.i64.wrap (((AB AA).length:Int)-1)=((AB AA).length:Int)-1:=by rw[IntKind.wrap_i64];omega
 clear CW CE A4 R4 c0 e0;go_wp2_with fail
 refine CR.mono ?_;rintro e w5 ⟨v5,rfl,O5,k5⟩;have K5:=K4.trans k5;obtain⟨a5,x5,rfl,-⟩:=id O5.rd;have hB5:=(Below.block (k2.trans (k4.trans k5)) w.heap.size z1).trans hB1;have z5:w.heap.size<w5.heap.size:=Nat.lt_of_lt_of_le z1 (k2.trans (k4.trans k5)).size;clear O5 CR hB1;go_wp2_with (first|refine wpList_load_row rfl 36 _ rfl w.heap.size rfl 36 _ (0,0) _ hB5 Tryz.underlying36 rfl AK ?_|fail)
 refine (CT _ K5).mono ?_;rintro e w6 ⟨rfl,k6⟩;have K6:=K5.trans k6;cases hs:Et (((AB AA).length:Int)-1) b
 ·
  have HE:Hid (GA AA b=false):=Lib.hid (by rw[HD.out,hs];simp);rw[Ag rfl];go_wp2;exact⟨rfl,by rw[HS.out,Ag HE.out],K6⟩
 rw[Aw rfl];have hB6:=(Below.block k6 w.heap.size z5).trans hB5;have z6:w.heap.size<w6.heap.size:=Nat.lt_of_lt_of_le z5 k6.size;go_wp2_with (first|refine wpList_load_row rfl 36 _ rfl w.heap.size rfl 36 _ (0,0) _ hB6 Tryz.underlying36 rfl AK ?_|fail)
 refine (CC _ K6).mono ?_;rintro e w7 ⟨rfl,k7⟩;have K7:=K6.trans k7;cases hc:Hx (((AB AA).length:Int)-1) AA b
 ·
  have HE:Hid (GA AA b=false):=Lib.hid (by rw[HD.out,hc];simp);rw[Ag rfl];go_wp2;exact⟨rfl,by rw[HS.out,Ag HE.out],K7⟩
 rw[Aw rfl];have hB7:=(Below.block k7 w.heap.size z6).trans hB6;have f5:w7.cell? ⟨w.heap.size,5,none⟩=some (.slice aS b.sn.length cS):=by rw[cell_of_row w7 _ 5 _ _ _ hB7];rfl
 have f6:w7.cell? ⟨w.heap.size,6,none⟩=some (.slice aF b.fr.length cF):=by rw[cell_of_row w7 _ 6 _ _ _ hB7];rfl
 clear hB5 hB6 hB7 CT CC;go_wp2_with fail
 refine (CS _ K7).mono ?_;rintro e w8 ⟨rfl,rfl⟩;cases hn:FZ b.sn (AX Ah (AB AA)).length (-1) 9
 ·
  have HE:Hid (GA AA b=false):=Lib.hid (by rw[HD.out,hn];simp);rw[Ag rfl];go_wp2;exact⟨rfl,by rw[HS.out,Ag HE.out],K7⟩
 rw[Aw rfl];go_wp2_with fail
 refine (CF _ K7).mono ?_;rintro e w9 ⟨rfl,rfl⟩;cases hf:FZ b.fr (AX Ah (AB AA)).length (-1) (((AB AA).length:Int)-1)
 ·
  have HE:Hid (GA AA b=false):=Lib.hid (by rw[HD.out,hf];simp);rw[Ag rfl];go_wp2;exact⟨rfl,by rw[HS.out,Ag HE.out],K7⟩
 rw[Aw rfl];have HE:Hid (GA AA b=true):=Lib.hid (by rw[HD.out,hw,hs,hc,hn,hf];rfl);clear HD hw hs hc hn hf;go_wp2;go_end0;exact⟨by rw[HS.out,Aw HE.out],K7⟩
theorem Ls (w:World)(k p x g:Int):
  Calls Tryz.prog 155 #[.agg #[.int .i64 k,.int .i64 p,.int .i64 x,.int .i64 g]] w fun e w'=>e = .returned (.bool (Dv (k,p,x,g)))/\AC w w':=by
 have HP:Hid (Dv (k,p,x,g)=(decide (g=0)&&(decide (k=1)||decide (k=2)))):=Lib.hid rfl;by_cases h0:g=0
 ·
  by_cases h1:k=1
  ·
   have HT:Hid (Dv (k,p,x,g)=true):=Lib.hid (by rw[HP.out];simp[h0,h1]);have q0:(g==0)=true:=by simp[h0]
   have q1:(k==1)=true:=by simp[h1]
   clear HP h0 h1;go_enter Tryz.func155,Tryz.ntmps155
   go_wp2;go_ret;exact⟨by rw[HT.out];rfl,(AC.refl w).alloc _⟩
  ·
   have HT:Hid (Dv (k,p,x,g)=(k==2)):=Lib.hid (by rw[HP.out];simp[h0,h1];rfl);have q0:(g==0)=true:=by simp[h0]
   have q1:(k==1)=false:=by simp[h1]
   clear HP h0 h1;go_enter Tryz.func155,Tryz.ntmps155
   go_wp2;go_ret;exact⟨by rw[HT.out];rfl,(AC.refl w).alloc _⟩
 ·
  have HT:Hid (Dv (k,p,x,g)=false):=Lib.hid (by rw[HP.out];simp[h0]);have q0:(g==0)=false:=by simp[h0]
  clear HP h0;go_enter Tryz.func155,Tryz.ntmps155
  go_wp2;go_ret;exact⟨by rw[HT.out];rfl,(AC.refl w).alloc _⟩
theorem E4 (w:World)(v:BV)(AA:List (List Dd))(b:Bd)(c:Nat)(h:CV w v AA b)(hc:c<b.AG.length):
  Calls Tryz.prog 104 #[v.agg,.int .i64 c] w fun e w'=>e = .returned (.bool (decide (0<(b.AG.getD c []).length)))/\AC w w':=by
 obtain⟨aW,aP,aL,aN,aX,aS,aF,aR,cW,cP,cL,cN,cX,cS,cF,cR,rfl⟩:=h.shapes;have KW:AC w (w.alloc (.cells #[.slice aW AA.length cW,.slice aP b.AM.length cP,.slice aL b.AO.length cL,.slice aN b.AG.length cN,.slice aX b.AL.length cX,.slice aS b.sn.length cS,.slice aF b.fr.length cF,.slice aR b.rws.length cR] 36)):=(AC.refl w).alloc _;have c3:(w.alloc (.cells #[.slice aW AA.length cW,.slice aP b.AM.length cP,.slice aL b.AO.length cL,.slice aN b.AG.length cN,.slice aX b.AL.length cX,.slice aS b.sn.length cS,.slice aF b.fr.length cF,.slice aR b.rws.length cR] 36)).cell? ⟨w.heap.size,3,none⟩=some (.slice aN b.AG.length cN):=AU (AC.refl _) 3;have h':=h.keep KW;obtain⟨a',c',he',hN⟩:=h'.N;simp only[Value.slice.injEq,true_and] at he';obtain⟨rfl,rfl⟩:=he';rcases hN with h0|⟨bn,on,rfl,hbn,hcn⟩
 . exfalso;rw[h0] at hc;simp at hc
 obtain⟨vn,d3,r3⟩:=hcn c hc;obtain⟨an,cn,rfl,-⟩:=r3;generalize (b.AG.getD c []).length=L at *;have j1:(0:Int)<=(c:Int):=Int.natCast_nonneg _;have j4:(c:Int)<(b.AG.length:Int):=by omega
 have HQ:Hid (decide ((0:Int)<(L:Int))=decide (0<L)):=Lib.hid (by simp);clear hcn h h';go_enter Tryz.func104,Tryz.ntmps104
 go_wp2;go_ret;exact⟨by rw[<-HQ.out];rfl,KW⟩
theorem Lm (w:World)(v:BV)(AA:List (List Dd))(b:Bd)(c:Nat)(h:CV w v AA b)(hb:AW AA b=true)(hc:c<AA.length):
  Calls Tryz.prog 132 #[v.agg,.int .i64 c] w fun e w'=>e = .returned (.bool (Bh AA b c))/\AC w w':=by
 have S:=Di.of hb;have hok:=CG S.work hc;have hnx:=Fq hb hc;have hw5:=Da S.work hc;have lX:c<b.AL.length:=by rw[S.AL];exact hc
 have lN:c<b.AG.length:=by rw[S.AG];exact hc
 have HC:Hid (Bh AA b c=(decide (Ao b c<(AA.getD c []).length)&&((decide ((Al AA c (Ao b c)).1<=2)&&decide (BP AA c (Ao b c)=0))||(b.AG.getD c []).isEmpty))):=Lib.hid rfl;obtain⟨aW,aP,aL,aN,aX,aS,aF,aR,cW,cP,cL,cN,cX,cS,cF,cR,rfl⟩:=h.shapes;obtain⟨w1,hw1⟩:∃W:World,W=w.alloc (.cells #[.slice aW AA.length cW,.slice aP b.AM.length cP,.slice aL b.AO.length cL,.slice aN b.AG.length cN,.slice aX b.AL.length cX,.slice aS b.sn.length cS,.slice aF b.fr.length cF,.slice aR b.rws.length cR] 36):=⟨_,rfl⟩;have K1:AC w w1:=by rw[hw1];exact (AC.refl w).alloc _
 have hB:w1.heap[w.heap.size]? = some (.cells #[.slice aW AA.length cW,.slice aP b.AM.length cP,.slice aL b.AO.length cL,.slice aN b.AG.length cN,.slice aX b.AL.length cX,.slice aS b.sn.length cS,.slice aF b.fr.length cF,.slice aR b.rws.length cR] 36 (0,0)):=by rw[hw1];exact heap_alloc_new _ _
 have c0:w1.cell? ⟨w.heap.size,0,none⟩=some (.slice aW AA.length cW):=by rw[cell_of_row w1 _ 0 _ _ _ hB];rfl
 have c4:w1.cell? ⟨w.heap.size,4,none⟩=some (.slice aX b.AL.length cX):=by rw[cell_of_row w1 _ 4 _ _ _ hB];rfl
 have y1:w.heap.size<w1.heap.size:=by rw[hw1,AD];omega
 have h':=h.keep K1;have CH:=fun (W:World) (kW:AC w W)=>E4 W _ AA b c (h.keep kW) lN
 obtain⟨a',c',he',hX⟩:=h'.X;simp only[Value.slice.injEq,true_and] at he';obtain⟨rfl,rfl⟩:=he';rcases hX with h0|⟨bx,ox,rfl,hbx,hcx⟩
 . exfalso;rw[h0] at lX;simp at lX
 obtain⟨a',c',he',hW⟩:=h'.W;simp only[Value.slice.injEq,true_and] at he';obtain⟨rfl,rfl⟩:=he';rcases hW with h0|⟨bw,ow,rfl,hbw,hcw⟩
 . exfalso;rw[h0] at hc;simp at hc
 have d1:=hcx c lX;obtain⟨vw,d2,r2⟩:=hcw c hc;obtain⟨k,hk⟩:=Int.eq_ofNat_of_zero_le hnx.1;have hkn:Ao b c=k:=by unfold Ao;rw[hk];rfl
 rw[hkn] at HC;rw[hk] at d1 hnx;obtain⟨aD,cD,rfl,hD⟩:=r2;have hkl:k<=(AA.getD c []).length:=by omega
 have j1:(0:Int)<=(c:Int):=Int.natCast_nonneg _;have j2:(c:Int)<(AA.length:Int):=by omega
 have j3:(c:Int)<(b.AL.length:Int):=by omega
 have j4:(0:Int)<=(k:Int):=Int.natCast_nonneg _;have HN:Hid ((b.AG.getD c []).isEmpty=!(decide (0<(b.AG.getD c []).length))):=Lib.hid (by cases b.AG.getD c []<;>rfl);generalize decide (0<(b.AG.getD c []).length)=T at *;clear hcx hcw hnx hk h' h;by_cases hlt:k<(AA.getD c []).length
 ·
  rcases hD with h0|⟨bd,od,rfl,hbd,hcd⟩
  . exfalso;rw[h0] at hlt;simp at hlt
  obtain⟨e0,e1,e2,e3⟩:=hcd k hlt;have hkd:=CM (hok k hlt)
  have HP:Hid (Bh AA b c=(Dv (Al AA c k) || !T)):=Lib.hid (by
   rw[HC.out,HN.out,decide_eq_true hlt,Bool.true_and]
   congr 1
   unfold Dv
   have:decide ((Al AA c k).1<=2)=(decide ((Al AA c k).1=1)||decide ((Al AA c k).1=2)):=by
    rcases hkd with q|q|q|q<;>rw[q]<;>rfl
   rw[this,Bool.and_comm])
  replace e0:w1.cell? ⟨bd,od+k*4,none⟩=some (.int .i64 (Al AA c k).1):=e0;replace e1:w1.cell? ⟨bd,od+k*4+1,none⟩=some (.int .i64 (Al AA c k).2.1):=e1;replace e2:w1.cell? ⟨bd,od+k*4+2,none⟩=some (.int .i64 (Al AA c k).2.2.1):=e2;replace e3:w1.cell? ⟨bd,od+k*4+3,none⟩=some (.int .i64 (Al AA c k).2.2.2):=e3;generalize (AA.getD c []).length=n at *;generalize Al AA c k=d at *;obtain⟨x0,x1,x2,x3⟩:=d;simp only at e0 e1 e2 e3;have CP:=fun W=>Ls W x0 x1 x2 x3
  generalize Dv (x0,x1,x2,x3)=P at *;have j5:(k:Int)<=(n:Int):=by omega
  have j6:(k:Int)<=((n+cD:Nat):Int):=by omega
  obtain⟨l,hl⟩:∃l:Nat,n=k+1+l:=⟨n-k-1,by omega⟩;subst hl;clear hcd hkd HC HN hok hlt hkl hw5;go_enter Tryz.func132,Tryz.ntmps132
  go_upto_region 1 with fail
  rw[<-hw1];clear hw1;go_quiet (fail)
  go_wp2_with fail
  refine (CP _).mono ?_;rintro e w2 ⟨rfl,k2⟩;have K2:=(K1.drewN _).trans k2;have hB2:=(Below.block k2 w.heap.size y1).trans hB
  cases P with
  |true=>
   go_wp2;go_ret;exact⟨by rw[HP.out];rfl,K2⟩
  |false=>
   have z0:w2.cell? ⟨w.heap.size,0,none⟩=some (.slice (some ⟨bw,ow,none⟩) AA.length cW):=by rw[cell_of_row w2 _ 0 _ _ _ hB2];rfl
   have z1:w2.cell? ⟨w.heap.size,1,none⟩=some (.slice aP b.AM.length cP):=by rw[cell_of_row w2 _ 1 _ _ _ hB2];rfl
   have z2:w2.cell? ⟨w.heap.size,2,none⟩=some (.slice aL b.AO.length cL):=by rw[cell_of_row w2 _ 2 _ _ _ hB2];rfl
   have z3:w2.cell? ⟨w.heap.size,3,none⟩=some (.slice aN b.AG.length cN):=by rw[cell_of_row w2 _ 3 _ _ _ hB2];rfl
   have z4:w2.cell? ⟨w.heap.size,4,none⟩=some (.slice (some ⟨bx,ox,none⟩) b.AL.length cX):=by rw[cell_of_row w2 _ 4 _ _ _ hB2];rfl
   have z5:w2.cell? ⟨w.heap.size,5,none⟩=some (.slice aS b.sn.length cS):=by rw[cell_of_row w2 _ 5 _ _ _ hB2];rfl
   have z6:w2.cell? ⟨w.heap.size,6,none⟩=some (.slice aF b.fr.length cF):=by rw[cell_of_row w2 _ 6 _ _ _ hB2];rfl
   have z7:w2.cell? ⟨w.heap.size,7,none⟩=some (.slice aR b.rws.length cR):=by rw[cell_of_row w2 _ 7 _ _ _ hB2];rfl
   go_wp2_with fail
   refine (CH _ K2).mono ?_;rintro e w3 ⟨rfl,k3⟩;go_wp2;go_ret;exact⟨by rw[HP.out];rfl,K2.trans k3⟩
 ·
  obtain rfl:k=(AA.getD c []).length:=by omega
  have HP:Hid (Bh AA b c=false):=Lib.hid (by rw[HC.out,decide_eq_false (by omega),Bool.false_and]);generalize (AA.getD c []).length=n at *;have j5:(n:Int)<=((n+cD:Nat):Int):=by omega
  clear hD HC HN hok hlt hkl hw5 CH
  cases aD with
  |none=>
   go_enter Tryz.func132,Tryz.ntmps132
   go_upto_region 1 with fail
   rw[<-hw1];clear hw1;go_quiet (fail)
   go_wp2;all_goals go_ret
   all_goals exact⟨by rw[HP.out];rfl,K1.drewN _⟩
  |some x=>
   go_enter Tryz.func132,Tryz.ntmps132
   go_upto_region 1 with fail
   rw[<-hw1];clear hw1;go_quiet (fail)
   go_wp2;all_goals go_ret
   all_goals exact⟨by rw[HP.out];rfl,K1.drewN _⟩
theorem YR (p0:Addr)(w:World):CallsD Tryz.prog 131 #[.pointer (some p0)] .returning w fun e u' w'=>e = .returned (.tuple #[])/\u' = .returning/\w'=w:=by
 refine callsD_of_wpS Tryz.func131 rfl fun c₀ cs hu=>?_
 apply wpS_seq;apply wpS_region;have hn:∀w:World,(binOp BinOp.neq 20 .nilIface .nilIface).run Tryz.prog w = .ok (.bool false) w:=fun _=>by kernel_rfl
 simp[wpOpsS,go_sem,recoverD,hu,Tryz.ntmps131,Exit.thenS,hn];refine wpS_cond (t:=false) (by simp[Act.eval,Array.replicate]) ?_;simp only[Bool.false_eq_true,if_false];refine wpS_of_wp (wp_skip ?_);cases c₀;simp_all [bodyPostS,results,Tryz.results131]
theorem fI (g:Nat)(w:World)(x:Value)(hg:w.heap[g]? = some (.cells #[x] 4 (0,0))):CallsD Tryz.prog 131 #[.pointer (some ⟨g,0,none⟩)] (.panicking [{ v:=Wk,recovered:=false }]) w fun e u' w'=>e = .returned (.tuple #[])/\u' = .panicking [{ v:=Wk,recovered:=true }]/\w'=w.setCell ⟨g,0,none⟩ (.bool false):=by
 have hc:w.cell? ⟨g,0,none⟩=some x:=by rw[cell_of_row w g 0 _ _ _ hg];rfl
 have hf:w.frozen? ⟨g,0,none⟩=false:=frozen_of_row w g 0 _ _ hg;have hv:∀w:World,(binOp BinOp.neq 20 Wk .nilIface).run Tryz.prog w = .ok (.bool true) w:=fun _=>by kernel_rfl
 refine callsD_of_wpS Tryz.func131 rfl fun c₀ cs hu=>?_
 apply wpS_seq;apply wpS_region;simp[wpOpsS,go_sem,recoverD,hu,Tryz.ntmps131,Exit.thenS,hv];refine wpS_cond (t:=true) (by simp[Act.eval,Array.replicate]) ?_;simp only[if_true];refine wpS_of_wp ?_;go_wp2;cases c₀;simp_all [bodyPostS,results,Tryz.results131]
theorem Hb (w:World)(v:BV)(AA:List (List Dd))(b:Bd)(h:CV w v AA b)(hz:Gi AA b):
  Calls Tryz.prog 100 #[v.agg] w fun e w'=>e = .returned (.bool (AW AA b))/\AC w w':=by
 obtain⟨aW,aP,aL,aN,aX,aS,aF,aR,cW,cP,cL,cN,cX,cS,cF,cR,rfl⟩:=h.shapes;have C:=fun (W:World) (kW:AC w W)=>GC W _ AA b (h.keep kW) hz
 have HH:=Lib.hid h;have HZ:=Lib.hid hz;clear h hz;have vV:∀(fn:Fn) (first cap:Array Value) (w:World),(Instr.makeFunc fn first cap).run Tryz.prog w = .ok (.func fn first cap) w:=fun _ _ _ _=>rfl
 obtain⟨w1,hw1⟩:∃W:World,W=((w.alloc (.cells #[.slice aW AA.length cW,.slice aP b.AM.length cP,.slice aL b.AO.length cL,.slice aN b.AG.length cN,.slice aX b.AL.length cX,.slice aS b.sn.length cS,.slice aF b.fr.length cF,.slice aR b.rws.length cR] 36)).alloc (.cells #[.bool false] 4)):=⟨_,rfl⟩;have K1:AC w w1:=by rw[hw1];exact ((AC.refl w).alloc _).alloc _
 have s1:w1.heap.size=w.heap.size+2:=by rw[hw1,AD,AD]
 have hR1:w1.heap[w.heap.size+1]? = some (.cells #[.bool false] 4 (0,0)):=by
  rw[hw1,<-AD w (.cells #[.slice aW AA.length cW,.slice aP b.AM.length cP,.slice aL b.AO.length cL,.slice aN b.AG.length cN,.slice aX b.AL.length cX,.slice aS b.sn.length cS,.slice aF b.fr.length cF,.slice aR b.rws.length cR] 36)];exact heap_alloc_new _ _
 have hB1:w1.heap[w.heap.size]? = some (.cells #[.slice aW AA.length cW,.slice aP b.AM.length cP,.slice aL b.AO.length cL,.slice aN b.AG.length cN,.slice aX b.AL.length cX,.slice aS b.sn.length cS,.slice aF b.fr.length cF,.slice aR b.rws.length cR] 36 (0,0)):=by rw[hw1];exact (Below.block ((AC.refl _).alloc _) _ (by rw[AD];omega)).trans (heap_alloc_new _ _)
 go_enter_defers Tryz.func100,Tryz.ntmps100
 go_upto_region 2 with fail
 rw[<-hw1];clear hw1;go_wp2_with (first|refine wpList_load_row rfl 36 _ rfl w.heap.size rfl 36 _ (0,0) _ hB1 Tryz.underlying36 rfl AK ?_|fail)
 refine (C _ K1).mono ?_;rintro e w2 ⟨rfl,k2⟩;have K2:=K1.trans k2;have hR2:=(Below.block k2 (w.heap.size+1) (by omega)).trans hR1;cases hb:AW AA b
 ·
  rw[Ag rfl];have hS:=heap_setCell_same w2 (w.heap.size+1) 0 _ _ (.bool false) hR2;have hc:(w2.setCell ⟨w.heap.size+1,0,none⟩ (.bool false)).cell? ⟨w.heap.size+1,0,none⟩=some (.bool false):=by rw[cell_of_row _ _ 0 _ _ _ hS];rfl
  have KZ:=K2.grown (Ae w2 (w.heap.size+1) 0 (.bool false)) (fun k hk=>by have:=Option.some.inj hk;omega);go_wp2;refine leaves_cons (f:=131) (args:=#[.pointer (some ⟨w.heap.size+1,0,none⟩)]) (by simp) (by simp[go_sem]) ?_;refine (fI _ _ _ hR2).mono ?_;rintro e u' w9 ⟨rfl,rfl,rfl⟩;simp[Leaves,settle,results,Tryz.results100,go_sem,hc];exact⟨hb,KZ⟩
 ·
  rw[Aw rfl];have hc0:w2.cell? ⟨w.heap.size+1,0,none⟩=some (.bool false):=by rw[cell_of_row w2 _ 0 _ _ _ hR2];rfl
  have hf:w2.frozen? ⟨w.heap.size+1,0,none⟩=false:=frozen_of_row w2 _ 0 _ _ hR2;have hS:=heap_setCell_same w2 (w.heap.size+1) 0 _ _ (.bool true) hR2;have hc:(w2.setCell ⟨w.heap.size+1,0,none⟩ (.bool true)).cell? ⟨w.heap.size+1,0,none⟩=some (.bool true):=by rw[cell_of_row _ _ 0 _ _ _ hS];rfl
  have KZ:=K2.grown (Ae w2 (w.heap.size+1) 0 (.bool true)) (fun k hk=>by have:=Option.some.inj hk;omega);go_wp2;refine leaves_cons (f:=131) (args:=#[.pointer (some ⟨w.heap.size+1,0,none⟩)]) (by simp) (by simp[go_sem]) ?_;refine (YR _ _).mono ?_;rintro e u' w9 ⟨rfl,rfl,rfl⟩;simp[Leaves,settle,results,Tryz.results100,go_sem,hc];exact⟨hb,KZ⟩
abbrev Nl:Array Value:=#[.int .i64 0,.func (.func 132) #[] #[],.func (.func 133) #[] #[],.int .i64 10,.func (.func 104) #[] #[],.func (.func 134) #[] #[]]
def zl (k:Nat):Int:=if k=0 then 0 else 10
def stC (k:Nat):Nat:=if k=0 then 132 else 104
def Xs (AA:List (List Dd))(b:Bd)(k c:Nat):Bool:=if k=0 then Bh AA b c else decide (0<(b.AG.getD c []).length)
def Jm (AA:List (List Dd))(b:Bd)(k j:Nat):List Int:=((List.range j).filter (Xs AA b k)).map (fun c:Nat=>zl k+(c:Int))
def Jl (AA:List (List Dd))(b:Bd)(n:Nat):Nat->List Int
 | 0=>[]
 |k+1=>Jl AA b n k++Jm AA b k n
theorem Jt (w:World):Calls Tryz.prog 101 #[] w fun e w'=>e = .returned (.slice (some ⟨w.heap.size,0,none⟩) 2 2)/\w'=w.alloc (.cells Nl 122):=by
 go_enter Tryz.func101,Tryz.ntmps101
 go_wp2;go_ret;exact⟨rfl,rfl⟩
theorem So (k:Nat)(w:World)(v:BV)(AA:List (List Dd))(b:Bd)(c:Nat)(h:CV w v AA b)(hb:AW AA b=true)(hc:c<AA.length):
  Calls Tryz.prog (stC k) #[v.agg,.int .i64 c] w fun e w'=>e = .returned (.bool (Xs AA b k c))/\AC w w':=by
 unfold stC Xs;by_cases h0:k=0
 . rw[if_pos h0,if_pos h0];exact Lm w v AA b c h hb hc
 . rw[if_neg h0,if_neg h0];exact E4 w v AA b c h (by rw[(Di.of hb).AG];exact hc)
theorem JB {w:World}{T:Nat}(h:w.heap[T]? = some (.cells Nl 122 (0,0))):
  (w.cell? ⟨T,0,none⟩=some (.int .i64 0)/\w.cell? ⟨T,1,none⟩=some (.func (.func 132) #[] #[])/\w.cell? ⟨T,2,none⟩=some (.func (.func 133) #[] #[])) /\
  w.cell? ⟨T,3,none⟩=some (.int .i64 10)/\w.cell? ⟨T,4,none⟩=some (.func (.func 104) #[] #[])/\w.cell? ⟨T,5,none⟩=some (.func (.func 134) #[] #[]):=
 ⟨⟨by rw[cell_of_row w _ _ _ _ _ h];rfl,by rw[cell_of_row w _ _ _ _ _ h];rfl,by rw[cell_of_row w _ _ _ _ _ h];rfl⟩,by rw[cell_of_row w _ _ _ _ _ h];rfl,by rw[cell_of_row w _ _ _ _ _ h];rfl,by rw[cell_of_row w _ _ _ _ _ h];rfl⟩
theorem I3:(Tryz.prog.info? 122).map (·.size)=some 3:=by kernel_rfl
theorem VR {AA:List (List Dd)}{b:Bd}{k j:Nat}(h:Xs AA b k j=true):Jm AA b k (j+1)=Jm AA b k j++[zl k+(j:Int)]:=by
 unfold Jm;rw[List.range_succ,List.filter_append,List.map_append];simp[h]
theorem Sk {AA:List (List Dd)}{b:Bd}{k j:Nat}(h:Xs AA b k j=false):Jm AA b k (j+1)=Jm AA b k j:=by
 unfold Jm;rw[List.range_succ,List.filter_append,List.map_append];simp[h]
theorem Qv (AA:List (List Dd))(b:Bd)(k j:Nat):(Jm AA b k j).length<=j:=by
 unfold Jm;rw[List.length_map];exact Nat.le_trans (List.length_filter_le _ _) (by simp)
theorem Qu (AA:List (List Dd))(b:Bd)(n:Nat):∀k:Nat,(Jl AA b n k).length<=k*n
 | 0=>by simp[Jl]
 |k+1=>by
  show (Jl AA b n k++Jm AA b k n).length<=_;rw[List.length_append];have:=Qu AA b n k;have:=Qv AA b k n;rw[Nat.succ_mul];omega
theorem iQ (AA:List (List Dd))(b:Bd):Jl AA b AA.length 2=Ad AA b:=by
 show ([]++Jm AA b 0 AA.length)++Jm AA b 1 AA.length=Ad AA b;rw[List.nil_append];unfold Ad Jm
 congr 1
 ·
  have e:∀c:Nat,zl 0+(c:Int)=(c:Int):=fun c=>by show (0:Int)+_=_;omega
  simp only[e];rfl
 ·
  have e:(fun c=>!(b.AG.getD c []).isEmpty)=Xs AA b 1:=by
   funext c;show _=decide (0<(b.AG.getD c []).length);cases b.AG.getD c []<;>rfl
  rw[e];rfl
theorem LF (w:World)(v:BV)(AA:List (List Dd))(b:Bd)(h:CV w v AA b)(hz:Gi AA b):
  Calls Tryz.prog 69 #[v.agg] w fun e w'=>∃v',e = .returned v'/\UT w' w.heap.size v' (B8 AA b)/\AC w w':=by
 have CB:=fun (W:World) (kW:AC w W)=>Hb W v AA b (h.keep kW) hz
 have CC:=fun (k:Nat) (W:World) (kW:AC w W) (hb:AW AA b=true) (c:Nat) (hc:c<AA.length)=>So k W v AA b c (h.keep kW) hb hc
 have HP:Hid (B8 AA b=if AW AA b=true then Ad AA b else []):=Lib.hid rfl;obtain⟨i0,hi,hz0,hz1,hz2⟩:=info_parts Tryz.GU;obtain⟨aW,aP,aL,aN,aX,aS,aF,aR,cW,cP,cL,cN,cX,cS,cF,cR,rfl⟩:=h.shapes;clear h hz;obtain⟨w0,hw0⟩:∃W:World,W=w.alloc (.cells #[.slice aW AA.length cW,.slice aP b.AM.length cP,.slice aL b.AO.length cL,.slice aN b.AG.length cN,.slice aX b.AL.length cX,.slice aS b.sn.length cS,.slice aF b.fr.length cF,.slice aR b.rws.length cR] 36):=⟨_,rfl⟩;have K0:AC w w0:=by rw[hw0];exact (AC.refl w).alloc _
 have hB0:w0.heap[w.heap.size]? = some (.cells #[.slice aW AA.length cW,.slice aP b.AM.length cP,.slice aL b.AO.length cL,.slice aN b.AG.length cN,.slice aX b.AL.length cX,.slice aS b.sn.length cS,.slice aF b.fr.length cF,.slice aR b.rws.length cR] 36 (0,0)):=by rw[hw0];exact heap_alloc_new _ _
 have y0:w.heap.size<w0.heap.size:=by rw[hw0,AD];omega
 have O1:BM (w0.alloc (.cells #[] 2)) w0.heap.size (.slice (some ⟨w0.heap.size,0,none⟩) 0 0) []:=World.ownsRow_lit w0 #[] 0 (Nat.le_refl _) (by decide) rfl;go_enter Tryz.func69,Tryz.ntmps69
 go_upto_region 1 with fail
 rw[<-hw0];clear hw0;go_upto_region 2 with fail
 obtain⟨w1,hw1⟩:∃W:World,W=w0.alloc (.cells #[] 2):=⟨_,rfl⟩;have k1:AC w0 w1:=by rw[hw1];exact (AC.refl w0).alloc _
 have y1:w0.heap.size<w1.heap.size:=by rw[hw1,AD];omega
 rw[<-hw1] at O1 ⊢;clear hw1;have hB1:=(Below.block k1 w.heap.size y0).trans hB0;go_wp2_with (first|refine wpList_load_row rfl 36 _ rfl w.heap.size rfl 36 _ (0,0) _ hB1 Tryz.underlying36 rfl AK ?_|fail)
 refine (CB _ (K0.trans k1)).mono ?_;rintro e w2 ⟨rfl,k2⟩;have O2:=O1.keep k2;have K2:=(K0.trans k1).trans k2;have s1:w0.heap.size<w1.heap.size:=y1;have s2:=k2.size;cases hb:AW AA b
 ·
  have HE:Hid (B8 AA b=[]):=Lib.hid (by rw[HP.out,hb];rfl);go_wp2;go_ret;exact⟨_,rfl,by rw[HE.out];exact (O2.Az (by omega)).row,K2⟩
 have HE:Hid (B8 AA b=Jl AA b AA.length 2):=Lib.hid (by rw[HP.out,hb,iQ];rfl);have hd3:AA.length<=3:=(Ay (Di.of hb).work).1;have hB2:=(Below.block k2 w.heap.size (by omega)).trans hB1;clear CB HP hB0 hB1 k1 k2 O1 K0;go_wp2_with fail
 refine (Jt w2).mono ?_;rintro e w3 ⟨rfl,hw3⟩;have k3:AC w2 w3:=by rw[hw3];exact (AC.refl w2).alloc _
 have hT3:w3.heap[w2.heap.size]? = some (.cells Nl 122 (0,0)):=by rw[hw3];exact heap_alloc_new _ _
 have y3:w2.heap.size<w3.heap.size:=by rw[hw3,AD];omega
 have O3:=O2.keep k3;have K3:=K2.trans k3;have hB3:=(Below.block k3 w.heap.size (by omega)).trans hB2;clear hw3 O2 K2 hB2 k3;go_wp2;go_loopw [3,5,6,14] (fun v0 _ _ i wr=>∃(k:Nat) (v:Value),v=v0/\k<=2/\i = .int .i64 k/\BM wr w0.heap.size v (Jl AA b AA.length k)/\AC w wr/\wr.heap[w.heap.size]? = some (.cells #[.slice aW AA.length cW,.slice aP b.AM.length cP,.slice aL b.AO.length cL,.slice aN b.AG.length cN,.slice aX b.AL.length cX,.slice aS b.sn.length cS,.slice aF b.fr.length cF,.slice aR b.rws.length cR] 36 (0,0))/\wr.heap[w2.heap.size]? = some (.cells Nl 122 (0,0))/\w3.heap.size<=wr.heap.size/\Hid (∀q,v.ownBlock=some q->q≠w2.heap.size)) (fun _ _ _ i _=>2-(intOf i).toNat)
 case atStart=>exact⟨0,_,rfl,Nat.zero_le _,rfl,O3,K3,hB3,hT3,Nat.le_refl _,Lib.hid (fun q hq=>by have e:w0.heap.size=q:=Option.some.inj hq;omega)⟩
 case round=>
  obtain⟨k,v,rfl,hk,rfl,ho,hK,hB,hT,hS,hO⟩:=hrel;clear O3 K3 hB3 hT3;by_cases hlt:k<2
  ·
   have k01:k=0\/k=1:=by omega
   rcases k01 with rfl|rfl
   ·
    obtain⟨q0,q1,q2⟩:=(JB hT).1;obtain⟨w4,hw4⟩:∃W:World,W=(wr.alloc (.cells #[.int .i64 0,.nilFunc,.nilFunc] 122)).setRow wr.heap.size #[.int .i64 ((0:Int)),.func (.func (132)) #[] #[],.func (.func (133)) #[] #[]]:=⟨_,rfl⟩;have hA:(wr.alloc (.cells #[.int .i64 0,.nilFunc,.nilFunc] 122)).heap[wr.heap.size]? = some (.cells #[.int .i64 0,.nilFunc,.nilFunc] 122 (0,0)):=heap_alloc_new _ _;have g4:(wr.alloc (.cells #[.int .i64 0,.nilFunc,.nilFunc] 122)).grownBy w4 (some wr.heap.size):=by rw[hw4];exact Af _ _ _
    have k4:AC wr w4:=((AC.refl wr).alloc _).grown g4 (fun q hq=>Nat.le_of_eq (Option.some.inj hq));have hQ4:w4.heap[wr.heap.size]? = some (.cells #[.int .i64 ((0:Int)),.func (.func (132)) #[] #[],.func (.func (133)) #[] #[]] 122 (0,0)):=by rw[hw4];exact setRow_heap _ _ _ _ _ _ hA
    have y4:wr.heap.size<w4.heap.size:=by have:=g4.size;rw[AD] at this;omega
    go_upto_region 7 with (first|refine wpList_store_row rfl 122 _ _ rfl wr.heap.size _ rfl rfl 122 _ hA I3 rfl (by simp[Value.oneCell']) ?_|fail)
    rw[<-hw4];clear hw4 hA q0 q1 q2 g4;have hB4:=(Below.block k4 w.heap.size (by omega)).trans hB;have hT4:=(Below.block k4 w2.heap.size (by omega)).trans hT;have o4:=ho.keep k4;have hO4:Hid (∀q,v.ownBlock=some q->q≠wr.heap.size/\q≠w2.heap.size):=Lib.hid (fun q hq=>⟨by have:=(World.ownsRow.lt ho q hq).2;omega,hO.out q hq⟩);have K4:=hK.trans k4;have CK:=fun (W:World) (kW:AC w W) (c:Nat) (hc:c<AA.length)=>CC 0 W kW hb c hc
    have f0:w4.cell? ⟨w.heap.size,0,none⟩=some (.slice aW AA.length cW):=by rw[cell_of_row w4 _ 0 _ _ _ hB4];rfl
    have s4:=k4.size;have hla:=Qu AA b AA.length 0;have HS:Hid (Jl AA b AA.length (1)=Jl AA b AA.length 0++Jm AA b 0 AA.length):=Lib.hid rfl;have HX:Hid (∀j,Xs AA b 0 j=true->Jm AA b 0 (j+1)=Jm AA b 0 j++[(0:Int)+(j:Int)]):=Lib.hid (fun j h=>VR h);have HY:Hid (∀j,Xs AA b 0 j=false->Jm AA b 0 (j+1)=Jm AA b 0 j):=Lib.hid (fun j h=>Sk h);have HL:Hid (∀j,(Jm AA b 0 j).length<=j):=Lib.hid (fun j=>Qv AA b 0 j);have OL:BM w4 w0.heap.size v (Jl AA b AA.length 0++Jm AA b 0 0):=by rw[show Jm AA b 0 0=[] from rfl,List.append_nil];exact o4
    generalize Jl AA b AA.length 0=LA at *;generalize hst:Jm AA b 0=LK at *;generalize Xs AA b 0=TK at *;clear hst o4 ho hK hB hT k4 hO;generalize wr.heap.size=Q at *;go_wp2;clear f0;go_loopw [3,6,21] (fun v0 _ i wr'=>∃(j:Nat) (v:Value),v=v0/\j<=AA.length/\i = .int .i64 j/\BM wr' w0.heap.size v (LA++LK j)/\AC w wr'/\wr'.heap[w.heap.size]? = some (.cells #[.slice aW AA.length cW,.slice aP b.AM.length cP,.slice aL b.AO.length cL,.slice aN b.AG.length cN,.slice aX b.AL.length cX,.slice aS b.sn.length cS,.slice aF b.fr.length cF,.slice aR b.rws.length cR] 36 (0,0))/\wr'.heap[Q]? = some (.cells #[.int .i64 ((0:Int)),.func (.func (132)) #[] #[],.func (.func (133)) #[] #[]] 122 (0,0))/\wr'.heap[w2.heap.size]? = some (.cells Nl 122 (0,0))/\w4.heap.size<=wr'.heap.size/\Hid (∀q,v.ownBlock=some q->q≠Q/\q≠w2.heap.size)) (fun _ _ i _=>AA.length-(intOf i).toNat)
    case atStart=>exact⟨0,_,rfl,Nat.zero_le _,rfl,OL,K4,hB4,hQ4,hT4,Nat.le_refl _,hO4⟩
    case round=>
     clear OL;obtain⟨j,v',rfl,hj,rfl,oj,Kj,lu,rG,hTj,sj,Y6⟩:=hrel;by_cases hjl:j<AA.length
     ·
      have j1:(0:Int)<=(j:Int):=Int.natCast_nonneg _;have j2:(j:Int)<(AA.length:Int):=by omega
      have t1:wr.cell? ⟨Q,1,none⟩=some (.func (.func 132) #[] #[]):=by rw[cell_of_row _ _ 1 _ _ _ rG];rfl
      go_wp2_with (first|refine wpList_load_row rfl 36 _ rfl w.heap.size rfl 36 _ (0,0) _ lu Tryz.underlying36 rfl AK ?_|fail)
      refine (CK _ Kj j hjl).mono ?_;rintro e w5 ⟨rfl,k5⟩;have o5:=oj.keep k5;have K5:=Kj.trans k5;have s5:=k5.size;have hB5:=(Below.block k5 w.heap.size (by omega)).trans lu;have hQ5:=(Below.block k5 Q (by omega)).trans rG;have hT5:=(Below.block k5 w2.heap.size (by omega)).trans hTj;have t0:w5.cell? ⟨Q,0,none⟩=some (.int .i64 0):=by rw[cell_of_row _ _ 0 _ _ _ hQ5];rfl
      have hll:=HL.out j;cases hc:TK j
      ·
       have HM:Hid (LK (j+1)=LK j):=Lib.hid (HY.out j hc);go_wp2;go_roundw;case rel=>exact⟨j+1,_,rfl,by omega,by go_num,by rw[HM.out];exact o5,K5,hB5,hQ5,hT5,by omega,Y6⟩
       case measure=>simp[intOf];omega
      ·
       have HM:Hid (LA++LK (j+1)=(LA++LK j)++[(j:Int)]):=Lib.hid (by rw[HX.out j hc,List.append_assoc];simp);have hll2:(LA++LK j).length<=20:=by rw[List.length_append];omega
       have jw:IntKind.i64.wrap ((0:Int)+(j:Int))=(0:Int)+(j:Int):=by rw[IntKind.wrap_i64];omega
       generalize LA++LK j=LL at *;go_wp2_with (at_builtin;refine wpList_append_own_at _ rfl _ _ 28 rfl w0.heap.size 2 i0 (.int .i64 0) 1 8 Tryz.underlying28 hi hz0 hz1 hz2 rfl (by decide) _ _ _ rfl (World.ownsRow.alloc o5 _) ⟨_,0,none⟩ 1 1 [.int .i64 ((j:Int))] rfl rfl ?c1 ?c2 ?c3 ?c4 ?c5 ?_)
       case c1=>
        intro j u hj
        match j,hj with
        | 0,hj=>simp at hj;subst hj;simp[Addr.add]
       case c2=>intro u hu;simp at hu;subst hu;rfl
       case c3=>unfold maxLen;omega
       case c4=>omega
       case c5=>simp;omega
       intro v7 w6 hown' hgrow _ hblk;have hK6:AC w w6:=(K5.alloc _).grown hgrow (fun q hq=>by have:=o5.ge q hq;omega);have st:=fun q (hq:q<w5.heap.size) (hne:∀z,v'.ownBlock=some z->z≠q)=>(hgrow.block q (by rw[AD];omega) (fun e=>hne q e.symm rfl)).trans (Below.block ((AC.refl w5).alloc _) q hq)
       have hB6:=(st w.heap.size (by omega) (fun z hz=>by have:=o5.ge z hz;omega)).trans hB5;have hQ6:=(st Q (by omega) (fun z hz=>(Y6.out z hz).1)).trans hQ5;have hT6:=(st w2.heap.size (by omega) (fun z hz=>(Y6.out z hz).2)).trans hT5;have s6:=hgrow.size;rw[AD] at s6
       have hO6:Hid (∀q,v7.ownBlock=some q->q≠Q/\q≠w2.heap.size):=Lib.hid (fun q hq=>by
        rcases hblk with e|e
        . exact Y6.out q (by rw[<-e];exact hq)
        . rw[e] at hq;have:=Option.some.inj hq;omega)
       clear hgrow hblk st;go_wp2;go_roundw;case rel=>exact⟨j+1,_,rfl,by omega,by go_num,by rw[HM.out];exact ES hown',hK6,hB6,hQ6,hT6,by omega,hO6⟩
       case measure=>simp[intOf];omega
     ·
      obtain rfl:j=AA.length:=by omega
      go_wp2;go_roundw;case rel=>exact⟨1,_,rfl,by omega,by go_num,by rw[HS.out];exact oj,Kj,lu,hTj,by omega,Lib.hid (fun q hq=>(Y6.out q hq).2)⟩
      case measure=>simp[intOf]
   ·
    obtain⟨q0,q1,q2⟩:=(JB hT).2;obtain⟨w4,hw4⟩:∃W:World,W=(wr.alloc (.cells #[.int .i64 0,.nilFunc,.nilFunc] 122)).setRow wr.heap.size #[.int .i64 ((10:Int)),.func (.func (104)) #[] #[],.func (.func (134)) #[] #[]]:=⟨_,rfl⟩;have hA:(wr.alloc (.cells #[.int .i64 0,.nilFunc,.nilFunc] 122)).heap[wr.heap.size]? = some (.cells #[.int .i64 0,.nilFunc,.nilFunc] 122 (0,0)):=heap_alloc_new _ _;have g4:(wr.alloc (.cells #[.int .i64 0,.nilFunc,.nilFunc] 122)).grownBy w4 (some wr.heap.size):=by rw[hw4];exact Af _ _ _
    have k4:AC wr w4:=((AC.refl wr).alloc _).grown g4 (fun q hq=>Nat.le_of_eq (Option.some.inj hq));have hQ4:w4.heap[wr.heap.size]? = some (.cells #[.int .i64 ((10:Int)),.func (.func (104)) #[] #[],.func (.func (134)) #[] #[]] 122 (0,0)):=by rw[hw4];exact setRow_heap _ _ _ _ _ _ hA
    have y4:wr.heap.size<w4.heap.size:=by have:=g4.size;rw[AD] at this;omega
    go_upto_region 7 with (first|refine wpList_store_row rfl 122 _ _ rfl wr.heap.size _ rfl rfl 122 _ hA I3 rfl (by simp[Value.oneCell']) ?_|fail)
    rw[<-hw4];clear hw4 hA q0 q1 q2 g4;have hB4:=(Below.block k4 w.heap.size (by omega)).trans hB;have hT4:=(Below.block k4 w2.heap.size (by omega)).trans hT;have o4:=ho.keep k4;have hO4:Hid (∀q,v.ownBlock=some q->q≠wr.heap.size/\q≠w2.heap.size):=Lib.hid (fun q hq=>⟨by have:=(World.ownsRow.lt ho q hq).2;omega,hO.out q hq⟩);have K4:=hK.trans k4;have CK:=fun (W:World) (kW:AC w W) (c:Nat) (hc:c<AA.length)=>CC 1 W kW hb c hc
    have f0:w4.cell? ⟨w.heap.size,0,none⟩=some (.slice aW AA.length cW):=by rw[cell_of_row w4 _ 0 _ _ _ hB4];rfl
    have s4:=k4.size;have hla:=Qu AA b AA.length 1;have HS:Hid (Jl AA b AA.length (2)=Jl AA b AA.length 1++Jm AA b 1 AA.length):=Lib.hid rfl;have HX:Hid (∀j,Xs AA b 1 j=true->Jm AA b 1 (j+1)=Jm AA b 1 j++[(10:Int)+(j:Int)]):=Lib.hid (fun j h=>VR h);have HY:Hid (∀j,Xs AA b 1 j=false->Jm AA b 1 (j+1)=Jm AA b 1 j):=Lib.hid (fun j h=>Sk h);have HL:Hid (∀j,(Jm AA b 1 j).length<=j):=Lib.hid (fun j=>Qv AA b 1 j);have OL:BM w4 w0.heap.size v (Jl AA b AA.length 1++Jm AA b 1 0):=by rw[show Jm AA b 1 0=[] from rfl,List.append_nil];exact o4
    generalize Jl AA b AA.length 1=LA at *;generalize hst:Jm AA b 1=LK at *;generalize Xs AA b 1=TK at *;clear hst o4 ho hK hB hT k4 hO;generalize wr.heap.size=Q at *;go_wp2;clear f0;go_loopw [3,6,21] (fun v0 _ i wr'=>∃(j:Nat) (v:Value),v=v0/\j<=AA.length/\i = .int .i64 j/\BM wr' w0.heap.size v (LA++LK j)/\AC w wr'/\wr'.heap[w.heap.size]? = some (.cells #[.slice aW AA.length cW,.slice aP b.AM.length cP,.slice aL b.AO.length cL,.slice aN b.AG.length cN,.slice aX b.AL.length cX,.slice aS b.sn.length cS,.slice aF b.fr.length cF,.slice aR b.rws.length cR] 36 (0,0))/\wr'.heap[Q]? = some (.cells #[.int .i64 ((10:Int)),.func (.func (104)) #[] #[],.func (.func (134)) #[] #[]] 122 (0,0))/\wr'.heap[w2.heap.size]? = some (.cells Nl 122 (0,0))/\w4.heap.size<=wr'.heap.size/\Hid (∀q,v.ownBlock=some q->q≠Q/\q≠w2.heap.size)) (fun _ _ i _=>AA.length-(intOf i).toNat)
    case atStart=>exact⟨0,_,rfl,Nat.zero_le _,rfl,OL,K4,hB4,hQ4,hT4,Nat.le_refl _,hO4⟩
    case round=>
     clear OL;obtain⟨j,v',rfl,hj,rfl,oj,Kj,lu,rG,hTj,sj,Y6⟩:=hrel;by_cases hjl:j<AA.length
     ·
      have j1:(0:Int)<=(j:Int):=Int.natCast_nonneg _;have j2:(j:Int)<(AA.length:Int):=by omega
      have t1:wr.cell? ⟨Q,1,none⟩=some (.func (.func 104) #[] #[]):=by rw[cell_of_row _ _ 1 _ _ _ rG];rfl
      go_wp2_with (first|refine wpList_load_row rfl 36 _ rfl w.heap.size rfl 36 _ (0,0) _ lu Tryz.underlying36 rfl AK ?_|fail)
      refine (CK _ Kj j hjl).mono ?_;rintro e w5 ⟨rfl,k5⟩;have o5:=oj.keep k5;have K5:=Kj.trans k5;have s5:=k5.size;have hB5:=(Below.block k5 w.heap.size (by omega)).trans lu;have hQ5:=(Below.block k5 Q (by omega)).trans rG;have hT5:=(Below.block k5 w2.heap.size (by omega)).trans hTj;have t0:w5.cell? ⟨Q,0,none⟩=some (.int .i64 10):=by rw[cell_of_row _ _ 0 _ _ _ hQ5];rfl
      have hll:=HL.out j;cases hc:TK j
      ·
       have HM:Hid (LK (j+1)=LK j):=Lib.hid (HY.out j hc);go_wp2;go_roundw;case rel=>exact⟨j+1,_,rfl,by omega,by go_num,by rw[HM.out];exact o5,K5,hB5,hQ5,hT5,by omega,Y6⟩
       case measure=>simp[intOf];omega
      ·
       have HM:Hid (LA++LK (j+1)=(LA++LK j)++[10+(j:Int)]):=Lib.hid (by rw[HX.out j hc,List.append_assoc]);have hll2:(LA++LK j).length<=20:=by rw[List.length_append];omega
       have jw:IntKind.i64.wrap ((10:Int)+(j:Int))=(10:Int)+(j:Int):=by rw[IntKind.wrap_i64];omega
       generalize LA++LK j=LL at *;go_wp2_with (at_builtin;refine wpList_append_own_at _ rfl _ _ 28 rfl w0.heap.size 2 i0 (.int .i64 0) 1 8 Tryz.underlying28 hi hz0 hz1 hz2 rfl (by decide) _ _ _ rfl (World.ownsRow.alloc o5 _) ⟨_,0,none⟩ 1 1 [.int .i64 (10+(j:Int))] rfl rfl ?c1 ?c2 ?c3 ?c4 ?c5 ?_)
       case c1=>
        intro j u hj
        match j,hj with
        | 0,hj=>simp at hj;subst hj;simp[Addr.add]
       case c2=>intro u hu;simp at hu;subst hu;rfl
       case c3=>unfold maxLen;omega
       case c4=>omega
       case c5=>simp;omega
       intro v7 w6 hown' hgrow _ hblk;have hK6:AC w w6:=(K5.alloc _).grown hgrow (fun q hq=>by have:=o5.ge q hq;omega);have st:=fun q (hq:q<w5.heap.size) (hne:∀z,v'.ownBlock=some z->z≠q)=>(hgrow.block q (by rw[AD];omega) (fun e=>hne q e.symm rfl)).trans (Below.block ((AC.refl w5).alloc _) q hq)
       have hB6:=(st w.heap.size (by omega) (fun z hz=>by have:=o5.ge z hz;omega)).trans hB5;have hQ6:=(st Q (by omega) (fun z hz=>(Y6.out z hz).1)).trans hQ5;have hT6:=(st w2.heap.size (by omega) (fun z hz=>(Y6.out z hz).2)).trans hT5;have s6:=hgrow.size;rw[AD] at s6
       have hO6:Hid (∀q,v7.ownBlock=some q->q≠Q/\q≠w2.heap.size):=Lib.hid (fun q hq=>by
        rcases hblk with e|e
        . exact Y6.out q (by rw[<-e];exact hq)
        . rw[e] at hq;have:=Option.some.inj hq;omega)
       clear hgrow hblk st;go_wp2;go_roundw;case rel=>exact⟨j+1,_,rfl,by omega,by go_num,by rw[HM.out];exact ES hown',hK6,hB6,hQ6,hT6,by omega,hO6⟩
       case measure=>simp[intOf];omega
     ·
      obtain rfl:j=AA.length:=by omega
      go_wp2;go_roundw;case rel=>exact⟨2,_,rfl,by omega,by go_num,by rw[HS.out];exact oj,Kj,lu,hTj,by omega,Lib.hid (fun q hq=>(Y6.out q hq).2)⟩
      case measure=>simp[intOf]
  ·
   obtain rfl:k=2:=by omega
   go_wp2;go_ret;exact⟨_,rfl,by rw[HE.out];exact (ho.Az (by omega)).row,hK⟩
end Go.Proofs.YtnmelakgmgenjaaGreat
