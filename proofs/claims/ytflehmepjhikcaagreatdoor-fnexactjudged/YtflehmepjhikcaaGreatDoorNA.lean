/- Gathered texts. -/
import Derived.Test.YtflehmepjhikcaaGreatDoorMG
import Derived.Lib.SmallJoins
import Derived.Outline
import Derived.RegionTactic
import Derived.OwnWalk
import Derived.Lib.Hide
import Derived.Deep.RegionHeld3
import Derived.Deep.QuietTactic
import Derived.BigQuiet
set_option maxRecDepth 100000
set_option maxHeartbeats 8000000
namespace Go.Proofs.YtflehmepjhikcaaGreatDoor
open Go.ChangeShapes Go.WideShapes Go.ChangeAt Go.RowKit
abbrev GB:=@Lib.hid
abbrev KB2:=@Nat.not_lt_zero
theorem Uy (k p v g:Int)(w:World):
  Calls Tryz.prog 74 #[FL k p v g] w fun e w'=>e = .returned (FL k p v g)/\AC w w':=by
 go_enter Tryz.func74,Tryz.ntmps74
 go_wp2;refine bodyPost_ret (Aw (by rfl) _ _ (w.heap.size+1) _ _ _ _ rfl (by simp only[Bs,AD];repeat (first|exact KAP rfl|exact KAP trivial|rw[KAQ (by omega)])) Tryz.underlying82 rfl (by kernel_rfl)) rfl ?_;exact⟨rfl,(((AC.refl w).alloc _).alloc _).alloc _⟩
theorem WH (w:World)(v:Value)(ds:List Dd)(h:Jg w v ds)(left:Int)(h0:0<=left)(h1:left<=1048576)(hn:ds.length<=maxLen):
  Calls Tryz.prog 39 #[v,.int .i64 left] w fun e w'=>e = .returned (.int .i64 (if (ds.length:Int)<=left then left-ds.length else -1))/\w'=w:=by
 obtain⟨a,cap,rfl,_⟩:=h;have hm:maxLen=9223372036854775807:=rfl;by_cases hl:(ds.length:Int)<=left
 ·
  rw[KAP hl];go_enter Tryz.func39,Tryz.ntmps39
  go_wp2;go_ret;exact⟨rfl,rfl⟩
 ·
  rw[KAQ hl];go_enter Tryz.func39,Tryz.ntmps39
  go_wp2;go_ret;exact⟨rfl,rfl⟩
theorem kX (w:World)(v:Value)(ds:List Dd)(h:Jg w v ds)(hn:ds.length<=1048576):
  Calls Tryz.prog 41 #[v] w fun e w'=>∃v',e = .returned v'/\Hw w' w.heap.size v' ds/\AC w w':=by
 obtain⟨a,c,rfl,h⟩:=h;obtain⟨i0,hi,hz0,hz1,hz2⟩:=info_parts Tryz.Z4;go_enter Tryz.func41,Tryz.ntmps41
 go_wp2_with (at_make;refine wpList_make_full _ rfl _ _ 72 rfl w.heap.size 82 i0 (.agg #[.int .i64 0,.int .i64 0,.int .i64 0,.int .i64 0]) 4 Tryz.underlying72 hi hz0 hz1 .i64 .i64 _ _ ds.length rfl rfl rfl rfl (by rw[hz2];omega) (by unfold maxLen;omega) (KAM _) ?_;intro w1 hown hgrow)
 have hk1:AC w w1:=(AC.refl w).grown hgrow (by simp);have B1:=Og.mh hown;clear hown hgrow hi hz0 hz1 hz2;go_loopw [4] (fun i wr=>∃j:Nat,j<=ds.length/\i = .int .i64 j/\Og wr w.heap.size (ds.length*4)/\(∀i,i<j->Tl wr w.heap.size (i*4) (ds.getD i zD))/\AC w wr) (fun i _=>ds.length-(intOf i).toNat)
 case atStart=>exact⟨0,KAb _,rfl,B1,fun i hi=>absurd hi (KB2 _),hk1⟩
 case round=>
  obtain⟨j,hj,rfl,hB,hA,hK⟩:=hrel;clear B1 hk1;by_cases hlt:j<ds.length
  ·
   rcases h with h|⟨b,o,rfl,hb,hc⟩
   . exfalso;rw[h] at hlt;simp at hlt
   obtain⟨d0,d1,d2,d3⟩:=(hc j hlt).keep hb hK;obtain⟨d,hd⟩:∃d,d=ds.getD j zD:=⟨_,rfl⟩;have HD:=GB hd;rw[<-hd] at d0 d1 d2 d3;have hbs:b<wr.heap.size:=KAC hb hK.size;clear hc hd;go_wp2_with fail
   refine (Uy _ _ _ _ _).mono ?_;rintro e w2 ⟨rfl,k2⟩;have B2:=hB.kept k2.grownBy (by simp);obtain⟨u0,e0⟩:=B2.cell (show j*4<ds.length*4 by omega);obtain⟨u1,e1⟩:=B2.cell (show j*4+1<ds.length*4 by omega);obtain⟨u2,e2⟩:=B2.cell (show j*4+2<ds.length*4 by omega);obtain⟨u3,e3⟩:=B2.cell (show j*4+3<ds.length*4 by omega);have f0:=B2.free (j*4);have f1:=B2.free (j*4+1);have f2:=B2.free (j*4+2);have f3:=B2.free (j*4+3);go_wp2;go_roundw
   case rel=>
    refine⟨j+1,by omega,by go_num,(((B2.set _ _).set _ _).set _ _).set _ _,fun i hi=>?_,((((hK.trans k2).set (KAM _) _ _).set (KAM _) _ _).set (KAM _) _ _).set (KAM _) _ _⟩;by_cases hij:i=j
    ·
     subst hij;rw[<-HD.out];exact YC B2 (by omega)
    . exact putD ((hA i (by omega)).keep hB.lt k2) (by omega)
   case measure=>simp[intOf];omega
  ·
   obtain rfl:j=ds.length:=by omega
   go_wp2;go_ret;exact⟨_,rfl,⟨_,0,rfl,.inr ⟨_,rfl,KAM _,hB,hA⟩⟩,hK⟩
theorem kY (w:World)(v:Value)(AA:List (List Dd))(h:Fw w v AA)(hn:AA.length<=1048576)(hm:∀i,i<AA.length->(AA.getD i []).length<=1048576):
  Calls Tryz.prog 17 #[v] w fun e w'=>∃v',e = .returned v'/\nY w' w.heap.size v' AA/\AC w w':=by
 obtain⟨a,c,rfl,h⟩:=h;obtain⟨i0,hi,hz0,hz1,hz2⟩:=info_parts Tryz.UP;go_enter Tryz.func17,Tryz.ntmps17
 go_wp2_with (at_make;refine wpList_make_full _ rfl _ _ 24 rfl w.heap.size 72 i0 (.slice none 0 0) 1 Tryz.underlying24 hi hz0 hz1 .i64 .i64 _ _ AA.length rfl rfl rfl rfl (by rw[hz2];omega) (by unfold maxLen;omega) (KAM _) ?_;intro w1 hown hgrow)
 have hk1:AC w w1:=(AC.refl w).grown hgrow (by simp);have B1:=Og.mh hown;rw[KCj] at B1;clear hown hgrow hi hz0 hz1 hz2;go_loopw [4] (fun i wr=>∃(j:Nat) (V:Nat->Value),j<=AA.length/\i = .int .i64 j/\Og wr w.heap.size AA.length/\(∀i,i<j->wr.cell? ⟨w.heap.size,i,none⟩=some (V i)/\Hw wr (w.heap.size+1) (V i) (AA.getD i []))/\lH w.heap.size j V (fun i=>AA.getD i [])/\AC w wr) (fun i _=>AA.length-(intOf i).toNat)
 case atStart=>exact⟨0,fun _ => .nilIface,KAb _,rfl,B1,fun i hi=>absurd hi (KB2 _),⟨fun i hi=>absurd hi (KB2 _),fun i j _ hj=>absurd hj (KB2 _)⟩,hk1⟩
 case round=>
  obtain⟨j,V,hj,rfl,hB,hV,hA,hK⟩:=hrel;clear B1 hk1;by_cases hlt:j<AA.length
  ·
   rcases h with h|⟨b,o,rfl,hb,hc⟩
   . exfalso;rw[h] at hlt;simp at hlt
   obtain⟨u,e0,r0⟩:=hc j hlt;have e1:=(hK.cell hb).trans e0;have r1:=r0.keep hK;have hbs:b<wr.heap.size:=KAC hb hK.size;have hmj:=hm j hlt;clear hc e0 r0;go_wp2_with fail
   refine (kX _ _ _ r1 hmj).mono ?_;rintro e w2 ⟨v',rfl,o2,k2⟩
   obtain⟨a',cap',hv'⟩:∃a' cap',v' = .slice a' (AA.getD j []).length cap':=by
    obtain⟨a',cap',h,_⟩:=o2;exact⟨a',_,h⟩
   generalize hlen':(AA.getD j []).length=len' at hv';clear hlen';subst hv';have B2:=hB.kept k2.grownBy (by simp);obtain⟨u0,q0⟩:=B2.cell hlt;have f0:=B2.free j;have hBl:=hB.lt;go_wp2;go_roundw
   case rel=>
    refine⟨j+1,fun i=>if i=j then .slice a' len' cap' else V i,by omega,by go_num,B2.set _ _,fun i hi=>?_,⟨fun i hi hne=>?_,fun i i' hii hi' hne hne'=>?_⟩,(hK.trans k2).set (KAM _) _ _⟩
    ·
     by_cases hij:i=j
     ·
      subst hij;refine⟨by simp[World.cell?_setCell_same _ _ _ q0],?_⟩;simp only[KAP];refine (o2.kept (JB w2 w.heap.size i _) ?_).mono (by omega);by_cases h0:AA.getD i []=[]
      . exact .inl h0
      ·
       obtain⟨g,hg,hgb,_⟩:=o2.block h0;refine .inr (fun e=>?_);rw[hg] at e;simp at e;omega
     ·
      simp only[KAQ hij];obtain⟨c1,c2⟩:=hV i (by omega);refine⟨?_,?_⟩
      ·
       rw[KCO _ _ _ _ (by intro e;apply hij;injection e with _ e2;exact e2.symm),k2.cell hBl];exact c1
      ·
       refine (c2.keep k2).kept (JB w2 w.heap.size j _) ?_;by_cases h0:AA.getD i []=[]
       . exact .inl h0
       . exact .inr (hA.1 i (by omega) h0)
    ·
     by_cases hij:i=j
     ·
      subst hij;simp only[KAP];obtain⟨g,hg,hgb,_⟩:=o2.block hne;intro e;rw[hg] at e;simp at e;omega
     ·
      simp only[KAQ hij];exact hA.1 i (by omega) hne
    ·
     have hi0:¬i=j:=by omega
     simp only[KAQ hi0];by_cases hij:i'=j
     ·
      subst hij;simp only[KAP];obtain⟨g,hg,_,hgs⟩:=(hV i (by omega)).2.block hne;obtain⟨g',hg',hgb',_⟩:=o2.block hne';rw[hg,hg'];simp;omega
     ·
      simp only[KAQ hij];exact hA.2 i i' hii (by omega) hne hne'
   case measure=>simp[intOf];omega
  ·
   obtain rfl:j=AA.length:=by omega
   go_wp2;go_ret;exact⟨_,rfl,⟨_,_,rfl,.inr ⟨_,V,rfl,KAM _,hB,fun i hi=>⟨(hV i hi).1,(hV i hi).2.mono (by omega)⟩,hA⟩⟩,hK⟩
theorem Pr (d:List Dd):∀l:List (List Dd),CQ (l++[d])=CQ l+d.length
 | []=>by simp[CQ]
 |x::r=>by rw[KBr,CQ,CQ,Pr d r];omega
theorem J6 {α:Type}(l:List α)(k:Nat)(z:α)(h:k<l.length):l.take (k+1)=l.take k++[l.getD k z]:=by
 rw[KBQ,KAH h,IT,KAH h];rfl
theorem Ps (l:List (List Dd))(k:Nat)(h:k<l.length):CQ (l.take (k+1))=CQ (l.take k)+(l.getD k []).length:=by
 rw[J6 l k [] h,Pr]
theorem aY (l:List (List Dd))(k:Nat)(h:k<l.length):(l.getD k []).length<=CQ l:=by
 have h1:=Ps l k h;have h2:=Qv l (k+1) h;omega
def iY (d d':Dd):Bool:=decide (d=d')
theorem NG (d d':Dd)(w:World):
  Calls Tryz.prog 75 #[dV d,dV d'] w fun e w'=>e = .returned (.bool (iY d d'))/\AC w w':=by
 obtain⟨k,p,v,g⟩:=d;obtain⟨k',p',v',g'⟩:=d';by_cases h1:k=k'
 ·
  subst h1;by_cases h2:p=p'
  ·
   subst h2;by_cases h3:v=v'
   ·
    subst h3;by_cases h4:g=g'
    ·
     subst h4;go_enter Tryz.func75,Tryz.ntmps75
     go_wp2;go_ret;exact⟨BE (by simp[iY]),((AC.refl w).alloc _).alloc _⟩
    ·
     have hb:(g != g')=true:=by simpa using h4
     go_enter Tryz.func75,Tryz.ntmps75
     go_wp2;go_ret;exact⟨BE (by simp[iY,h4]),((AC.refl w).alloc _).alloc _⟩
   ·
    have hb:(v != v')=true:=by simpa using h3
    go_enter Tryz.func75,Tryz.ntmps75
    go_wp2;go_ret;exact⟨BE (by simp[iY,h3]),((AC.refl w).alloc _).alloc _⟩
  ·
   have hb:(p != p')=true:=by simpa using h2
   go_enter Tryz.func75,Tryz.ntmps75
   go_wp2;go_ret;exact⟨BE (by simp[iY,h2]),((AC.refl w).alloc _).alloc _⟩
 ·
  have hb:(k != k')=true:=by simpa using h1
  go_enter Tryz.func75,Tryz.ntmps75
  go_wp2;go_ret;exact⟨BE (by simp[iY,h1]),((AC.refl w).alloc _).alloc _⟩
theorem LO {α:Type}{xs ys:List α}{k:Nat}(z:α)(hx:k<xs.length)(hy:k<ys.length)(h:xs.take k=ys.take k)(e:xs.getD k z=ys.getD k z):xs.take (k+1)=ys.take (k+1):=by
 rw[J6 xs k z hx,J6 ys k z hy,h,e]
theorem mg {α:Type}{xs ys:List α}{k:Nat}{z:α}(h:xs.getD k z≠ys.getD k z):xs≠ys:=by
 intro e;subst e;exact h rfl
def Np (xs ys:List Dd):Bool:=decide (xs=ys)
theorem VT (w:World)(v1 v2:Value)(xs ys:List Dd)(h1:Jg w v1 xs)(h2:Jg w v2 ys)(hx:xs.length<=1048576):
  Calls Tryz.prog 43 #[v1,v2] w fun e w'=>e = .returned (.bool (Np xs ys))/\AC w w':=by
 obtain⟨a1,c1,rfl,h1⟩:=h1;obtain⟨a2,c2,rfl,h2⟩:=h2;by_cases hl:xs.length=ys.length
 ·
  have hlb:((xs.length:Int) != (ys.length:Int))=false:=by simp[hl]
  have hl1:xs.length<=ys.length:=by omega
  have hl2:ys.length<=xs.length:=by omega
  clear hl;go_enter Tryz.func43,Tryz.ntmps43
  go_wp2;go_loopw [5] (fun i wr=>∃k:Nat,k<=xs.length/\i = .int .i64 k/\xs.take k=ys.take k/\AC w wr) (fun i _=>xs.length-(intOf i).toNat)
  case atStart=>exact⟨0,KAb _,rfl,by simp,AC.refl _⟩
  case round=>
   obtain⟨k,hk,rfl,ht,hK⟩:=hrel;by_cases hlt:k<xs.length
   ·
    rcases h1 with h|⟨b1,o1,rfl,hb1,hc1⟩
    . exfalso;rw[h] at hlt;simp at hlt
    rcases h2 with h|⟨b2,o2,rfl,hb2,hc2⟩
    . exfalso;rw[h] at hl1;simp only[KCG] at hl1;omega
    have hy2:k<ys.length:=by omega
    obtain⟨d0,d1,d2,d3⟩:=(hc1 k hlt).keep hb1 hK;obtain⟨e0,e1,e2,e3⟩:=(hc2 k hy2).keep hb2 hK;have HT:=GB ht;obtain⟨p,hp⟩:∃p,p=xs.getD k zD:=⟨_,rfl⟩;obtain⟨q,hq⟩:∃q,q=ys.getD k zD:=⟨_,rfl⟩;have HP:=GB hp;have HQ:=GB hq;rw[<-hp] at d0 d1 d2 d3;rw[<-hq] at e0 e1 e2 e3;clear hc1 hc2 hp hq ht;have i1:(0:Int)<=(k:Int):=KAK _;have i2:(k:Int)<(xs.length:Int):=by omega
    have i3:(k:Int)<(ys.length:Int):=by omega
    have z1:b1<wr.drew.heap.size:=KAC hb1 hK.size;have z2:b2<wr.drew.heap.size:=KAC hb2 hK.size;cases he:iY p q
    ·
     have HE:Hid (Np xs ys=false):=by
      refine GB (KAi (mg (k:=k) (z:=zD) ?_));rw[<-HP.out,<-HQ.out]
      simpa [iY] using he
     go_wp2_with fail
     go_region_held3 (fun w'=>w'.cell? ⟨b1,o1+k*4,none⟩=some (.int .i64 p.1)/\w'.cell? ⟨b1,o1+k*4+1,none⟩=some (.int .i64 p.2.1)/\w'.cell? ⟨b1,o1+k*4+2,none⟩=some (.int .i64 p.2.2.1)/\w'.cell? ⟨b1,o1+k*4+3,none⟩=some (.int .i64 p.2.2.2)/\w'.cell? ⟨b2,o2+k*4,none⟩=some (.int .i64 q.1)/\w'.cell? ⟨b2,o2+k*4+1,none⟩=some (.int .i64 q.2.1)/\w'.cell? ⟨b2,o2+k*4+2,none⟩=some (.int .i64 q.2.2.1)/\w'.cell? ⟨b2,o2+k*4+3,none⟩=some (.int .i64 q.2.2.2))
      (first|go_keep|(go_split_ands;refine⟨?_,?_,?_,?_,?_,?_,?_,?_⟩<;>(rw[kk.cell (by assumption)];assumption)))
      ((go_at_call 75;refine (NG p q _).mono ?_;rintro e wz ⟨rfl,kk⟩))
     all_goals
      go_wp2;go_ret;exact⟨by rw[HE.out];rfl,hK.drew.trans kk⟩
    ·
     have HE:Hid (xs.take (k+1)=ys.take (k+1)):=by
      refine GB (LO zD hlt hy2 HT.out ?_);rw[<-HP.out,<-HQ.out]
      simpa [iY] using he
     go_wp2_with fail
     go_region_held3 (fun w'=>w'.cell? ⟨b1,o1+k*4,none⟩=some (.int .i64 p.1)/\w'.cell? ⟨b1,o1+k*4+1,none⟩=some (.int .i64 p.2.1)/\w'.cell? ⟨b1,o1+k*4+2,none⟩=some (.int .i64 p.2.2.1)/\w'.cell? ⟨b1,o1+k*4+3,none⟩=some (.int .i64 p.2.2.2)/\w'.cell? ⟨b2,o2+k*4,none⟩=some (.int .i64 q.1)/\w'.cell? ⟨b2,o2+k*4+1,none⟩=some (.int .i64 q.2.1)/\w'.cell? ⟨b2,o2+k*4+2,none⟩=some (.int .i64 q.2.2.1)/\w'.cell? ⟨b2,o2+k*4+3,none⟩=some (.int .i64 q.2.2.2))
      (first|go_keep|(go_split_ands;refine⟨?_,?_,?_,?_,?_,?_,?_,?_⟩<;>(rw[kk.cell (by assumption)];assumption)))
      ((go_at_call 75;refine (NG p q _).mono ?_;rintro e wz ⟨rfl,kk⟩))
     all_goals
      go_wp2;go_roundw;case rel=>exact⟨k+1,by omega,by go_num,HE.out,hK.drew.trans kk⟩
      case measure=>simp[intOf];omega
   ·
    obtain rfl:k=xs.length:=by omega
    have HE:Hid (Np xs ys=true):=by
     refine GB (KAl ?_);rw[KBK,KBS hl2] at ht;exact ht
    clear ht;go_wp2;go_ret;exact⟨by rw[HE.out];rfl,hK⟩
 ·
  have hlb:((xs.length:Int) != (ys.length:Int))=true:=by simp;omega
  have HE:Hid (Np xs ys=false):=GB (KAi (fun e=>hl (by rw[e])));clear hl;go_enter Tryz.func43,Tryz.ntmps43
  go_wp2;go_ret;exact⟨by rw[HE.out];rfl,AC.refl _⟩
def Pu (xs ys:List (List Dd)):Bool:=decide (xs=ys)
theorem iZ (w:World)(v1 v2:Value)(xs ys:List (List Dd))(h1:Fw w v1 xs)(h2:Fw w v2 ys)(hx:xs.length<=1048576)(hm:∀i,i<xs.length->(xs.getD i []).length<=1048576):
  Calls Tryz.prog 19 #[v1,v2] w fun e w'=>e = .returned (.bool (Pu xs ys))/\AC w w':=by
 obtain⟨a1,c1,rfl,h1⟩:=h1;obtain⟨a2,c2,rfl,h2⟩:=h2;by_cases hl:xs.length=ys.length
 ·
  have hlb:((xs.length:Int) != (ys.length:Int))=false:=by simp[hl]
  have hl1:xs.length<=ys.length:=by omega
  have hl2:ys.length<=xs.length:=by omega
  clear hl;go_enter Tryz.func19,Tryz.ntmps19
  go_wp2;go_loopw [5] (fun i wr=>∃k:Nat,k<=xs.length/\i = .int .i64 k/\xs.take k=ys.take k/\AC w wr) (fun i _=>xs.length-(intOf i).toNat)
  case atStart=>exact⟨0,KAb _,rfl,by simp,AC.refl _⟩
  case round=>
   obtain⟨k,hk,rfl,ht,hK⟩:=hrel;by_cases hlt:k<xs.length
   ·
    rcases h1 with h|⟨b1,o1,rfl,hb1,hc1⟩
    . exfalso;rw[h] at hlt;simp at hlt
    rcases h2 with h|⟨b2,o2,rfl,hb2,hc2⟩
    . exfalso;rw[h] at hl1;simp only[KCG] at hl1;omega
    have hy2:k<ys.length:=by omega
    obtain⟨u1,e1,r1⟩:=hc1 k hlt;obtain⟨u2,e2,r2⟩:=hc2 k hy2;have d1:=(hK.cell hb1).trans e1;have d2:=(hK.cell hb2).trans e2;have r1:=r1.keep hK;have r2:=r2.keep hK;have HT:=GB ht;have hmk:=hm k hlt;clear hc1 hc2 ht e1 e2;obtain⟨p,hp⟩:∃p,p=xs.getD k []:=⟨_,rfl⟩;obtain⟨q,hq⟩:∃q,q=ys.getD k []:=⟨_,rfl⟩;have HP:=GB hp;have HQ:=GB hq;rw[<-hp] at r1 hmk;rw[<-hq] at r2;clear hp hq;have i1:(0:Int)<=(k:Int):=KAK _;have i2:(k:Int)<(xs.length:Int):=by omega
    have i3:(k:Int)<(ys.length:Int):=by omega
    have z1:b1<wr.drew.heap.size:=KAC hb1 hK.size;have z2:b2<wr.drew.heap.size:=KAC hb2 hK.size;cases he:Np p q
    ·
     have HE:Hid (Pu xs ys=false):=by
      refine GB (KAi (mg (k:=k) (z:=[]) ?_));rw[<-HP.out,<-HQ.out]
      simpa [Np] using he
     go_wp2_with fail
     go_region_held3 (fun w'=>w'.cell? ⟨b1,o1+k,none⟩=some u1/\w'.cell? ⟨b2,o2+k,none⟩=some u2)
      (first|go_keep|(go_split_ands;refine⟨?_,?_⟩<;>(rw[kk.cell (by assumption)];assumption)))
      ((go_at_call 43;refine (VT _ _ _ _ _ (r1.keep ((AC.refl wr).drew)) (r2.keep ((AC.refl wr).drew)) hmk).mono ?_;rintro e wz ⟨rfl,kk⟩))
     all_goals
      go_wp2;go_ret;exact⟨by rw[HE.out];rfl,hK.drew.trans kk⟩
    ·
     have HE:Hid (xs.take (k+1)=ys.take (k+1)):=by
      refine GB (LO [] hlt hy2 HT.out ?_);rw[<-HP.out,<-HQ.out]
      simpa [Np] using he
     go_wp2_with fail
     go_region_held3 (fun w'=>w'.cell? ⟨b1,o1+k,none⟩=some u1/\w'.cell? ⟨b2,o2+k,none⟩=some u2)
      (first|go_keep|(go_split_ands;refine⟨?_,?_⟩<;>(rw[kk.cell (by assumption)];assumption)))
      ((go_at_call 43;refine (VT _ _ _ _ _ (r1.keep ((AC.refl wr).drew)) (r2.keep ((AC.refl wr).drew)) hmk).mono ?_;rintro e wz ⟨rfl,kk⟩))
     all_goals
      go_wp2;go_roundw;case rel=>exact⟨k+1,by omega,by go_num,HE.out,hK.drew.trans kk⟩
      case measure=>simp[intOf];omega
   ·
    obtain rfl:k=xs.length:=by omega
    have HE:Hid (Pu xs ys=true):=by
     refine GB (KAl ?_);rw[KBK,KBS hl2] at ht;exact ht
    clear ht;go_wp2;go_ret;exact⟨by rw[HE.out];rfl,hK⟩
 ·
  have hlb:((xs.length:Int) != (ys.length:Int))=true:=by simp;omega
  have HE:Hid (Pu xs ys=false):=GB (KAi (fun e=>hl (by rw[e])));clear hl;go_enter Tryz.func19,Tryz.ntmps19
  go_wp2;go_ret;exact⟨by rw[HE.out];rfl,AC.refl _⟩
theorem kV (w:World)(v:Value)(AA:List (List Dd))(h:Fw w v AA)(left:Int)(h0:0<=left)(h1:left<=1048576)(hn:AA.length<=maxLen)(hm:∀i,i<AA.length->(AA.getD i []).length<=maxLen):
  Calls Tryz.prog 15 #[v,.int .i64 left] w fun e w'=>∃r:Int,e = .returned (.int .i64 r)/\w'=w/\(r<0\/((AA.length+CQ AA:Int)<=left/\r<=left)):=by
 have hM:maxLen=9223372036854775807:=rfl;obtain⟨a,c,rfl,h⟩:=h;by_cases hl:(AA.length:Int)<=left
 ·
  go_enter Tryz.func15,Tryz.ntmps15
  go_wp2;go_loop [1,5] (fun l i=>∃(k:Nat) (x:Int),k<=AA.length/\i = .int .i64 k/\l = .int .i64 x/\0<=x/\x=left-AA.length-CQ (AA.take k)) (fun _ i=>AA.length-(intOf i).toNat)
  case atStart=>exact⟨0,_,KAb _,rfl,rfl,by omega,by simp[CQ]⟩
  case round=>
   obtain⟨k,x,hk,rfl,rfl,x0,hx⟩:=hrel;by_cases hlt:k<AA.length
   ·
    rcases h with h|⟨b,o,rfl,hb,hc⟩
    . exfalso;rw[h] at hlt;simp at hlt
    obtain⟨u,e0,r0⟩:=hc k hlt;have HS:=GB (Ps AA k hlt);have HX:=GB hx;have hmk:=hm k hlt;have hxl:x<=1048576:=by omega
    clear hc hx;by_cases hf:((AA.getD k []).length:Int)<=x
    ·
     go_wp2_with fail
     refine (WH _ _ _ r0 x x0 hxl hmk).mono ?_;rw[KAP hf];rintro e w' ⟨rfl,rfl⟩;generalize hq:x-((AA.getD k []).length:Int)=q;have HQ:=GB hq;have hq0:0<=q:=by omega
     clear hq;go_wp2;go_round
     case rel=>exact⟨k+1,q,by omega,by go_num,rfl,hq0,by have:=HS.out;have:=HX.out;have:=HQ.out;omega⟩
     case measure=>simp[intOf];omega
    ·
     go_wp2_with fail
     refine (WH _ _ _ r0 x x0 hxl hmk).mono ?_;rw[KAQ (by omega)];rintro e w' ⟨rfl,rfl⟩;go_wp2;go_ret;exact⟨_,rfl,rfl,.inl (by omega)⟩
   ·
    obtain rfl:k=AA.length:=by omega
    have HX:=GB hx;clear hx;go_wp2;go_ret;refine⟨_,rfl,rfl,.inr ?_⟩;have:=HX.out;rw[KBK] at this;exact⟨by omega,by omega⟩
 ·
  go_enter Tryz.func15,Tryz.ntmps15
  go_wp2;go_ret;exact⟨_,rfl,rfl,.inl (by omega)⟩
end Go.Proofs.YtflehmepjhikcaaGreatDoor
