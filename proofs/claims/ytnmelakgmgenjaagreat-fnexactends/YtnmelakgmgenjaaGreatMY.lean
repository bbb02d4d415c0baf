/- Gathered texts. -/
import Derived.Lib.Hide
import Derived.Test.YtnmelakgmgenjaaGreatMN
import Derived.Lib.SmallJoins
import Derived.Outline
import Derived.RegionTactic
import Derived.OwnWalk
import Derived.Deep.RegionHeld3
import Derived.Deep.QuietTactic
import Derived.BigQuiet
set_option maxRecDepth 100000
set_option maxHeartbeats 8000000
namespace Go.Proofs.YtnmelakgmgenjaaGreat
open Go.ChangeShapes Go.WideShapes Go.ChangeAt Go.RowKit
theorem Xy (w:World)(a:Option Addr)(n cap:Nat)(k:Int)(hs:n=0\/∃b o,a=some ⟨b,o,none⟩)(hw:∀x,D0 (.slice a n cap) (n) x->Wb w x)(hn:n<=1048576)(h0:1<=k)(h1:k<=16777216):
  Calls Tryz.prog 60 #[.slice a n cap,.int .i64 k] w fun e w'=>e = .returned (.int .i64 (k+n))/\JK (D0 (.slice a n cap) (n)) w w'/\Yi w' (.slice a n cap) (n) k:=by
 by_cases hz:n=0
 ·
  subst hz;clear hs hw;go_enter Tryz.func60,Tryz.ntmps60
  go_wp2;refine wp_loop_rounds 1 ?_;rw[rounds_succ];go_wp2;go_ret;exact⟨by simp,JK.refl _ _,fun b o l c i _ hi=>absurd hi (by omega)⟩
 ·
  obtain⟨b,o,rfl⟩:∃b o,a=some ⟨b,o,none⟩:=by
   rcases hs with h|h
   . exact absurd h hz
   . exact h
  have HS:=Lib.hid (fun (i:Nat) (hi:i<n)=>(show D0 (.slice (some ⟨b,o,none⟩) n cap) (n) ⟨b,o+i,none⟩ from ⟨b,o,n,cap,i,rfl,hi,rfl⟩));have HW:=Lib.hid hw;clear hs hw;generalize hS:D0 (.slice (some ⟨b,o,none⟩) n cap) (n)=S at HS HW ⊢;go_enter Tryz.func60,Tryz.ntmps60
  go_wp2;go_loopw [1,5] (fun q i wr=>∃j:Nat,j<=n/\i = .int .i64 j/\q = .int .i64 (k+(j:Int))/\JK S w wr/\Hid (∀i,i<j->wr.cell? ⟨b,o+i,none⟩=some (.int .i64 (k+(i:Int))))) (fun _ i _=>n-(intOf i).toNat)
  case atStart=>exact⟨0,Nat.zero_le _,rfl,by simp,JK.refl _ _,Lib.hid (fun i hi=>absurd hi (by omega))⟩
  case round=>
   obtain⟨j,hj,rfl,rfl,hG,hA⟩:=hrel;by_cases hlt:j<n
   ·
    have s0:S ⟨b,o+j,none⟩:=by have:=HS.out (j) (by omega);rw[show o+(j)=o+j by omega] at this;exact this
    have b0:=(HW.out _ s0).kept hG;obtain⟨u0,c0⟩:=b0.cell;have f0:=b0.free;have G:JK S w (wr.setCell ⟨b,o+j,none⟩ (.int .i64 (k+(j:Int)))):=(hG.set _ b0 s0)
    have HC:Hid (∀i,i<j+1->(wr.setCell ⟨b,o+j,none⟩ (.int .i64 (k+(j:Int)))).cell? ⟨b,o+i,none⟩=some (.int .i64 (k+(i:Int)))):=Lib.hid (fun i hi=>by
     by_cases e:i<j
     . rw[YX _ (by omega)];exact hA.out i e
     ·
      obtain rfl:i=j:=by omega
      exact fC _ b0)
    clear hA hG b0 s0;have i1:(0:Int)<=(j:Int):=Int.natCast_nonneg _;have i2:(j:Int)<(n:Int):=by omega
    go_wp2;go_roundw;case rel=>exact⟨j+1,by omega,by go_num,by go_num,G,HC⟩
    case measure=>simp[intOf];omega
   ·
    have:j=n:=by omega
    subst this;go_wp2;go_ret;refine⟨rfl,hG,fun b' o' l c i e hi=>?_⟩;simp only[Value.slice.injEq,Option.some.injEq,Addr.mk.injEq,and_true] at e;obtain⟨⟨rfl,rfl⟩,rfl,rfl⟩:=e;exact hA.out i hi
theorem Sr (w:World)(v:Value)(V:Nat->Value)(ln:Nat->Nat)(n:Nat)(k:Int)(hv:∃a c,v = .slice a n c/\(n=0\/∃b o,a=some ⟨b,o,none⟩/\b<w.heap.size/\∀i,i<n->w.cell? ⟨b,o+i,none⟩=some (V i)/\¬CV (BR 1 V ln n) ⟨b,o+i,none⟩))
  (hV:∀i,i<n->UE (V i) (ln i)) (hL:E5 w (BR 1 V ln n)) (hn:n<=1048576) (hl:∀i,i<n->ln i<=1048576) (h0:1<=k) (h1:k+DW (BR 1 V ln n)<=16777216):
  Calls Tryz.prog 27 #[v,.int .i64 k] w fun e w'=>e = .returned (.int .i64 (k+DW (BR 1 V ln n)))/\JK (CV (BR 1 V ln n)) w w'/\Ss w' k (BR 1 V ln n):=by
 obtain⟨a,cap,rfl,hv⟩:=hv;have HL:=Lib.hid hL;have HV:=Lib.hid hV;have HN:=Lib.hid hl;have HT:Hid (∀j,j<=n->k+DW (BR 1 V ln j)<=16777216):=Lib.hid (fun j hj=>by have:=Jj 1 V ln n j hj;omega);clear hL hV hl h1;go_enter Tryz.func27,Tryz.ntmps27
 go_wp2;go_loopw [1,5] (fun q i wr=>∃j m:Nat,j<=n/\i = .int .i64 j/\q = .int .i64 (k+(m:Int))/\Hid (m=DW (BR 1 V ln j))/\JK (CV (BR 1 V ln j)) w wr/\Hid (Ss wr k (BR 1 V ln j))) (fun _ i _=>n-(intOf i).toNat)
 case atStart=>exact⟨0,0,Nat.zero_le _,rfl,by simp,Lib.hid rfl,JK.refl _ _,Lib.hid trivial⟩
 case round=>
  obtain⟨j,m,hj,rfl,rfl,hm,hG,hM⟩:=hrel;by_cases hlt:j<n
  ·
   rcases hv with hv|⟨b,o,rfl,hb,hc⟩
   . exfalso;omega
   obtain⟨hc1,hc2⟩:=hc j hlt;have hS:∀x,CV (BR 1 V ln j) x->CV (BR 1 V ln n) x:=fun x ⟨r,hr,hx⟩=>⟨r,(Lp 1 V ln n j hj).subset hr,hx⟩
   have d1:=(hG.cell _ hb (fun h=>hc2 (hS _ h))).trans hc1;have yt:=HL.out.sub (Lp 1 V ln n (j+1) hlt);obtain⟨a2,c2,eV,hs2⟩:=HV.out j hlt;have hlj:=HN.out j hlt;have hk:=HT.out j hj;rw[<-hm.out] at hk;have HM2:Hid (m+ln j=DW (BR 1 V ln (j+1))):=Lib.hid (by rw[Iy,hm.out];simp);have C:=Xy wr a2 (ln j) c2 (k+(m:Int)) hs2 (fun x hx=>(yt.wb x (by rw[BR];exact Eo.2 (.inr ⟨_,List.mem_singleton.2 rfl,by rw[eV];simpa using hx⟩))).kept hG) hlj (by omega) (by omega)
   have NX:∀wz:World,JK (D0 (.slice a2 (ln j) c2) (ln j)) wr wz->Yi wz (.slice a2 (ln j) c2) (ln j) (k+(m:Int))->JK (CV (BR 1 V ln (j+1))) w wz/\Ss wz k (BR 1 V ln (j+1)):=by
    intro wz g1 g2;rw[BR] at yt ⊢;refine jq yt hG hM.out (g1.more (fun x hx=>⟨_,List.mem_singleton.2 rfl,by rw[eV];simpa using hx⟩)) ⟨?_,trivial⟩;rw[<-hm.out];show Yi wz (V j) (1*ln j) _;rw[eV]
    simpa using g2
   rw[show k+(m:Int)+(ln j:Int)=k+((m+ln j:Nat):Int) by omega] at C;rw[eV] at d1;clear hc yt hS hG hM hm eV hc1 hc2;have i1:(0:Int)<=(j:Int):=Int.natCast_nonneg _;have i2:(j:Int)<(n:Int):=by omega
   go_wp2_with fail
   refine C.mono ?_;rintro e wz ⟨rfl,g1,g2⟩;obtain⟨G,M⟩:=NX wz g1 g2;have iR:=Lib.hid M;clear NX C g1 g2 d1 M;go_wp2;go_roundw;case rel=>exact⟨j+1,_,by omega,by go_num,rfl,HM2,G,iR⟩
   case measure=>simp[intOf];omega
  ·
   obtain rfl:j=n:=by omega
   go_wp2;go_ret;exact⟨by rw[hm.out];rfl,hG,hM.out⟩
theorem Xo (w:World)(a:Option Addr)(n cap:Nat)(k:Int)(hs:n=0\/∃b o,a=some ⟨b,o,none⟩)(hw:∀x,D0 (.slice a n cap) (n) x->x.block<w.heap.size)(hM:Yi w (.slice a n cap) (n) k)(hn:n<=1048576)(h0:1<=k)(h1:k<=16777216):
  Calls Tryz.prog 61 #[.slice a n cap,.int .i64 k] w fun e w'=>e = .returned (.int .i64 (k+n))/\AC w w':=by
 go_enter Tryz.func61,Tryz.ntmps61
 go_wp2;go_loopw [1,5] (fun q i wr=>∃j:Nat,j<=n/\i = .int .i64 j/\q = .int .i64 (k+(j:Int))/\AC w wr) (fun _ i _=>n-(intOf i).toNat)
 case atStart=>exact⟨0,Nat.zero_le _,rfl,by simp,AC.refl _⟩
 case round=>
  obtain⟨j,hj,rfl,rfl,hK⟩:=hrel;by_cases hlt:j<n
  ·
   obtain⟨b,o,rfl⟩:∃b o,a=some ⟨b,o,none⟩:=by
    rcases hs with h|h
    . exfalso;omega
    . exact h
   have hb:b<w.heap.size:=hw ⟨b,o+0,none⟩ ⟨b,o,n,cap,0,rfl,by omega,rfl⟩;have d0:=(hK.cell hb).trans (hM b o n cap (j) rfl (by omega));have e0:(k+(j:Int) != k+(j:Int))=false:=by simp
   have i1:(0:Int)<=(j:Int):=Int.natCast_nonneg _;have i2:(j:Int)<(n:Int):=by omega
   go_wp2;go_roundw;case rel=>exact⟨j+1,by omega,by go_num,by go_num,hK⟩
   case measure=>simp[intOf];omega
  ·
   have:j=n:=by omega
   subst this;go_wp2;go_ret;exact⟨rfl,hK⟩
theorem Sb (w:World)(v:Value)(V:Nat->Value)(ln:Nat->Nat)(n:Nat)(k:Int)(hv:∃a c,v = .slice a n c/\(n=0\/∃b o,a=some ⟨b,o,none⟩/\b<w.heap.size/\∀i,i<n->w.cell? ⟨b,o+i,none⟩=some (V i)))
  (hV:∀i,i<n->UE (V i) (ln i)) (hw:∀x,CV (BR 1 V ln n) x->x.block<w.heap.size) (hM:Ss w k (BR 1 V ln n)) (hn:n<=1048576) (hl:∀i,i<n->ln i<=1048576) (h0:1<=k) (h1:k+DW (BR 1 V ln n)<=16777216):
  Calls Tryz.prog 28 #[v,.int .i64 k] w fun e w'=>e = .returned (.int .i64 (k+DW (BR 1 V ln n)))/\AC w w':=by
 obtain⟨a,cap,rfl,hv⟩:=hv;have HW:=Lib.hid hw;have HR:=Lib.hid (fun j (hj:j<n)=>TT 1 V ln n hM j hj);have HV:=Lib.hid hV;have HN:=Lib.hid hl;have HT:Hid (∀j,j<=n->k+DW (BR 1 V ln j)<=16777216):=Lib.hid (fun j hj=>by have:=Jj 1 V ln n j hj;omega);clear hM hV hl h1 hw;go_enter Tryz.func28,Tryz.ntmps28
 go_wp2;go_loopw [1,5] (fun q i wr=>∃j m:Nat,j<=n/\i = .int .i64 j/\q = .int .i64 (k+(m:Int))/\Hid (m=DW (BR 1 V ln j))/\AC w wr) (fun _ i _=>n-(intOf i).toNat)
 case atStart=>exact⟨0,0,Nat.zero_le _,rfl,by simp,Lib.hid rfl,AC.refl _⟩
 case round=>
  obtain⟨j,m,hj,rfl,rfl,hm,hK⟩:=hrel;by_cases hlt:j<n
  ·
   rcases hv with hv|⟨b,o,rfl,hb,hc⟩
   . exfalso;omega
   have d1:=(hK.cell hb).trans (hc j hlt);obtain⟨a2,c2,eV,hs2⟩:=HV.out j hlt;have hlj:=HN.out j hlt;have hk:=HT.out j hj;have hD:=HR.out j hlt;have hX:∀x,D0 (V j) (1*ln j) x->x.block<w.heap.size:=fun x hx=>HW.out x ⟨_,(Ix 1 V ln n _).2 ⟨j,hlt,rfl⟩,hx⟩
   rw[<-hm.out] at hk hD;rw[eV] at hD d1 hX;have HM2:Hid (m+ln j=DW (BR 1 V ln (j+1))):=Lib.hid (by rw[Iy,hm.out];simp);have C:=Xo wr a2 (ln j) c2 (k+(m:Int)) hs2 (fun x hx=>Nat.lt_of_lt_of_le (hX x (by simpa using hx)) hK.size) (by have:=hD.keep hK hX;simpa using this) hlj (by omega) (by omega);rw[show k+(m:Int)+(ln j:Int)=k+((m+ln j:Nat):Int) by omega] at C;clear hc hm eV hD hX;have i1:(0:Int)<=(j:Int):=Int.natCast_nonneg _;have i2:(j:Int)<(n:Int):=by omega
   have i3:¬(k+((m+ln j:Nat):Int)<0):=by omega
   go_wp2_with fail
   refine C.mono ?_;rintro e wz ⟨rfl,k1⟩;have K1:=hK.trans k1;clear C d1 hK k1;generalize m+ln j=m2 at *;go_wp2;go_roundw;case rel=>exact⟨j+1,_,by omega,by go_num,rfl,HM2,K1⟩
   case measure=>simp[intOf];omega
  ·
   obtain rfl:j=n:=by omega
   go_wp2;go_ret;exact⟨by rw[hm.out];rfl,hK⟩
def Jw (w:World)(v:Value)(Ar:List (List Int))(n:Nat):Prop:=
 ∃V:Nat->Value,(∃a c,v = .slice a Ar.length c/\(Ar.length=0\/∃b o,a=some ⟨b,o,none⟩/\b<w.heap.size/\∀i,i<Ar.length->w.cell? ⟨b,o+i,none⟩=some (V i)))/\(∀i,i<Ar.length->UE (V i) (Un Ar i))/\n=DW (TU V Ar)/\(∀x,CV (TU V Ar) x->x.block<w.heap.size)/\Ss w 1 (TU V Ar)
theorem Jw.keep {w w':World}{v:Value}{Ar:List (List Int)}{n:Nat}(h:Jw w v Ar n)(k:AC w w'):Jw w' v Ar n:=by
 obtain⟨V,⟨a,c,e,H⟩,h1,h2,h3,h4⟩:=h;refine⟨V,⟨a,c,e,?_⟩,h1,h2,fun x hx=>Nat.lt_of_lt_of_le (h3 x hx) k.size,Nv (k.wrt (fun _=>False)) _ _ h4 (fun _ _ h=>h) h3⟩;rcases H with H|⟨b,o,ea,hb,hc⟩
 . exact .inl H
 . exact .inr ⟨b,o,ea,Nat.lt_of_lt_of_le hb k.size,fun i hi=>(k.cell hb).trans (hc i hi)⟩
theorem Pt (w:World)(m M:Nat)(v:Value)(Ar:List (List Int))(h:Fw w m M v Ar)(hn:Ar.length<=78125)(hm:∀i,i<Ar.length->(Ar.getD i []).length<=15):
  Calls Tryz.prog 27 #[v,.int .i64 1] w fun e w'=>∃n:Nat,e = .returned (.int .i64 (1+(n:Int)))/\n<=1171875/\Jw w' v Ar n/\LJ m M w w':=by
 obtain⟨V,H,hV,L,G⟩:=h.ex;have ht:=Ls V Ar 15 hm Ar.length (Nat.le_refl _);refine (Sr w v V (Un Ar) Ar.length 1 H hV L (by omega) (fun i hi=>by have:=hm i hi;show (Ar.getD i []).length<=_;omega) (by omega) (by omega)).mono ?_;rintro e w' ⟨rfl,g,mk⟩;refine⟨_,rfl,by omega,⟨V,?_,hV,rfl,fun x hx=>((L.wb x hx).kept g).lt,mk⟩,g.os,g.tape,g.output,g.size,fun q hq hm=>g.block q hq (fun x hx e=>?_)⟩
 ·
  obtain⟨a,c,e,H⟩:=H;refine⟨a,c,e,?_⟩;rcases H with H|⟨b,o,ea,hb,hc⟩
  . exact .inl H
  . exact .inr ⟨b,o,ea,Nat.lt_of_lt_of_le hb g.size,fun i hi=>(g.cell _ hb (hc i hi).2).trans (hc i hi).1⟩
 ·
  have:=G x hx;rw[e] at this;omega
theorem Ic (w:World)(v:Value)(Ar:List (List Int))(n:Nat)(h:Jw w v Ar n)(hn:Ar.length<=78125)(hm:∀i,i<Ar.length->(Ar.getD i []).length<=15):
  Calls Tryz.prog 28 #[v,.int .i64 1] w fun e w'=>e = .returned (.int .i64 (1+(n:Int)))/\AC w w':=by
 obtain⟨V,H,hV,rfl,G,mk⟩:=h;have ht:=Ls V Ar 15 hm Ar.length (Nat.le_refl _);exact Sb w v V (Un Ar) Ar.length 1 H hV G mk (by omega) (fun i hi=>by have:=hm i hi;show (Ar.getD i []).length<=_;omega) (by omega) (by omega)
theorem VH (k p v g:Int)(w:World):
  Calls Tryz.prog 89 #[Fe k p v g] w fun e w'=>e = .returned (Fe k p v g)/\AC w w':=by
 go_enter Tryz.func89,Tryz.ntmps89
 go_wp2;refine bodyPost_ret (CJ (by rfl) _ _ (w.heap.size+1) _ _ _ _ rfl (by simp only[B7,AD];repeat (first|exact if_pos rfl|exact if_pos trivial|rw[if_neg (by omega)])) Tryz.underlying65 rfl (by kernel_rfl)) rfl ?_;exact⟨rfl,(((AC.refl w).alloc _).alloc _).alloc _⟩
theorem WU (w:World)(v:Value)(ds:List Dd)(h:JO w v ds)(left:Int)(h0:0<=left)(h1:left<=1048576)(hn:ds.length<=maxLen):
  Calls Tryz.prog 55 #[v,.int .i64 left] w fun e w'=>e = .returned (.int .i64 (if (ds.length:Int)<=left then left-ds.length else -1))/\w'=w:=by
 obtain⟨a,cap,rfl,_⟩:=h;have hm:maxLen=9223372036854775807:=rfl;by_cases hl:(ds.length:Int)<=left
 ·
  rw[if_pos hl];go_enter Tryz.func55,Tryz.ntmps55
  go_wp2;go_ret;exact⟨rfl,rfl⟩
 ·
  rw[if_neg hl];go_enter Tryz.func55,Tryz.ntmps55
  go_wp2;go_ret;exact⟨rfl,rfl⟩
theorem lg (w:World)(v:Value)(ds:List Dd)(h:JO w v ds)(hn:ds.length<=1048576):
  Calls Tryz.prog 56 #[v] w fun e w'=>∃v',e = .returned v'/\DG w' w.heap.size v' ds/\AC w w':=by
 obtain⟨a,c,rfl,h⟩:=h;obtain⟨i0,hi,hz0,hz1,hz2⟩:=info_parts Tryz.wJ;go_enter Tryz.func56,Tryz.ntmps56
 go_wp2_with (at_make;refine wpList_make_full _ rfl _ _ 62 rfl w.heap.size 65 i0 (.agg #[.int .i64 0,.int .i64 0,.int .i64 0,.int .i64 0]) 4 Tryz.underlying62 hi hz0 hz1 .i64 .i64 _ _ ds.length rfl rfl rfl rfl (by rw[hz2];omega) (by unfold maxLen;omega) (Nat.le_refl _) ?_;intro w1 hown hgrow)
 have hk1:AC w w1:=(AC.refl w).grown hgrow (by simp);have B1:=LG.nM hown;clear hown hgrow hi hz0 hz1 hz2;go_loopw [4] (fun i wr=>∃j:Nat,j<=ds.length/\i = .int .i64 j/\LG wr w.heap.size (ds.length*4)/\(∀i,i<j->Ri wr w.heap.size (i*4) (ds.getD i zD))/\AC w wr) (fun i _=>ds.length-(intOf i).toNat)
 case atStart=>exact⟨0,Nat.zero_le _,rfl,B1,fun i hi=>absurd hi (Nat.not_lt_zero _),hk1⟩
 case round=>
  obtain⟨j,hj,rfl,hB,hA,hK⟩:=hrel;clear B1 hk1;by_cases hlt:j<ds.length
  ·
   rcases h with h|⟨b,o,rfl,hb,hc⟩
   . exfalso;rw[h] at hlt;simp at hlt
   obtain⟨d0,d1,d2,d3⟩:=(hc j hlt).keep hb hK;obtain⟨d,hd⟩:∃d,d=ds.getD j zD:=⟨_,rfl⟩;have HD:=Lib.hid hd;rw[<-hd] at d0 d1 d2 d3;have hbs:b<wr.heap.size:=Nat.lt_of_lt_of_le hb hK.size;clear hc hd;go_wp2_with fail
   refine (VH _ _ _ _ _).mono ?_;rintro e w2 ⟨rfl,k2⟩;have B2:=hB.kept k2.grownBy (by simp);obtain⟨u0,e0⟩:=B2.cell (show j*4<ds.length*4 by omega);obtain⟨u1,e1⟩:=B2.cell (show j*4+1<ds.length*4 by omega);obtain⟨u2,e2⟩:=B2.cell (show j*4+2<ds.length*4 by omega);obtain⟨u3,e3⟩:=B2.cell (show j*4+3<ds.length*4 by omega);have f0:=B2.free (j*4);have f1:=B2.free (j*4+1);have f2:=B2.free (j*4+2);have f3:=B2.free (j*4+3);go_wp2;go_roundw
   case rel=>
    refine⟨j+1,by omega,by go_num,(((B2.set _ _).set _ _).set _ _).set _ _,fun i hi=>?_,((((hK.trans k2).set (Nat.le_refl _) _ _).set (Nat.le_refl _) _ _).set (Nat.le_refl _) _ _).set (Nat.le_refl _) _ _⟩;by_cases hij:i=j
    ·
     subst hij;rw[<-HD.out];exact P8 B2 (by omega)
    . exact wY ((hA i (by omega)).keep hB.lt k2) (by omega)
   case measure=>simp[intOf];omega
  ·
   obtain rfl:j=ds.length:=by omega
   go_wp2;go_ret;exact⟨_,rfl,⟨_,0,rfl,.inr ⟨_,rfl,Nat.le_refl _,hB,hA⟩⟩,hK⟩
theorem Fj (w:World)(v:Value)(AA:List (List Dd))(h:Fz w v AA)(hn:AA.length<=1048576)(hm:∀i,i<AA.length->(AA.getD i []).length<=1048576):
  Calls Tryz.prog 23 #[v] w fun e w'=>∃v',e = .returned v'/\Jx w' w.heap.size v' AA/\AC w w':=by
 obtain⟨a,c,rfl,h⟩:=h;obtain⟨i0,hi,hz0,hz1,hz2⟩:=info_parts Tryz.qN;go_enter Tryz.func23,Tryz.ntmps23
 go_wp2_with (at_make;refine wpList_make_full _ rfl _ _ 24 rfl w.heap.size 62 i0 (.slice none 0 0) 1 Tryz.underlying24 hi hz0 hz1 .i64 .i64 _ _ AA.length rfl rfl rfl rfl (by rw[hz2];omega) (by unfold maxLen;omega) (Nat.le_refl _) ?_;intro w1 hown hgrow)
 have hk1:AC w w1:=(AC.refl w).grown hgrow (by simp);have B1:=LG.nM hown;rw[Nat.mul_one] at B1;clear hown hgrow hi hz0 hz1 hz2;go_loopw [4] (fun i wr=>∃(j:Nat) (V:Nat->Value),j<=AA.length/\i = .int .i64 j/\LG wr w.heap.size AA.length/\(∀i,i<j->wr.cell? ⟨w.heap.size,i,none⟩=some (V i)/\DG wr (w.heap.size+1) (V i) (AA.getD i []))/\mF w.heap.size j V (fun i=>AA.getD i [])/\AC w wr) (fun i _=>AA.length-(intOf i).toNat)
 case atStart=>exact⟨0,fun _ => .nilIface,Nat.zero_le _,rfl,B1,fun i hi=>absurd hi (Nat.not_lt_zero _),⟨fun i hi=>absurd hi (Nat.not_lt_zero _),fun i j _ hj=>absurd hj (Nat.not_lt_zero _)⟩,hk1⟩
 case round=>
  obtain⟨j,V,hj,rfl,hB,hV,hA,hK⟩:=hrel;clear B1 hk1;by_cases hlt:j<AA.length
  ·
   rcases h with h|⟨b,o,rfl,hb,hc⟩
   . exfalso;rw[h] at hlt;simp at hlt
   obtain⟨u,e0,r0⟩:=hc j hlt;have e1:=(hK.cell hb).trans e0;have r1:=r0.keep hK;have hbs:b<wr.heap.size:=Nat.lt_of_lt_of_le hb hK.size;have hmj:=hm j hlt;clear hc e0 r0;go_wp2_with fail
   refine (lg _ _ _ r1 hmj).mono ?_;rintro e w2 ⟨v',rfl,o2,k2⟩
   obtain⟨a',cap',hv'⟩:∃a' cap',v' = .slice a' (AA.getD j []).length cap':=by
    obtain⟨a',cap',h,_⟩:=o2;exact⟨a',_,h⟩
   generalize hlen':(AA.getD j []).length=len' at hv';clear hlen';subst hv';have B2:=hB.kept k2.grownBy (by simp);obtain⟨u0,q0⟩:=B2.cell hlt;have f0:=B2.free j;have hBl:=hB.lt;go_wp2;go_roundw
   case rel=>
    refine⟨j+1,fun i=>if i=j then .slice a' len' cap' else V i,by omega,by go_num,B2.set _ _,fun i hi=>?_,⟨fun i hi hne=>?_,fun i i' hii hi' hne hne'=>?_⟩,(hK.trans k2).set (Nat.le_refl _) _ _⟩
    ·
     by_cases hij:i=j
     ·
      subst hij;refine⟨by simp[World.cell?_setCell_same _ _ _ q0],?_⟩;simp only[if_pos];refine (o2.kept (D8 w2 w.heap.size i _) ?_).mono (by omega);by_cases h0:AA.getD i []=[]
      . exact .inl h0
      ·
       obtain⟨g,hg,hgb,_⟩:=o2.block h0;refine .inr (fun e=>?_);rw[hg] at e;simp at e;omega
     ·
      simp only[if_neg hij];obtain⟨c1,c2⟩:=hV i (by omega);refine⟨?_,?_⟩
      ·
       rw[World.cell?_setCell_other _ _ _ _ (by intro e;apply hij;injection e with _ e2;exact e2.symm),k2.cell hBl];exact c1
      ·
       refine (c2.keep k2).kept (D8 w2 w.heap.size j _) ?_;by_cases h0:AA.getD i []=[]
       . exact .inl h0
       . exact .inr (hA.1 i (by omega) h0)
    ·
     by_cases hij:i=j
     ·
      subst hij;simp only[if_pos];obtain⟨g,hg,hgb,_⟩:=o2.block hne;intro e;rw[hg] at e;simp at e;omega
     ·
      simp only[if_neg hij];exact hA.1 i (by omega) hne
    ·
     have hi0:¬i=j:=by omega
     simp only[if_neg hi0];by_cases hij:i'=j
     ·
      subst hij;simp only[if_pos];obtain⟨g,hg,_,hgs⟩:=(hV i (by omega)).2.block hne;obtain⟨g',hg',hgb',_⟩:=o2.block hne';rw[hg,hg'];simp;omega
     ·
      simp only[if_neg hij];exact hA.2 i i' hii (by omega) hne hne'
   case measure=>simp[intOf];omega
  ·
   obtain rfl:j=AA.length:=by omega
   go_wp2;go_ret;exact⟨_,rfl,⟨_,_,rfl,.inr ⟨_,V,rfl,Nat.le_refl _,hB,fun i hi=>⟨(hV i hi).1,(hV i hi).2.mono (by omega)⟩,hA⟩⟩,hK⟩
theorem Pp (d:List Dd):∀l:List (List Dd),BF (l++[d])=BF l+d.length
 | []=>by simp[BF]
 |x::r=>by rw[List.cons_append,BF,BF,Pp d r];omega
theorem Jq {α:Type}(l:List α)(k:Nat)(z:α)(h:k<l.length):l.take (k+1)=l.take k++[l.getD k z]:=by
 rw[List.take_add_one,List.getElem?_eq_getElem h,List.getD_eq_getElem?_getD,List.getElem?_eq_getElem h];rfl
theorem Pr (l:List (List Dd))(k:Nat)(h:k<l.length):BF (l.take (k+1))=BF (l.take k)+(l.getD k []).length:=by
 rw[Jq l k [] h,Pp]
theorem So (l:List (List Dd))(k:Nat)(h:k<l.length):(l.getD k []).length<=BF l:=by
 have h1:=Pr l k h;have h2:=Kc l (k+1) h;omega
theorem WV (w:World)(v:Value)(AA:List (List Dd))(h:Fz w v AA)(left:Int)(h0:0<=left)(h1:left<=1048576)(hn:AA.length<=maxLen)(hm:∀i,i<AA.length->(AA.getD i []).length<=maxLen):
  Calls Tryz.prog 22 #[v,.int .i64 left] w fun e w'=>∃r:Int,e = .returned (.int .i64 r)/\w'=w/\(r<0\/(AA.length+BF AA:Int)<=left):=by
 have hM:maxLen=9223372036854775807:=rfl;obtain⟨a,c,rfl,h⟩:=h;by_cases hl:(AA.length:Int)<=left
 ·
  go_enter Tryz.func22,Tryz.ntmps22
  go_wp2;go_loop [1,5] (fun l i=>∃(k:Nat) (x:Int),k<=AA.length/\i = .int .i64 k/\l = .int .i64 x/\0<=x/\x=left-AA.length-BF (AA.take k)) (fun _ i=>AA.length-(intOf i).toNat)
  case atStart=>exact⟨0,_,Nat.zero_le _,rfl,rfl,by omega,by simp[BF]⟩
  case round=>
   obtain⟨k,x,hk,rfl,rfl,x0,hx⟩:=hrel;by_cases hlt:k<AA.length
   ·
    rcases h with h|⟨b,o,rfl,hb,hc⟩
    . exfalso;rw[h] at hlt;simp at hlt
    obtain⟨u,e0,r0⟩:=hc k hlt;have HS:=Lib.hid (Pr AA k hlt);have HX:=Lib.hid hx;have hmk:=hm k hlt;have hxl:x<=1048576:=by omega
    clear hc hx;by_cases hf:((AA.getD k []).length:Int)<=x
    ·
     go_wp2_with fail
     refine (WU _ _ _ r0 x x0 hxl hmk).mono ?_;rw[if_pos hf];rintro e w' ⟨rfl,rfl⟩;generalize hq:x-((AA.getD k []).length:Int)=q;have HQ:=Lib.hid hq;have hq0:0<=q:=by omega
     clear hq;go_wp2;go_round
     case rel=>exact⟨k+1,q,by omega,by go_num,rfl,hq0,by have:=HS.out;have:=HX.out;have:=HQ.out;omega⟩
     case measure=>simp[intOf];omega
    ·
     go_wp2_with fail
     refine (WU _ _ _ r0 x x0 hxl hmk).mono ?_;rw[if_neg (by omega)];rintro e w' ⟨rfl,rfl⟩;go_wp2;go_ret;exact⟨_,rfl,rfl,.inl (by omega)⟩
   ·
    obtain rfl:k=AA.length:=by omega
    have HX:=Lib.hid hx;clear hx;go_wp2;go_ret;refine⟨_,rfl,rfl,.inr ?_⟩;have:=HX.out;rw[List.take_length] at this;omega
 ·
  go_enter Tryz.func22,Tryz.ntmps22
  go_wp2;go_ret;exact⟨_,rfl,rfl,.inl (by omega)⟩
def jO (d d':Dd):Bool:=decide (d=d')
theorem NN (d d':Dd)(w:World):
  Calls Tryz.prog 90 #[dV d,dV d'] w fun e w'=>e = .returned (.bool (jO d d'))/\AC w w':=by
 obtain⟨k,p,v,g⟩:=d;obtain⟨k',p',v',g'⟩:=d';by_cases h1:k=k'
 ·
  subst h1;by_cases h2:p=p'
  ·
   subst h2;by_cases h3:v=v'
   ·
    subst h3;by_cases h4:g=g'
    ·
     subst h4;go_enter Tryz.func90,Tryz.ntmps90
     go_wp2;go_ret;exact⟨BG (by simp[jO]),((AC.refl w).alloc _).alloc _⟩
    ·
     have hb:(g != g')=true:=by simpa using h4
     go_enter Tryz.func90,Tryz.ntmps90
     go_wp2;go_ret;exact⟨BG (by simp[jO,h4]),((AC.refl w).alloc _).alloc _⟩
   ·
    have hb:(v != v')=true:=by simpa using h3
    go_enter Tryz.func90,Tryz.ntmps90
    go_wp2;go_ret;exact⟨BG (by simp[jO,h3]),((AC.refl w).alloc _).alloc _⟩
  ·
   have hb:(p != p')=true:=by simpa using h2
   go_enter Tryz.func90,Tryz.ntmps90
   go_wp2;go_ret;exact⟨BG (by simp[jO,h2]),((AC.refl w).alloc _).alloc _⟩
 ·
  have hb:(k != k')=true:=by simpa using h1
  go_enter Tryz.func90,Tryz.ntmps90
  go_wp2;go_ret;exact⟨BG (by simp[jO,h1]),((AC.refl w).alloc _).alloc _⟩
theorem LD {α:Type}{xs ys:List α}{k:Nat}(z:α)(hx:k<xs.length)(hy:k<ys.length)(h:xs.take k=ys.take k)(e:xs.getD k z=ys.getD k z):xs.take (k+1)=ys.take (k+1):=by
 rw[Jq xs k z hx,Jq ys k z hy,h,e]
theorem nK {α:Type}{xs ys:List α}{k:Nat}{z:α}(h:xs.getD k z≠ys.getD k z):xs≠ys:=by
 intro e;subst e;exact h rfl
def Nr (xs ys:List Dd):Bool:=decide (xs=ys)
theorem Vg (w:World)(v1 v2:Value)(xs ys:List Dd)(h1:JO w v1 xs)(h2:JO w v2 ys)(hx:xs.length<=1048576):
  Calls Tryz.prog 58 #[v1,v2] w fun e w'=>e = .returned (.bool (Nr xs ys))/\AC w w':=by
 obtain⟨a1,c1,rfl,h1⟩:=h1;obtain⟨a2,c2,rfl,h2⟩:=h2;by_cases hl:xs.length=ys.length
 ·
  have hlb:((xs.length:Int) != (ys.length:Int))=false:=by simp[hl]
  have hl1:xs.length<=ys.length:=by omega
  have hl2:ys.length<=xs.length:=by omega
  clear hl;go_enter Tryz.func58,Tryz.ntmps58
  go_wp2;go_loopw [5] (fun i wr=>∃k:Nat,k<=xs.length/\i = .int .i64 k/\xs.take k=ys.take k/\AC w wr) (fun i _=>xs.length-(intOf i).toNat)
  case atStart=>exact⟨0,Nat.zero_le _,rfl,by simp,AC.refl _⟩
  case round=>
   obtain⟨k,hk,rfl,ht,hK⟩:=hrel;by_cases hlt:k<xs.length
   ·
    rcases h1 with h|⟨b1,o1,rfl,hb1,hc1⟩
    . exfalso;rw[h] at hlt;simp at hlt
    rcases h2 with h|⟨b2,o2,rfl,hb2,hc2⟩
    . exfalso;rw[h] at hl1;simp only[List.length_nil] at hl1;omega
    have hy2:k<ys.length:=by omega
    obtain⟨d0,d1,d2,d3⟩:=(hc1 k hlt).keep hb1 hK;obtain⟨e0,e1,e2,e3⟩:=(hc2 k hy2).keep hb2 hK;have HT:=Lib.hid ht;obtain⟨p,hp⟩:∃p,p=xs.getD k zD:=⟨_,rfl⟩;obtain⟨q,hq⟩:∃q,q=ys.getD k zD:=⟨_,rfl⟩;have HP:=Lib.hid hp;have HQ:=Lib.hid hq;rw[<-hp] at d0 d1 d2 d3;rw[<-hq] at e0 e1 e2 e3;clear hc1 hc2 hp hq ht;have i1:(0:Int)<=(k:Int):=Int.natCast_nonneg _;have i2:(k:Int)<(xs.length:Int):=by omega
    have i3:(k:Int)<(ys.length:Int):=by omega
    have z1:b1<wr.drew.heap.size:=Nat.lt_of_lt_of_le hb1 hK.size;have z2:b2<wr.drew.heap.size:=Nat.lt_of_lt_of_le hb2 hK.size;cases he:jO p q
    ·
     have HE:Hid (Nr xs ys=false):=by
      refine Lib.hid (decide_eq_false (nK (k:=k) (z:=zD) ?_));rw[<-HP.out,<-HQ.out]
      simpa [jO] using he
     go_wp2_with fail
     go_region_held3 (fun w'=>w'.cell? ⟨b1,o1+k*4,none⟩=some (.int .i64 p.1)/\w'.cell? ⟨b1,o1+k*4+1,none⟩=some (.int .i64 p.2.1)/\w'.cell? ⟨b1,o1+k*4+2,none⟩=some (.int .i64 p.2.2.1)/\w'.cell? ⟨b1,o1+k*4+3,none⟩=some (.int .i64 p.2.2.2)/\w'.cell? ⟨b2,o2+k*4,none⟩=some (.int .i64 q.1)/\w'.cell? ⟨b2,o2+k*4+1,none⟩=some (.int .i64 q.2.1)/\w'.cell? ⟨b2,o2+k*4+2,none⟩=some (.int .i64 q.2.2.1)/\w'.cell? ⟨b2,o2+k*4+3,none⟩=some (.int .i64 q.2.2.2))
      (first|go_keep|(go_split_ands;refine⟨?_,?_,?_,?_,?_,?_,?_,?_⟩<;>(rw[kk.cell (by assumption)];assumption)))
      ((go_at_call 90;refine (NN p q _).mono ?_;rintro e wz ⟨rfl,kk⟩))
     all_goals
      go_wp2;go_ret;exact⟨by rw[HE.out];rfl,hK.drew.trans kk⟩
    ·
     have HE:Hid (xs.take (k+1)=ys.take (k+1)):=by
      refine Lib.hid (LD zD hlt hy2 HT.out ?_);rw[<-HP.out,<-HQ.out]
      simpa [jO] using he
     go_wp2_with fail
     go_region_held3 (fun w'=>w'.cell? ⟨b1,o1+k*4,none⟩=some (.int .i64 p.1)/\w'.cell? ⟨b1,o1+k*4+1,none⟩=some (.int .i64 p.2.1)/\w'.cell? ⟨b1,o1+k*4+2,none⟩=some (.int .i64 p.2.2.1)/\w'.cell? ⟨b1,o1+k*4+3,none⟩=some (.int .i64 p.2.2.2)/\w'.cell? ⟨b2,o2+k*4,none⟩=some (.int .i64 q.1)/\w'.cell? ⟨b2,o2+k*4+1,none⟩=some (.int .i64 q.2.1)/\w'.cell? ⟨b2,o2+k*4+2,none⟩=some (.int .i64 q.2.2.1)/\w'.cell? ⟨b2,o2+k*4+3,none⟩=some (.int .i64 q.2.2.2))
      (first|go_keep|(go_split_ands;refine⟨?_,?_,?_,?_,?_,?_,?_,?_⟩<;>(rw[kk.cell (by assumption)];assumption)))
      ((go_at_call 90;refine (NN p q _).mono ?_;rintro e wz ⟨rfl,kk⟩))
     all_goals
      go_wp2;go_roundw;case rel=>exact⟨k+1,by omega,by go_num,HE.out,hK.drew.trans kk⟩
      case measure=>simp[intOf];omega
   ·
    obtain rfl:k=xs.length:=by omega
    have HE:Hid (Nr xs ys=true):=by
     refine Lib.hid (decide_eq_true ?_);rw[List.take_length,List.take_of_length_le hl2] at ht;exact ht
    clear ht;go_wp2;go_ret;exact⟨by rw[HE.out];rfl,hK⟩
 ·
  have hlb:((xs.length:Int) != (ys.length:Int))=true:=by simp;omega
  have HE:Hid (Nr xs ys=false):=Lib.hid (decide_eq_false (fun e=>hl (by rw[e])));clear hl;go_enter Tryz.func58,Tryz.ntmps58
  go_wp2;go_ret;exact⟨by rw[HE.out];rfl,AC.refl _⟩
def MO (xs ys:List (List Dd)):Bool:=decide (xs=ys)
theorem Vh (w:World)(v1 v2:Value)(xs ys:List (List Dd))(h1:Fz w v1 xs)(h2:Fz w v2 ys)(hx:xs.length<=1048576)(hm:∀i,i<xs.length->(xs.getD i []).length<=1048576):
  Calls Tryz.prog 25 #[v1,v2] w fun e w'=>e = .returned (.bool (MO xs ys))/\AC w w':=by
 obtain⟨a1,c1,rfl,h1⟩:=h1;obtain⟨a2,c2,rfl,h2⟩:=h2;by_cases hl:xs.length=ys.length
 ·
  have hlb:((xs.length:Int) != (ys.length:Int))=false:=by simp[hl]
  have hl1:xs.length<=ys.length:=by omega
  have hl2:ys.length<=xs.length:=by omega
  clear hl;go_enter Tryz.func25,Tryz.ntmps25
  go_wp2;go_loopw [5] (fun i wr=>∃k:Nat,k<=xs.length/\i = .int .i64 k/\xs.take k=ys.take k/\AC w wr) (fun i _=>xs.length-(intOf i).toNat)
  case atStart=>exact⟨0,Nat.zero_le _,rfl,by simp,AC.refl _⟩
  case round=>
   obtain⟨k,hk,rfl,ht,hK⟩:=hrel;by_cases hlt:k<xs.length
   ·
    rcases h1 with h|⟨b1,o1,rfl,hb1,hc1⟩
    . exfalso;rw[h] at hlt;simp at hlt
    rcases h2 with h|⟨b2,o2,rfl,hb2,hc2⟩
    . exfalso;rw[h] at hl1;simp only[List.length_nil] at hl1;omega
    have hy2:k<ys.length:=by omega
    obtain⟨u1,e1,r1⟩:=hc1 k hlt;obtain⟨u2,e2,r2⟩:=hc2 k hy2;have d1:=(hK.cell hb1).trans e1;have d2:=(hK.cell hb2).trans e2;have r1:=r1.keep hK;have r2:=r2.keep hK;have HT:=Lib.hid ht;have hmk:=hm k hlt;clear hc1 hc2 ht e1 e2;obtain⟨p,hp⟩:∃p,p=xs.getD k []:=⟨_,rfl⟩;obtain⟨q,hq⟩:∃q,q=ys.getD k []:=⟨_,rfl⟩;have HP:=Lib.hid hp;have HQ:=Lib.hid hq;rw[<-hp] at r1 hmk;rw[<-hq] at r2;clear hp hq;have i1:(0:Int)<=(k:Int):=Int.natCast_nonneg _;have i2:(k:Int)<(xs.length:Int):=by omega
    have i3:(k:Int)<(ys.length:Int):=by omega
    have z1:b1<wr.drew.heap.size:=Nat.lt_of_lt_of_le hb1 hK.size;have z2:b2<wr.drew.heap.size:=Nat.lt_of_lt_of_le hb2 hK.size;cases he:Nr p q
    ·
     have HE:Hid (MO xs ys=false):=by
      refine Lib.hid (decide_eq_false (nK (k:=k) (z:=[]) ?_));rw[<-HP.out,<-HQ.out]
      simpa [Nr] using he
     go_wp2_with fail
     go_region_held3 (fun w'=>w'.cell? ⟨b1,o1+k,none⟩=some u1/\w'.cell? ⟨b2,o2+k,none⟩=some u2)
      (first|go_keep|(go_split_ands;refine⟨?_,?_⟩<;>(rw[kk.cell (by assumption)];assumption)))
      ((go_at_call 58;refine (Vg _ _ _ _ _ (r1.keep ((AC.refl wr).drew)) (r2.keep ((AC.refl wr).drew)) hmk).mono ?_;rintro e wz ⟨rfl,kk⟩))
     all_goals
      go_wp2;go_ret;exact⟨by rw[HE.out];rfl,hK.drew.trans kk⟩
    ·
     have HE:Hid (xs.take (k+1)=ys.take (k+1)):=by
      refine Lib.hid (LD [] hlt hy2 HT.out ?_);rw[<-HP.out,<-HQ.out]
      simpa [Nr] using he
     go_wp2_with fail
     go_region_held3 (fun w'=>w'.cell? ⟨b1,o1+k,none⟩=some u1/\w'.cell? ⟨b2,o2+k,none⟩=some u2)
      (first|go_keep|(go_split_ands;refine⟨?_,?_⟩<;>(rw[kk.cell (by assumption)];assumption)))
      ((go_at_call 58;refine (Vg _ _ _ _ _ (r1.keep ((AC.refl wr).drew)) (r2.keep ((AC.refl wr).drew)) hmk).mono ?_;rintro e wz ⟨rfl,kk⟩))
     all_goals
      go_wp2;go_roundw;case rel=>exact⟨k+1,by omega,by go_num,HE.out,hK.drew.trans kk⟩
      case measure=>simp[intOf];omega
   ·
    obtain rfl:k=xs.length:=by omega
    have HE:Hid (MO xs ys=true):=by
     refine Lib.hid (decide_eq_true ?_);rw[List.take_length,List.take_of_length_le hl2] at ht;exact ht
    clear ht;go_wp2;go_ret;exact⟨by rw[HE.out];rfl,hK⟩
 ·
  have hlb:((xs.length:Int) != (ys.length:Int))=true:=by simp;omega
  have HE:Hid (MO xs ys=false):=Lib.hid (decide_eq_false (fun e=>hl (by rw[e])));clear hl;go_enter Tryz.func25,Tryz.ntmps25
  go_wp2;go_ret;exact⟨by rw[HE.out];rfl,AC.refl _⟩
theorem Xx (w:World)(base:Nat)(v:Value)(k:Int)(ds:List Dd)(h:DG w base v ds)(hn:ds.length<=1048576)(h0:1<=k)(h1:k<=8388608):
  Calls Tryz.prog 59 #[v,.int .i64 k] w fun e w'=>e = .returned (.int .i64 (k+4*ds.length))/\DG w' base v (St k ds.length)/\w.grownBy w' (N4 v ds):=by
 obtain⟨a,cap,rfl,h⟩:=h;by_cases hne:ds=[]
 ·
  subst hne;clear h;go_enter Tryz.func59,Tryz.ntmps59
  go_wp2;refine wp_loop_rounds 1 ?_;rw[rounds_succ];go_wp2;go_ret;exact⟨by simp,⟨a,cap,rfl,.inl rfl⟩,World.grownBy.refl _ _⟩
 ·
  rcases h with h|⟨g,rfl,hb,hB,hA⟩
  . exact absurd h hne
  clear hA;go_enter Tryz.func59,Tryz.ntmps59
  go_wp2;go_loopw [1,5] (fun q i wr=>∃j:Nat,j<=ds.length/\i = .int .i64 j/\q = .int .i64 (k+4*j)/\LG wr g (ds.length*4)/\(∀i,i<j->Ri wr g (i*4) (nJ k i))/\w.grownBy wr (some g)) (fun _ i _=>ds.length-(intOf i).toNat)
  case atStart=>exact⟨0,Nat.zero_le _,rfl,by simp,hB,by omega,World.grownBy.refl _ _⟩
  case round=>
   obtain⟨j,hj,rfl,rfl,hR,hA,hg⟩:=hrel;clear hB;by_cases hlt:j<ds.length
   ·
    obtain⟨u0,c0⟩:=hR.cell (i:=j*4) (by omega);obtain⟨u1,c1⟩:=hR.cell (i:=j*4+1) (by omega);obtain⟨u2,c2⟩:=hR.cell (i:=j*4+2) (by omega);obtain⟨u3,c3⟩:=hR.cell (i:=j*4+3) (by omega);have f0:=hR.free (j*4);have f1:=hR.free (j*4+1);have f2:=hR.free (j*4+2);have f3:=hR.free (j*4+3);have i1:(0:Int)<=(j:Int):=Int.natCast_nonneg _;have i2:(j:Int)<(ds.length:Int):=by omega
    have HA:∀i,i<j+1->Ri ((((wr.setCell ⟨g,j*4,none⟩ (.int .i64 (nJ k j).1)).setCell ⟨g,j*4+1,none⟩ (.int .i64 (nJ k j).2.1)).setCell ⟨g,j*4+2,none⟩ (.int .i64 (nJ k j).2.2.1)).setCell ⟨g,j*4+3,none⟩ (.int .i64 (nJ k j).2.2.2)) g (i*4) (nJ k i):=by
     intro i hi;by_cases e:i=j
     ·
      subst e;exact P8 hR (by omega)
     . exact wY (hA i (by omega)) (.inr (by omega))
    clear hA;go_wp2;go_roundw;case rel=>exact⟨j+1,by omega,by go_num,by go_num,(((hR.set _ _).set _ _).set _ _).set _ _,HA,Ce (Ce (Ce (Ce hg (D8 _ _ _ _)) (D8 _ _ _ _)) (D8 _ _ _ _)) (D8 _ _ _ _)⟩
    case measure=>simp[intOf];omega
   ·
    have:j=ds.length:=by omega
    subst this;have HO:ds≠[]->N4 (.slice (some ⟨g,0,none⟩) ds.length (ds.length+cap)) ds=some g:=fun h=>by rw[N4,if_neg h];rfl
    go_wp2;go_ret;refine⟨rfl,⟨_,cap,by rw[Kf],.inr ⟨g,rfl,hb,by rw[Kf];exact hR,?_⟩⟩,by rw[HO hne];exact hg⟩;intro i hi;rw[Kf] at hi;rw[bG _ _ _ hi];exact hA i hi
theorem Pu (w wo:World)(base:Nat)(v:Value)(k:Int)(AA:List (List Dd))(h:Jx wo base v AA)(hsame:∀b,base<=b->b<wo.heap.size->w.heap[b]? = wo.heap[b]?)
  (hn:AA.length<=1048576) (hs:BF AA<=1048576) (h0:1<=k) (h1:k<=1048576):
  Calls Tryz.prog 26 #[v,.int .i64 k] w fun e w'=>e = .returned (.int .i64 (k+4*BF AA))/\Jx w' base v (MZ k AA)/\LJ base wo.heap.size w w':=by
 obtain⟨a,cap,rfl,h⟩:=h;by_cases hne:AA=[]
 ·
  subst hne;clear h;go_enter Tryz.func26,Tryz.ntmps26
  go_wp2;refine wp_loop_rounds 1 ?_;rw[rounds_succ];go_wp2;go_ret;exact⟨by simp[BF],⟨a,cap,rfl,.inl rfl⟩,LJ.refl _ _ _⟩
 ·
  rcases h with h|⟨g,V,rfl,hg,hB,hc,hA⟩
  . exact absurd h hne
  have gl:=hB.lt
  have top:∀i,i<AA.length->∀b,N4 (V i) (AA.getD i [])=some b->base<=b/\b<wo.heap.size:=by
   intro i hi b hb;obtain⟨a',cap',e,h⟩:=(hc i hi).2;rw[N4] at hb;split at hb
   . cases hb
   ·
    rename_i hd;rcases h with h|⟨g',rfl,hb',hB',_⟩
    . exact absurd h hd
    ·
     rw[e] at hb;simp only[Value.ownBlock,Option.some.injEq] at hb;subst hb;exact⟨hb',hB'.lt⟩
  have eg:=hsame g hg gl
  have start:LG w g AA.length/\∀i,i<AA.length->w.cell? ⟨g,i,none⟩=some (V i)/\DG w base (V i) (AA.getD i []):=
   ⟨hB.same eg,fun i hi=>⟨(DY eg _).trans (hc i hi).1,(hc i hi).2.same (fun b _ hlt hbb=>hsame b hbb hlt)⟩⟩
  clear hB hc eg;go_enter Tryz.func26,Tryz.ntmps26
  go_wp2
  go_loopw [1,5] (fun q i wr=>∃j m:Nat,j<=AA.length/\i = .int .i64 j/\q = .int .i64 (k+4*m)/\Hid (m=BF (AA.take j))/\LG wr g AA.length /\
   (∀i,i<AA.length->wr.cell? ⟨g,i,none⟩=some (V i)/\DG wr base (V i) (if i<j then (MZ k AA).getD i [] else AA.getD i []))/\LJ base wo.heap.size w wr) (fun _ i _=>AA.length-(intOf i).toNat)
  case atStart=>exact⟨0,0,Nat.zero_le _,rfl,by simp,Lib.hid (by simp[BF]),start.1,fun i hi=>by rw[if_neg (by omega)];exact start.2 i hi,LJ.refl _ _ _⟩
  case round=>
   obtain⟨j,m,hj,rfl,rfl,hm,hR,hD,hO⟩:=hrel;clear start;by_cases hlt:j<AA.length
   ·
    obtain⟨c1,o1⟩:=hD j hlt;rw[if_neg (by omega)] at o1;have hlen:=aj AA j hlt;have HM:Hid (m+(AA.getD j []).length=BF (AA.take (j+1))):=Lib.hid (by rw[Oe AA j [] hlt,Jf,hm.out]);rw[<-hm.out] at hlen
    have REST:∀wz:World,DG wz base (V j) (St (k+4*(m:Int)) (AA.getD j []).length)->wr.grownBy wz (N4 (V j) (AA.getD j [])) ->
      LG wz g AA.length/\(∀i,i<AA.length->wz.cell? ⟨g,i,none⟩=some (V i)/\DG wz base (V i) (if i<j+1 then (MZ k AA).getD i [] else AA.getD i []))/\LJ base wo.heap.size w wz:=by
     intro wz hz gz
     have hrow:N4 (V j) (AA.getD j [])≠some g:=by
      rw[N4];split
      . simp
      ·
       rename_i hd;exact hA.1 j hlt hd
     have eg:wz.heap[g]? = wr.heap[g]?:=gz.block g hR.lt (fun e=>hrow e.symm);refine⟨hR.same eg,?_,hO.grown gz (top j hlt)⟩;intro i hi;refine⟨(DY eg _).trans (hD i hi).1,?_⟩;by_cases e:i=j
     ·
      subst e;rw[if_pos (by omega),H5 _ _ _ hlt,<-hm.out];exact hz
     ·
      have hh:=(hD i hi).2
      rw[show (if i<j+1 then (MZ k AA).getD i [] else AA.getD i [])=(if i<j then (MZ k AA).getD i [] else AA.getD i []) by
       by_cases h':i<j
       . rw[if_pos h',if_pos (by omega)]
       . rw[if_neg h',if_neg (by omega)]]
      refine hh.kept gz ?_;by_cases hd:AA.getD i []=[]
      ·
       left;split
       . rw[H5 _ _ _ hi,hd];rfl
       . exact hd
      ·
       right;rw[N4];split
       ·
        rename_i hdj;obtain⟨a',cap',e',h'⟩:=hh;rcases h' with h'|⟨g',rfl,_,_,_⟩
        ·
         exfalso;split at h'
         ·
          rw[H5 _ _ _ hi,bH] at h';exact hd (List.eq_nil_of_length_eq_zero h')
         . exact hd h'
        . rw[e'];simp[Value.ownBlock]
       ·
        rename_i hdj;rcases Nat.lt_or_gt_of_ne e with hl|hl
        . exact hA.2 i j hl hlt hd hdj
        . exact fun e'=>hA.2 j i hl hi hdj hd e'.symm
    clear hD hR hO hm;generalize (AA.getD j [])=dj at o1 hlen HM REST;have i1:(0:Int)<=(j:Int):=Int.natCast_nonneg _;have i2:(j:Int)<(AA.length:Int):=by omega
    go_wp2_with fail
    refine (Xx _ _ _ _ _ o1 (by omega) (by omega) (by omega)).mono ?_;rintro e wz ⟨rfl,hz,gz⟩;obtain⟨R1,R2,R3⟩:=REST wz hz gz;clear REST hz gz o1 c1;go_wp2;go_roundw;case rel=>exact⟨j+1,m+dj.length,by omega,by go_num,by go_num,HM,R1,R2,R3⟩
    case measure=>simp[intOf];omega
   ·
    have:j=AA.length:=by omega
    subst this;rw[List.take_length] at hm;go_wp2;go_ret;refine⟨by rw[<-hm.out];rfl,⟨_,cap,by rw[Kg],.inr ⟨g,V,rfl,hg,by rw[Kg];exact hR,?_,?_⟩⟩,hO⟩
    ·
     intro i hi;rw[Kg] at hi;have:=hD i hi;rw[if_pos hi] at this;exact this
    ·
     rw[Kg]
     have nz:∀i,i<AA.length->(MZ k AA).getD i []≠[]->AA.getD i []≠[]:=by
      intro i hi hd e;rw[H5 _ _ _ hi,e] at hd;exact hd rfl
     exact⟨fun i hi hd=>hA.1 i hi (nz i hi hd),fun i j hij hj hd he=>hA.2 i j hij hj (nz i (by omega) hd) (nz j hj he)⟩
theorem Jx.keep {w w':World}{base:Nat}{v:Value}{AA:List (List Dd)}(h:Jx w base v AA)(k:AC w w'):Jx w' base v AA:=by
 obtain⟨a,cap,rfl,h⟩:=h;refine⟨a,cap,rfl,?_⟩;rcases h with h|⟨g,V,rfl,hg,hB,hc,hA⟩
 . exact .inl h
 ·
  have e:=Below.block k g hB.lt;exact .inr ⟨g,V,rfl,hg,hB.same e,fun i hi=>⟨(DY e _).trans (hc i hi).1,(hc i hi).2.keep k⟩,hA⟩
end Go.Proofs.YtnmelakgmgenjaaGreat
