/- Gathered texts. -/
import Derived.Lib.SmallJoins
import Derived.Outline
import Derived.RegionTactic
import Derived.OwnWalk
import Derived.Lib.Hide
import Derived.Deep.RegionHeld3
import Derived.Deep.QuietTactic
import Derived.BigQuiet
import Derived.Test.YtgakfkjjkobpiabGreatMG
import Derived.Deep.Cut
import Derived.Test.YtgakfkjjkobpiabGreatMI
set_option maxRecDepth 100000
set_option maxHeartbeats 8000000
namespace Go.Proofs.YtgakfkjjkobpiabGreat
open Go.ChangeShapes Go.WideShapes Go.ChangeAt Go.RowKit
theorem toDeed_any (k p v g:Int)(w:World):
  Calls Tryz.prog 82 #[deedV k p v g] w fun e w'=>e = .returned (deedV k p v g)∧Keep w w':=by
 go_enter Tryz.func82,Tryz.ntmps82
 go_wp2;refine bodyPost_ret (results_row (by rfl) _ _ (w.heap.size+1) _ _ _ _ rfl (by simp only[heap_at,heap_size];repeat (first|exact if_pos rfl|exact if_pos trivial|rw[if_neg (by omega)])) Tryz.underlying90 rfl (by kernel_rfl)) rfl ?_;exact⟨rfl,(((Keep.refl w).alloc _).alloc _).alloc _⟩
theorem szD_any (w:World)(v:Value)(ds:List Dd)(h:RdD w v ds)(left:Int)(h0:0≤left)(h1:left≤1048576)(hn:ds.length≤maxLen):
  Calls Tryz.prog 46 #[v,.int .i64 left] w fun e w'=>e = .returned (.int .i64 (if (ds.length:Int)≤left then left-ds.length else -1))∧w'=w:=by
 obtain⟨a,cap,rfl,_⟩:=h;have hm:maxLen=9223372036854775807:=rfl;by_cases hl:(ds.length:Int)≤left
 ·
  rw[if_pos hl];go_enter Tryz.func46,Tryz.ntmps46
  go_wp2;go_ret;exact⟨rfl,rfl⟩
 ·
  rw[if_neg hl];go_enter Tryz.func46,Tryz.ntmps46
  go_wp2;go_ret;exact⟨rfl,rfl⟩
theorem toD_any (w:World)(v:Value)(ds:List Dd)(h:RdD w v ds)(hn:ds.length≤1048576):
  Calls Tryz.prog 49 #[v] w fun e w'=>∃v',e = .returned v'∧OwnD w' w.heap.size v' ds∧Keep w w':=by
 obtain⟨a,c,rfl,h⟩:=h;obtain⟨i0,hi,hz0,hz1,hz2⟩:=info_parts Tryz.infoD;go_enter Tryz.func49,Tryz.ntmps49
 go_wp2_with (at_make;refine wpList_make_full _ rfl _ _ 72 rfl w.heap.size 90 i0 (.agg #[.int .i64 0,.int .i64 0,.int .i64 0,.int .i64 0]) 4 Tryz.underlying72 hi hz0 hz1 .i64 .i64 _ _ ds.length rfl rfl rfl rfl (by rw[hz2];omega) (by unfold maxLen;omega) (Nat.le_refl _) ?_;intro w1 hown hgrow)
 have hk1:Keep w w1:=(Keep.refl w).grown hgrow (by simp);have B1:=Blk.ofOwn hown;clear hown hgrow hi hz0 hz1 hz2;go_loopw [4] (fun i wr=>∃j:Nat,j≤ds.length∧i = .int .i64 j∧Blk wr w.heap.size (ds.length*4)∧(∀i,i<j→AtD wr w.heap.size (i*4) (ds.getD i zD))∧Keep w wr) (fun i _=>ds.length-(intOf i).toNat)
 case atStart=>exact⟨0,Nat.zero_le _,rfl,B1,fun i hi=>absurd hi (Nat.not_lt_zero _),hk1⟩
 case round=>
  obtain⟨j,hj,rfl,hB,hA,hK⟩:=hrel;clear B1 hk1;by_cases hlt:j<ds.length
  ·
   rcases h with h|⟨b,o,rfl,hb,hc⟩
   · exfalso;rw[h] at hlt;simp at hlt
   obtain⟨d0,d1,d2,d3⟩:=(hc j hlt).keep hb hK;obtain⟨d,hd⟩:∃d,d=ds.getD j zD:=⟨_,rfl⟩;have HD:=Lib.hid hd;rw[←hd] at d0 d1 d2 d3;have hbs:b<wr.heap.size:=Nat.lt_of_lt_of_le hb hK.size;clear hc hd;go_wp2_with fail
   refine (toDeed_any _ _ _ _ _).mono ?_;rintro e w2 ⟨rfl,k2⟩;have B2:=hB.kept k2.grownBy (by simp);obtain⟨u0,e0⟩:=B2.cell (show j*4<ds.length*4 by omega);obtain⟨u1,e1⟩:=B2.cell (show j*4+1<ds.length*4 by omega);obtain⟨u2,e2⟩:=B2.cell (show j*4+2<ds.length*4 by omega);obtain⟨u3,e3⟩:=B2.cell (show j*4+3<ds.length*4 by omega);have f0:=B2.free (j*4);have f1:=B2.free (j*4+1);have f2:=B2.free (j*4+2);have f3:=B2.free (j*4+3);go_wp2;go_roundw
   case rel=>
    refine⟨j+1,by omega,by go_num,(((B2.set _ _).set _ _).set _ _).set _ _,fun i hi=>?_,((((hK.trans k2).set (Nat.le_refl _) _ _).set (Nat.le_refl _) _ _).set (Nat.le_refl _) _ _).set (Nat.le_refl _) _ _⟩;by_cases hij:i=j
    ·
     subst hij;rw[←HD.out];exact putD_same B2 (by omega)
    · exact putD ((hA i (by omega)).keep hB.lt k2) (by omega)
   case measure=>simp[intOf];omega
  ·
   obtain rfl:j=ds.length:=by omega
   go_wp2;go_ret;exact⟨_,rfl,⟨_,0,rfl,.inr ⟨_,rfl,Nat.le_refl _,hB,hA⟩⟩,hK⟩
theorem toW_any (w:World)(v:Value)(dss:List (List Dd))(h:RdW w v dss)(hn:dss.length≤1048576)(hm:∀i,i<dss.length→(dss.getD i []).length≤1048576):
  Calls Tryz.prog 15 #[v] w fun e w'=>∃v',e = .returned v'∧OwnW w' w.heap.size v' dss∧Keep w w':=by
 obtain⟨a,c,rfl,h⟩:=h;obtain⟨i0,hi,hz0,hz1,hz2⟩:=info_parts Tryz.infoDS;go_enter Tryz.func15,Tryz.ntmps15
 go_wp2_with (at_make;refine wpList_make_full _ rfl _ _ 29 rfl w.heap.size 72 i0 (.slice none 0 0) 1 Tryz.underlying29 hi hz0 hz1 .i64 .i64 _ _ dss.length rfl rfl rfl rfl (by rw[hz2];omega) (by unfold maxLen;omega) (Nat.le_refl _) ?_;intro w1 hown hgrow)
 have hk1:Keep w w1:=(Keep.refl w).grown hgrow (by simp);have B1:=Blk.ofOwn hown;rw[Nat.mul_one] at B1;clear hown hgrow hi hz0 hz1 hz2;go_loopw [4] (fun i wr=>∃(j:Nat) (V:Nat→Value),j≤dss.length∧i = .int .i64 j∧Blk wr w.heap.size dss.length∧(∀i,i<j→wr.cell? ⟨w.heap.size,i,none⟩=some (V i)∧OwnD wr (w.heap.size+1) (V i) (dss.getD i []))∧Apart w.heap.size j V (fun i=>dss.getD i [])∧Keep w wr) (fun i _=>dss.length-(intOf i).toNat)
 case atStart=>exact⟨0,fun _ => .nilIface,Nat.zero_le _,rfl,B1,fun i hi=>absurd hi (Nat.not_lt_zero _),⟨fun i hi=>absurd hi (Nat.not_lt_zero _),fun i j _ hj=>absurd hj (Nat.not_lt_zero _)⟩,hk1⟩
 case round=>
  obtain⟨j,V,hj,rfl,hB,hV,hA,hK⟩:=hrel;clear B1 hk1;by_cases hlt:j<dss.length
  ·
   rcases h with h|⟨b,o,rfl,hb,hc⟩
   · exfalso;rw[h] at hlt;simp at hlt
   obtain⟨u,e0,r0⟩:=hc j hlt;have e1:=(hK.cell hb).trans e0;have r1:=r0.keep hK;have hbs:b<wr.heap.size:=Nat.lt_of_lt_of_le hb hK.size;have hmj:=hm j hlt;clear hc e0 r0;go_wp2_with fail
   refine (toD_any _ _ _ r1 hmj).mono ?_;rintro e w2 ⟨v',rfl,o2,k2⟩
   obtain⟨a',cap',hv'⟩:∃a' cap',v' = .slice a' (dss.getD j []).length cap':=by
    obtain⟨a',cap',h,_⟩:=o2;exact⟨a',_,h⟩
   generalize hlen':(dss.getD j []).length=len' at hv';clear hlen';subst hv';have B2:=hB.kept k2.grownBy (by simp);obtain⟨u0,q0⟩:=B2.cell hlt;have f0:=B2.free j;have hBl:=hB.lt;go_wp2;go_roundw
   case rel=>
    refine⟨j+1,fun i=>if i=j then .slice a' len' cap' else V i,by omega,by go_num,B2.set _ _,fun i hi=>?_,⟨fun i hi hne=>?_,fun i i' hii hi' hne hne'=>?_⟩,(hK.trans k2).set (Nat.le_refl _) _ _⟩
    ·
     by_cases hij:i=j
     ·
      subst hij;refine⟨by simp[World.cell?_setCell_same _ _ _ q0],?_⟩;simp only[if_pos];refine (o2.kept (grown_put w2 w.heap.size i _) ?_).mono (by omega);by_cases h0:dss.getD i []=[]
      · exact .inl h0
      ·
       obtain⟨g,hg,hgb,_⟩:=o2.block h0;refine .inr (fun e=>?_);rw[hg] at e;simp at e;omega
     ·
      simp only[if_neg hij];obtain⟨c1,c2⟩:=hV i (by omega);refine⟨?_,?_⟩
      ·
       rw[World.cell?_setCell_other _ _ _ _ (by intro e;apply hij;injection e with _ e2;exact e2.symm),k2.cell hBl];exact c1
      ·
       refine (c2.keep k2).kept (grown_put w2 w.heap.size j _) ?_;by_cases h0:dss.getD i []=[]
       · exact .inl h0
       · exact .inr (hA.1 i (by omega) h0)
    ·
     by_cases hij:i=j
     ·
      subst hij;simp only[if_pos];obtain⟨g,hg,hgb,_⟩:=o2.block hne;intro e;rw[hg] at e;simp at e;omega
     ·
      simp only[if_neg hij];exact hA.1 i (by omega) hne
    ·
     have hi0:¬i=j:=by omega
     simp only[if_neg hi0];by_cases hij:i'=j
     ·
      subst hij;simp only[if_pos];obtain⟨g,hg,_,hgs⟩:=(hV i (by omega)).2.block hne;obtain⟨g',hg',hgb',_⟩:=o2.block hne';rw[hg,hg'];simp;omega
     ·
      simp only[if_neg hij];exact hA.2 i i' hii (by omega) hne hne'
   case measure=>simp[intOf];omega
  ·
   obtain rfl:j=dss.length:=by omega
   go_wp2;go_ret;exact⟨_,rfl,⟨_,_,rfl,.inr ⟨_,V,rfl,Nat.le_refl _,hB,fun i hi=>⟨(hV i hi).1,(hV i hi).2.mono (by omega)⟩,hA⟩⟩,hK⟩
theorem lenW_snoc (d:List Dd):∀l:List (List Dd),lenW (l++[d])=lenW l+d.length
 | []=>by simp[lenW]
 |x::r=>by rw[List.cons_append,lenW,lenW,lenW_snoc d r];omega
theorem take_snocD {α:Type}(l:List α)(k:Nat)(z:α)(h:k<l.length):l.take (k+1)=l.take k++[l.getD k z]:=by
 rw[List.take_add_one,List.getElem?_eq_getElem h,List.getD_eq_getElem?_getD,List.getElem?_eq_getElem h];rfl
theorem lenW_take (l:List (List Dd))(k:Nat)(h:k<l.length):lenW (l.take (k+1))=lenW (l.take k)+(l.getD k []).length:=by
 rw[take_snocD l k [] h,lenW_snoc]
theorem lenW_get (l:List (List Dd))(k:Nat)(h:k<l.length):(l.getD k []).length≤lenW l:=by
 have h1:=lenW_take l k h;have h2:=lenW_take_le l (k+1) h;omega
theorem szW_any (w:World)(v:Value)(dss:List (List Dd))(h:RdW w v dss)(left:Int)(h0:0≤left)(h1:left≤1048576)(hn:dss.length≤maxLen)(hm:∀i,i<dss.length→(dss.getD i []).length≤maxLen):
  Calls Tryz.prog 13 #[v,.int .i64 left] w fun e w'=>∃r:Int,e = .returned (.int .i64 r)∧w'=w∧(r<0∨(dss.length+lenW dss:Int)≤left):=by
 have hM:maxLen=9223372036854775807:=rfl;obtain⟨a,c,rfl,h⟩:=h;by_cases hl:(dss.length:Int)≤left
 ·
  go_enter Tryz.func13,Tryz.ntmps13
  go_wp2;go_loop [1,5] (fun l i=>∃(k:Nat) (x:Int),k≤dss.length∧i = .int .i64 k∧l = .int .i64 x∧0≤x∧x=left-dss.length-lenW (dss.take k)) (fun _ i=>dss.length-(intOf i).toNat)
  case atStart=>exact⟨0,_,Nat.zero_le _,rfl,rfl,by omega,by simp[lenW]⟩
  case round=>
   obtain⟨k,x,hk,rfl,rfl,x0,hx⟩:=hrel;by_cases hlt:k<dss.length
   ·
    rcases h with h|⟨b,o,rfl,hb,hc⟩
    · exfalso;rw[h] at hlt;simp at hlt
    obtain⟨u,e0,r0⟩:=hc k hlt;have HS:=Lib.hid (lenW_take dss k hlt);have HX:=Lib.hid hx;have hmk:=hm k hlt;have hxl:x≤1048576:=by omega
    clear hc hx;by_cases hf:((dss.getD k []).length:Int)≤x
    ·
     go_wp2_with fail
     refine (szD_any _ _ _ r0 x x0 hxl hmk).mono ?_;rw[if_pos hf];rintro e w' ⟨rfl,rfl⟩;generalize hq:x-((dss.getD k []).length:Int)=q;have HQ:=Lib.hid hq;have hq0:0≤q:=by omega
     clear hq;go_wp2;go_round
     case rel=>exact⟨k+1,q,by omega,by go_num,rfl,hq0,by have:=HS.out;have:=HX.out;have:=HQ.out;omega⟩
     case measure=>simp[intOf];omega
    ·
     go_wp2_with fail
     refine (szD_any _ _ _ r0 x x0 hxl hmk).mono ?_;rw[if_neg (by omega)];rintro e w' ⟨rfl,rfl⟩;go_wp2;go_ret;exact⟨_,rfl,rfl,.inl (by omega)⟩
   ·
    obtain rfl:k=dss.length:=by omega
    have HX:=Lib.hid hx;clear hx;go_wp2;go_ret;refine⟨_,rfl,rfl,.inr ?_⟩;have:=HX.out;rw[List.take_length] at this;omega
 ·
  go_enter Tryz.func13,Tryz.ntmps13
  go_wp2;go_ret;exact⟨_,rfl,rfl,.inl (by omega)⟩
def eqB (d d':Dd):Bool:=decide (d=d')
theorem eqDeed_any (d d':Dd)(w:World):
  Calls Tryz.prog 85 #[dV d,dV d'] w fun e w'=>e = .returned (.bool (eqB d d'))∧Keep w w':=by
 obtain⟨k,p,v,g⟩:=d;obtain⟨k',p',v',g'⟩:=d';by_cases h1:k=k'
 ·
  subst h1;by_cases h2:p=p'
  ·
   subst h2;by_cases h3:v=v'
   ·
    subst h3;by_cases h4:g=g'
    ·
     subst h4;go_enter Tryz.func85,Tryz.ntmps85
     go_wp2;go_ret;exact⟨ret_bool (by simp[eqB]),((Keep.refl w).alloc _).alloc _⟩
    ·
     have hb:(g != g')=true:=by simpa using h4
     go_enter Tryz.func85,Tryz.ntmps85
     go_wp2;go_ret;exact⟨ret_bool (by simp[eqB,h4]),((Keep.refl w).alloc _).alloc _⟩
   ·
    have hb:(v != v')=true:=by simpa using h3
    go_enter Tryz.func85,Tryz.ntmps85
    go_wp2;go_ret;exact⟨ret_bool (by simp[eqB,h3]),((Keep.refl w).alloc _).alloc _⟩
  ·
   have hb:(p != p')=true:=by simpa using h2
   go_enter Tryz.func85,Tryz.ntmps85
   go_wp2;go_ret;exact⟨ret_bool (by simp[eqB,h2]),((Keep.refl w).alloc _).alloc _⟩
 ·
  have hb:(k != k')=true:=by simpa using h1
  go_enter Tryz.func85,Tryz.ntmps85
  go_wp2;go_ret;exact⟨ret_bool (by simp[eqB,h1]),((Keep.refl w).alloc _).alloc _⟩
theorem take_eq_more {α:Type}{xs ys:List α}{k:Nat}(z:α)(hx:k<xs.length)(hy:k<ys.length)(h:xs.take k=ys.take k)(e:xs.getD k z=ys.getD k z):xs.take (k+1)=ys.take (k+1):=by
 rw[take_snocD xs k z hx,take_snocD ys k z hy,h,e]
theorem ne_at {α:Type}{xs ys:List α}{k:Nat}{z:α}(h:xs.getD k z≠ys.getD k z):xs≠ys:=by
 intro e;subst e;exact h rfl
def likeD (xs ys:List Dd):Bool:=decide (xs=ys)
theorem eqD_any (w:World)(v1 v2:Value)(xs ys:List Dd)(h1:RdD w v1 xs)(h2:RdD w v2 ys)(hx:xs.length≤1048576):
  Calls Tryz.prog 51 #[v1,v2] w fun e w'=>e = .returned (.bool (likeD xs ys))∧Keep w w':=by
 obtain⟨a1,c1,rfl,h1⟩:=h1;obtain⟨a2,c2,rfl,h2⟩:=h2;by_cases hl:xs.length=ys.length
 ·
  have hlb:((xs.length:Int) != (ys.length:Int))=false:=by simp[hl]
  have hl1:xs.length≤ys.length:=by omega
  have hl2:ys.length≤xs.length:=by omega
  clear hl;go_enter Tryz.func51,Tryz.ntmps51
  go_wp2;go_loopw [5] (fun i wr=>∃k:Nat,k≤xs.length∧i = .int .i64 k∧xs.take k=ys.take k∧Keep w wr) (fun i _=>xs.length-(intOf i).toNat)
  case atStart=>exact⟨0,Nat.zero_le _,rfl,by simp,Keep.refl _⟩
  case round=>
   obtain⟨k,hk,rfl,ht,hK⟩:=hrel;by_cases hlt:k<xs.length
   ·
    rcases h1 with h|⟨b1,o1,rfl,hb1,hc1⟩
    · exfalso;rw[h] at hlt;simp at hlt
    rcases h2 with h|⟨b2,o2,rfl,hb2,hc2⟩
    · exfalso;rw[h] at hl1;simp only[List.length_nil] at hl1;omega
    have hy2:k<ys.length:=by omega
    obtain⟨d0,d1,d2,d3⟩:=(hc1 k hlt).keep hb1 hK;obtain⟨e0,e1,e2,e3⟩:=(hc2 k hy2).keep hb2 hK;have HT:=Lib.hid ht;obtain⟨p,hp⟩:∃p,p=xs.getD k zD:=⟨_,rfl⟩;obtain⟨q,hq⟩:∃q,q=ys.getD k zD:=⟨_,rfl⟩;have HP:=Lib.hid hp;have HQ:=Lib.hid hq;rw[←hp] at d0 d1 d2 d3;rw[←hq] at e0 e1 e2 e3;clear hc1 hc2 hp hq ht;have i1:(0:Int)≤(k:Int):=Int.natCast_nonneg _;have i2:(k:Int)<(xs.length:Int):=by omega
    have i3:(k:Int)<(ys.length:Int):=by omega
    have z1:b1<wr.drew.heap.size:=Nat.lt_of_lt_of_le hb1 hK.size;have z2:b2<wr.drew.heap.size:=Nat.lt_of_lt_of_le hb2 hK.size;cases he:eqB p q
    ·
     have HE:Hid (likeD xs ys=false):=by
      refine Lib.hid (decide_eq_false (ne_at (k:=k) (z:=zD) ?_));rw[←HP.out,←HQ.out]
      simpa [eqB] using he
     go_wp2_with fail
     go_region_held3 (fun w'=>w'.cell? ⟨b1,o1+k*4,none⟩=some (.int .i64 p.1)∧w'.cell? ⟨b1,o1+k*4+1,none⟩=some (.int .i64 p.2.1)∧w'.cell? ⟨b1,o1+k*4+2,none⟩=some (.int .i64 p.2.2.1)∧w'.cell? ⟨b1,o1+k*4+3,none⟩=some (.int .i64 p.2.2.2)∧w'.cell? ⟨b2,o2+k*4,none⟩=some (.int .i64 q.1)∧w'.cell? ⟨b2,o2+k*4+1,none⟩=some (.int .i64 q.2.1)∧w'.cell? ⟨b2,o2+k*4+2,none⟩=some (.int .i64 q.2.2.1)∧w'.cell? ⟨b2,o2+k*4+3,none⟩=some (.int .i64 q.2.2.2))
      (first|go_keep|(go_split_ands;refine⟨?_,?_,?_,?_,?_,?_,?_,?_⟩<;>(rw[kk.cell (by assumption)];assumption)))
      ((go_at_call 85;refine (eqDeed_any p q _).mono ?_;rintro e wz ⟨rfl,kk⟩))
     all_goals
      go_wp2;go_ret;exact⟨by rw[HE.out];rfl,hK.drew.trans kk⟩
    ·
     have HE:Hid (xs.take (k+1)=ys.take (k+1)):=by
      refine Lib.hid (take_eq_more zD hlt hy2 HT.out ?_);rw[←HP.out,←HQ.out]
      simpa [eqB] using he
     go_wp2_with fail
     go_region_held3 (fun w'=>w'.cell? ⟨b1,o1+k*4,none⟩=some (.int .i64 p.1)∧w'.cell? ⟨b1,o1+k*4+1,none⟩=some (.int .i64 p.2.1)∧w'.cell? ⟨b1,o1+k*4+2,none⟩=some (.int .i64 p.2.2.1)∧w'.cell? ⟨b1,o1+k*4+3,none⟩=some (.int .i64 p.2.2.2)∧w'.cell? ⟨b2,o2+k*4,none⟩=some (.int .i64 q.1)∧w'.cell? ⟨b2,o2+k*4+1,none⟩=some (.int .i64 q.2.1)∧w'.cell? ⟨b2,o2+k*4+2,none⟩=some (.int .i64 q.2.2.1)∧w'.cell? ⟨b2,o2+k*4+3,none⟩=some (.int .i64 q.2.2.2))
      (first|go_keep|(go_split_ands;refine⟨?_,?_,?_,?_,?_,?_,?_,?_⟩<;>(rw[kk.cell (by assumption)];assumption)))
      ((go_at_call 85;refine (eqDeed_any p q _).mono ?_;rintro e wz ⟨rfl,kk⟩))
     all_goals
      go_wp2;go_roundw;case rel=>exact⟨k+1,by omega,by go_num,HE.out,hK.drew.trans kk⟩
      case measure=>simp[intOf];omega
   ·
    obtain rfl:k=xs.length:=by omega
    have HE:Hid (likeD xs ys=true):=by
     refine Lib.hid (decide_eq_true ?_);rw[List.take_length,List.take_of_length_le hl2] at ht;exact ht
    clear ht;go_wp2;go_ret;exact⟨by rw[HE.out];rfl,hK⟩
 ·
  have hlb:((xs.length:Int) != (ys.length:Int))=true:=by simp;omega
  have HE:Hid (likeD xs ys=false):=Lib.hid (decide_eq_false (fun e=>hl (by rw[e])));clear hl;go_enter Tryz.func51,Tryz.ntmps51
  go_wp2;go_ret;exact⟨by rw[HE.out];rfl,Keep.refl _⟩
def likeW (xs ys:List (List Dd)):Bool:=decide (xs=ys)
theorem eqW_any (w:World)(v1 v2:Value)(xs ys:List (List Dd))(h1:RdW w v1 xs)(h2:RdW w v2 ys)(hx:xs.length≤1048576)(hm:∀i,i<xs.length→(xs.getD i []).length≤1048576):
  Calls Tryz.prog 18 #[v1,v2] w fun e w'=>e = .returned (.bool (likeW xs ys))∧Keep w w':=by
 obtain⟨a1,c1,rfl,h1⟩:=h1;obtain⟨a2,c2,rfl,h2⟩:=h2;by_cases hl:xs.length=ys.length
 ·
  have hlb:((xs.length:Int) != (ys.length:Int))=false:=by simp[hl]
  have hl1:xs.length≤ys.length:=by omega
  have hl2:ys.length≤xs.length:=by omega
  clear hl;go_enter Tryz.func18,Tryz.ntmps18
  go_wp2;go_loopw [5] (fun i wr=>∃k:Nat,k≤xs.length∧i = .int .i64 k∧xs.take k=ys.take k∧Keep w wr) (fun i _=>xs.length-(intOf i).toNat)
  case atStart=>exact⟨0,Nat.zero_le _,rfl,by simp,Keep.refl _⟩
  case round=>
   obtain⟨k,hk,rfl,ht,hK⟩:=hrel;by_cases hlt:k<xs.length
   ·
    rcases h1 with h|⟨b1,o1,rfl,hb1,hc1⟩
    · exfalso;rw[h] at hlt;simp at hlt
    rcases h2 with h|⟨b2,o2,rfl,hb2,hc2⟩
    · exfalso;rw[h] at hl1;simp only[List.length_nil] at hl1;omega
    have hy2:k<ys.length:=by omega
    obtain⟨u1,e1,r1⟩:=hc1 k hlt;obtain⟨u2,e2,r2⟩:=hc2 k hy2;have d1:=(hK.cell hb1).trans e1;have d2:=(hK.cell hb2).trans e2;have r1:=r1.keep hK;have r2:=r2.keep hK;have HT:=Lib.hid ht;have hmk:=hm k hlt;clear hc1 hc2 ht e1 e2;obtain⟨p,hp⟩:∃p,p=xs.getD k []:=⟨_,rfl⟩;obtain⟨q,hq⟩:∃q,q=ys.getD k []:=⟨_,rfl⟩;have HP:=Lib.hid hp;have HQ:=Lib.hid hq;rw[←hp] at r1 hmk;rw[←hq] at r2;clear hp hq;have i1:(0:Int)≤(k:Int):=Int.natCast_nonneg _;have i2:(k:Int)<(xs.length:Int):=by omega
    have i3:(k:Int)<(ys.length:Int):=by omega
    have z1:b1<wr.drew.heap.size:=Nat.lt_of_lt_of_le hb1 hK.size;have z2:b2<wr.drew.heap.size:=Nat.lt_of_lt_of_le hb2 hK.size;cases he:likeD p q
    ·
     have HE:Hid (likeW xs ys=false):=by
      refine Lib.hid (decide_eq_false (ne_at (k:=k) (z:=[]) ?_));rw[←HP.out,←HQ.out]
      simpa [likeD] using he
     go_wp2_with fail
     go_region_held3 (fun w'=>w'.cell? ⟨b1,o1+k,none⟩=some u1∧w'.cell? ⟨b2,o2+k,none⟩=some u2)
      (first|go_keep|(go_split_ands;refine⟨?_,?_⟩<;>(rw[kk.cell (by assumption)];assumption)))
      ((go_at_call 51;refine (eqD_any _ _ _ _ _ (r1.keep ((Keep.refl wr).drew)) (r2.keep ((Keep.refl wr).drew)) hmk).mono ?_;rintro e wz ⟨rfl,kk⟩))
     all_goals
      go_wp2;go_ret;exact⟨by rw[HE.out];rfl,hK.drew.trans kk⟩
    ·
     have HE:Hid (xs.take (k+1)=ys.take (k+1)):=by
      refine Lib.hid (take_eq_more [] hlt hy2 HT.out ?_);rw[←HP.out,←HQ.out]
      simpa [likeD] using he
     go_wp2_with fail
     go_region_held3 (fun w'=>w'.cell? ⟨b1,o1+k,none⟩=some u1∧w'.cell? ⟨b2,o2+k,none⟩=some u2)
      (first|go_keep|(go_split_ands;refine⟨?_,?_⟩<;>(rw[kk.cell (by assumption)];assumption)))
      ((go_at_call 51;refine (eqD_any _ _ _ _ _ (r1.keep ((Keep.refl wr).drew)) (r2.keep ((Keep.refl wr).drew)) hmk).mono ?_;rintro e wz ⟨rfl,kk⟩))
     all_goals
      go_wp2;go_roundw;case rel=>exact⟨k+1,by omega,by go_num,HE.out,hK.drew.trans kk⟩
      case measure=>simp[intOf];omega
   ·
    obtain rfl:k=xs.length:=by omega
    have HE:Hid (likeW xs ys=true):=by
     refine Lib.hid (decide_eq_true ?_);rw[List.take_length,List.take_of_length_le hl2] at ht;exact ht
    clear ht;go_wp2;go_ret;exact⟨by rw[HE.out];rfl,hK⟩
 ·
  have hlb:((xs.length:Int) != (ys.length:Int))=true:=by simp;omega
  have HE:Hid (likeW xs ys=false):=Lib.hid (decide_eq_false (fun e=>hl (by rw[e])));clear hl;go_enter Tryz.func18,Tryz.ntmps18
  go_wp2;go_ret;exact⟨by rw[HE.out];rfl,Keep.refl _⟩
theorem eqI_same (w:World)(v1 v2:Value)(xs:List Int)(h1:Rd w v1 xs)(h2:Rd w v2 xs)(hx:xs.length≤1048576):
  Calls Tryz.prog 19 #[v1,v2] w fun e w'=>e = .returned (.bool true)∧Keep w w':=by
 have h:=eq_any w v1 v2 xs xs h1 h2 hx;rw[show decide (xs=xs)=true by simp] at h;exact h
theorem eqWw_same (w:World)(v1 v2:Value)(xs:List (List Dd))(h1:RdW w v1 xs)(h2:RdW w v2 xs)(hx:xs.length≤1048576)(hm:∀i,i<xs.length→(xs.getD i []).length≤1048576):
  Calls Tryz.prog 18 #[v1,v2] w fun e w'=>e = .returned (.bool true)∧Keep w w':=by
 have h:=eqW_any w v1 v2 xs xs h1 h2 hx hm;rw[show likeW xs xs=true by unfold likeW;simp] at h;exact h
theorem eqNote_same (x0 x1 x2:Int)(w:World):
  Calls Tryz.prog 102 #[.agg #[.int .i64 x0,.int .i64 x1,.int .i64 x2],.agg #[.int .i64 x0,.int .i64 x1,.int .i64 x2]] w fun e w'=>e = .returned (.bool true)∧Keep w w':=by
 go_enter Tryz.func102,Tryz.ntmps102
 go_wp2;go_ret;exact⟨rfl,((Keep.refl w).alloc _).alloc _⟩
theorem eqN_same (w:World)(v1 v2:Value)(es:List Nt)(h1:RdN w v1 es)(h2:RdN w v2 es)(hx:es.length≤1048576):
  Calls Tryz.prog 75 #[v1,v2] w fun e w'=>e = .returned (.bool true)∧Keep w w':=by
 obtain⟨a1,c1,rfl,h1⟩:=h1;obtain⟨a2,c2,rfl,h2⟩:=h2;go_enter Tryz.func75,Tryz.ntmps75
 go_wp2;go_loopw [5] (fun i wr=>∃k:Nat,k≤es.length∧i = .int .i64 k∧Keep w wr) (fun i _=>es.length-(intOf i).toNat)
 case atStart=>exact⟨0,Nat.zero_le _,rfl,Keep.refl _⟩
 case round=>
  obtain⟨k,hk,rfl,hK⟩:=hrel;by_cases hlt:k<es.length
  ·
   rcases h1 with h|⟨b1,o1,rfl,hb1,hc1⟩
   · exfalso;rw[h] at hlt;simp at hlt
   rcases h2 with h|⟨b2,o2,rfl,hb2,hc2⟩
   · exfalso;rw[h] at hlt;simp at hlt
   have A1:=(hc1 k _ (nts_get hlt)).keep hb1 hK;have A2:=(hc2 k _ (nts_get hlt)).keep hb2 hK;generalize es.getD k zN=e at A1 A2;clear hc1 hc2;obtain⟨x0,x1,x2⟩:=e;obtain⟨d0,d1,d2⟩:=atN A1;obtain⟨e0,e1,e2⟩:=atN A2;clear A1 A2;have i1:(0:Int)≤(k:Int):=Int.natCast_nonneg _;have i2:(k:Int)<(es.length:Int):=by omega
   have z1:b1<wr.drew.heap.size:=Nat.lt_of_lt_of_le hb1 hK.size;have z2:b2<wr.drew.heap.size:=Nat.lt_of_lt_of_le hb2 hK.size;go_wp2_with fail
   go_region_held3 (fun w'=>w'.cell? ⟨b1,o1+k*3,none⟩=some (.int .i64 x0)∧w'.cell? ⟨b1,o1+k*3+1,none⟩=some (.int .i64 x1)∧w'.cell? ⟨b1,o1+k*3+2,none⟩=some (.int .i64 x2)∧w'.cell? ⟨b2,o2+k*3,none⟩=some (.int .i64 x0)∧w'.cell? ⟨b2,o2+k*3+1,none⟩=some (.int .i64 x1)∧w'.cell? ⟨b2,o2+k*3+2,none⟩=some (.int .i64 x2))
    (first|go_keep|(go_split_ands;refine⟨?_,?_,?_,?_,?_,?_⟩<;>(rw[kk.cell (by assumption)];assumption)))
    ((go_at_call 102;refine (eqNote_same x0 x1 x2 _).mono ?_;rintro e wz ⟨rfl,kk⟩))
   all_goals
    go_wp2;go_roundw;case rel=>exact⟨k+1,by omega,by go_num,hK.drew.trans kk⟩
    case measure=>simp[intOf];omega
  ·
   obtain rfl:k=es.length:=by omega
   go_wp2;go_ret;exact⟨rfl,hK⟩
theorem eqNN_same (w:World)(v1 v2:Value)(xs:List (List Nt))(h1:RdNN w v1 xs)(h2:RdNN w v2 xs)(hx:xs.length≤1048576)(hm:∀i,i<xs.length→(xs.getD i []).length≤1048576):
  Calls Tryz.prog 38 #[v1,v2] w fun e w'=>e = .returned (.bool true)∧Keep w w':=by
 obtain⟨a1,c1,rfl,h1⟩:=h1;obtain⟨a2,c2,rfl,h2⟩:=h2;go_enter Tryz.func38,Tryz.ntmps38
 go_wp2;go_loopw [5] (fun i wr=>∃k:Nat,k≤xs.length∧i = .int .i64 k∧Keep w wr) (fun i _=>xs.length-(intOf i).toNat)
 case atStart=>exact⟨0,Nat.zero_le _,rfl,Keep.refl _⟩
 case round=>
  obtain⟨k,hk,rfl,hK⟩:=hrel;by_cases hlt:k<xs.length
  ·
   rcases h1 with h|⟨b1,o1,rfl,hb1,hc1⟩
   · exfalso;rw[h] at hlt;simp at hlt
   rcases h2 with h|⟨b2,o2,rfl,hb2,hc2⟩
   · exfalso;rw[h] at hlt;simp at hlt
   obtain⟨u1,e1,r1⟩:=hc1 k hlt;obtain⟨u2,e2,r2⟩:=hc2 k hlt;have d1:=(hK.cell hb1).trans e1;have d2:=(hK.cell hb2).trans e2;have r1:=r1.keep hK;have r2:=r2.keep hK;have hmk:=hm k hlt;clear hc1 hc2 e1 e2;generalize xs.getD k []=p at r1 r2 hmk;have i1:(0:Int)≤(k:Int):=Int.natCast_nonneg _;have i2:(k:Int)<(xs.length:Int):=by omega
   have z1:b1<wr.drew.heap.size:=Nat.lt_of_lt_of_le hb1 hK.size;have z2:b2<wr.drew.heap.size:=Nat.lt_of_lt_of_le hb2 hK.size;go_wp2_with fail
   go_region_held3 (fun w'=>w'.cell? ⟨b1,o1+k,none⟩=some u1∧w'.cell? ⟨b2,o2+k,none⟩=some u2)
    (first|go_keep|(go_split_ands;refine⟨?_,?_⟩<;>(rw[kk.cell (by assumption)];assumption)))
    ((go_at_call 75;refine (eqN_same _ _ _ p (r1.keep ((Keep.refl wr).drew)) (r2.keep ((Keep.refl wr).drew)) hmk).mono ?_;rintro e wz ⟨rfl,kk⟩))
   all_goals
    go_wp2;go_roundw;case rel=>exact⟨k+1,by omega,by go_num,hK.drew.trans kk⟩
    case measure=>simp[intOf];omega
  ·
   obtain rfl:k=xs.length:=by omega
   go_wp2;go_ret;exact⟨rfl,hK⟩
theorem eqII_same (w:World)(v1 v2:Value)(xs:List (List Int))(h1:RdL w v1 xs)(h2:RdL w v2 xs)(hx:xs.length≤1048576)(hm:∀i,i<xs.length→(xs.getD i []).length≤1048576):
  Calls Tryz.prog 39 #[v1,v2] w fun e w'=>e = .returned (.bool true)∧Keep w w':=by
 obtain⟨a1,c1,rfl,h1⟩:=h1;obtain⟨a2,c2,rfl,h2⟩:=h2;go_enter Tryz.func39,Tryz.ntmps39
 go_wp2;go_loopw [5] (fun i wr=>∃k:Nat,k≤xs.length∧i = .int .i64 k∧Keep w wr) (fun i _=>xs.length-(intOf i).toNat)
 case atStart=>exact⟨0,Nat.zero_le _,rfl,Keep.refl _⟩
 case round=>
  obtain⟨k,hk,rfl,hK⟩:=hrel;by_cases hlt:k<xs.length
  ·
   rcases h1 with h|⟨b1,o1,rfl,hb1,hc1⟩
   · exfalso;rw[h] at hlt;simp at hlt
   rcases h2 with h|⟨b2,o2,rfl,hb2,hc2⟩
   · exfalso;rw[h] at hlt;simp at hlt
   obtain⟨u1,e1,r1⟩:=hc1 k hlt;obtain⟨u2,e2,r2⟩:=hc2 k hlt;have d1:=(hK.cell hb1).trans e1;have d2:=(hK.cell hb2).trans e2;have r1:=r1.keep hK;have r2:=r2.keep hK;have hmk:=hm k hlt;clear hc1 hc2 e1 e2;generalize xs.getD k []=p at r1 r2 hmk;have i1:(0:Int)≤(k:Int):=Int.natCast_nonneg _;have i2:(k:Int)<(xs.length:Int):=by omega
   have z1:b1<wr.drew.heap.size:=Nat.lt_of_lt_of_le hb1 hK.size;have z2:b2<wr.drew.heap.size:=Nat.lt_of_lt_of_le hb2 hK.size;go_wp2_with fail
   go_region_held3 (fun w'=>w'.cell? ⟨b1,o1+k,none⟩=some u1∧w'.cell? ⟨b2,o2+k,none⟩=some u2)
    (first|go_keep|(go_split_ands;refine⟨?_,?_⟩<;>(rw[kk.cell (by assumption)];assumption)))
    ((go_at_call 19;refine (eqI_same _ _ _ p (r1.keep ((Keep.refl wr).drew)) (r2.keep ((Keep.refl wr).drew)) hmk).mono ?_;rintro e wz ⟨rfl,kk⟩))
   all_goals
    go_wp2;go_roundw;case rel=>exact⟨k+1,by omega,by go_num,hK.drew.trans kk⟩
    case measure=>simp[intOf];omega
  ·
   obtain rfl:k=xs.length:=by omega
   go_wp2;go_ret;exact⟨rfl,hK⟩
theorem eqBoard_same (w:World)(v1 v2:BV)(dss:List (List Dd))(b:Bd)(h:RdBd w v1 dss b)(h2:RdBd w v2 dss b)(hz:SzBd dss b):
  Calls Tryz.prog 10 #[v1.agg,v2.agg] w fun e w'=>e = .returned (.bool true)∧Keep w w':=by
 obtain⟨aW,aP,aL,aN,aX,aT,aF,aR,cW,cP,cL,cQ,cX,cT,cF,cR,rfl⟩:=h.shapes;obtain⟨aW2,aP2,aL2,aN2,aX2,aT2,aF2,aR2,cW2,cP2,cL2,cQ2,cX2,cT2,cF2,cR2,rfl⟩:=h2.shapes;have HH:=Lib.hid h;have HJ:=Lib.hid h2;have HZ:=Lib.hid hz;clear h h2 hz;go_enter Tryz.func10,Tryz.ntmps10
 go_upto_region 1 with fail
 obtain⟨w0,hw0⟩:∃W:World,W=(w.alloc (.cells #[.slice aW dss.length cW,.slice aP b.plc.length cP,.slice aL b.lst.length cL,.slice aN b.nts.length cQ,.slice aX b.nxt.length cX,.slice aT b.sn.length cT,.slice aF b.fr.length cF,.slice aR b.rws.length cR] 32)).alloc (.cells #[.slice aW2 dss.length cW2,.slice aP2 b.plc.length cP2,.slice aL2 b.lst.length cL2,.slice aN2 b.nts.length cQ2,.slice aX2 b.nxt.length cX2,.slice aT2 b.sn.length cT2,.slice aF2 b.fr.length cF2,.slice aR2 b.rws.length cR2] 32):=⟨_,rfl⟩;have K0:Keep w w0:=by rw[hw0];exact ((Keep.refl w).alloc _).alloc _
 have z0:w0.heap.size=w.heap.size+1+1:=by rw[hw0,heap_size,heap_size]
 have hA:w0.heap[w.heap.size]? = some (.cells #[.slice aW dss.length cW,.slice aP b.plc.length cP,.slice aL b.lst.length cL,.slice aN b.nts.length cQ,.slice aX b.nxt.length cX,.slice aT b.sn.length cT,.slice aF b.fr.length cF,.slice aR b.rws.length cR] 32 (0,0)):=by rw[hw0];exact box_heap ((Keep.refl _).alloc _)
 have hB:w0.heap[w.heap.size+1]? = some (.cells #[.slice aW2 dss.length cW2,.slice aP2 b.plc.length cP2,.slice aL2 b.lst.length cL2,.slice aN2 b.nts.length cQ2,.slice aX2 b.nxt.length cX2,.slice aT2 b.sn.length cT2,.slice aF2 b.fr.length cF2,.slice aR2 b.rws.length cR2] 32 (0,0)):=by rw[hw0,←heap_size w (.cells #[.slice aW dss.length cW,.slice aP b.plc.length cP,.slice aL b.lst.length cL,.slice aN b.nts.length cQ,.slice aX b.nxt.length cX,.slice aT b.sn.length cT,.slice aF b.fr.length cF,.slice aR b.rws.length cR] 32)];exact heap_alloc_new _ _
 rw[←hw0];clear hw0;have Z0:=Lib.hid z0;have y0:w.heap.size+1<w0.heap.size:=by omega
 clear z0;have CA:Hid (∀(W:World),Keep w0 W→∀k u,(#[.slice aW dss.length cW,.slice aP b.plc.length cP,.slice aL b.lst.length cL,.slice aN b.nts.length cQ,.slice aX b.nxt.length cX,.slice aT b.sn.length cT,.slice aF b.fr.length cF,.slice aR b.rws.length cR]:Array Value)[k]? = some u→W.cell? ⟨w.heap.size,k,none⟩=some u):=Lib.hid (fun W kW k u hk=>by rw[kW.cell (by omega),cell_of_row w0 _ k _ _ _ hA];exact hk);have CB:Hid (∀(W:World),Keep w0 W→∀k u,(#[.slice aW2 dss.length cW2,.slice aP2 b.plc.length cP2,.slice aL2 b.lst.length cL2,.slice aN2 b.nts.length cQ2,.slice aX2 b.nxt.length cX2,.slice aT2 b.sn.length cT2,.slice aF2 b.fr.length cF2,.slice aR2 b.rws.length cR2]:Array Value)[k]? = some u→W.cell? ⟨w.heap.size+1,k,none⟩=some u):=Lib.hid (fun W kW k u hk=>by rw[kW.cell y0,cell_of_row w0 _ k _ _ _ hB];exact hk);clear hA hB;have k0:Keep w0 w0:=Keep.refl _;have ca0:=CA.out _ k0 0 _ rfl;have cb0:=CB.out _ k0 0 _ rfl;go_wp2_with fail
 refine (eqWw_same _ _ _ dss (HH.out.W.keep (K0.trans k0)) (HJ.out.W.keep (K0.trans k0)) HZ.out.w1 HZ.out.w2).mono ?_;rintro e w1 ⟨rfl,j0⟩;have k1:=k0.trans j0;clear ca0 cb0;have ca1:=CA.out _ k1 1 _ rfl;have cb1:=CB.out _ k1 1 _ rfl;go_wp2_with fail
 refine (eqI_same _ _ _ b.plc (HH.out.P.keep (K0.trans k1)) (HJ.out.P.keep (K0.trans k1)) HZ.out.plc).mono ?_;rintro e w2 ⟨rfl,j1⟩;have k2:=k1.trans j1;clear ca1 cb1;have ca2:=CA.out _ k2 2 _ rfl;have cb2:=CB.out _ k2 2 _ rfl;go_wp2_with fail
 refine (eqI_same _ _ _ b.lst (HH.out.L.keep (K0.trans k2)) (HJ.out.L.keep (K0.trans k2)) HZ.out.lst).mono ?_;rintro e w3 ⟨rfl,j2⟩;have k3:=k2.trans j2;clear ca2 cb2;have ca3:=CA.out _ k3 3 _ rfl;have cb3:=CB.out _ k3 3 _ rfl;go_wp2_with fail
 refine (eqNN_same _ _ _ b.nts (HH.out.N.keep (K0.trans k3)) (HJ.out.N.keep (K0.trans k3)) HZ.out.n1 HZ.out.n2).mono ?_;rintro e w4 ⟨rfl,j3⟩;have k4:=k3.trans j3;clear ca3 cb3;have ca4:=CA.out _ k4 4 _ rfl;have cb4:=CB.out _ k4 4 _ rfl;go_wp2_with fail
 refine (eqI_same _ _ _ b.nxt (HH.out.X.keep (K0.trans k4)) (HJ.out.X.keep (K0.trans k4)) HZ.out.nxt).mono ?_;rintro e w5 ⟨rfl,j4⟩;have k5:=k4.trans j4;clear ca4 cb4;have ca5:=CA.out _ k5 5 _ rfl;have cb5:=CB.out _ k5 5 _ rfl;go_wp2_with fail
 refine (eqI_same _ _ _ b.sn (HH.out.S.keep (K0.trans k5)) (HJ.out.S.keep (K0.trans k5)) HZ.out.sn).mono ?_;rintro e w6 ⟨rfl,j5⟩;have k6:=k5.trans j5;clear ca5 cb5;have ca6:=CA.out _ k6 6 _ rfl;have cb6:=CB.out _ k6 6 _ rfl;go_wp2_with fail
 refine (eqI_same _ _ _ b.fr (HH.out.F.keep (K0.trans k6)) (HJ.out.F.keep (K0.trans k6)) HZ.out.fr).mono ?_;rintro e w7 ⟨rfl,j6⟩;have k7:=k6.trans j6;clear ca6 cb6;have ca7:=CA.out _ k7 7 _ rfl;have cb7:=CB.out _ k7 7 _ rfl;go_wp2_with fail
 refine (eqII_same _ _ _ b.rws (HH.out.R.keep (K0.trans k7)) (HJ.out.R.keep (K0.trans k7)) HZ.out.r1 HZ.out.r2).mono ?_;rintro e w8 ⟨rfl,j7⟩;have k8:=k7.trans j7;clear ca7 cb7;go_wp2;go_ret;exact⟨rfl,K0.trans k8⟩
theorem markII_rows (w:World)(v:Value)(V:Nat→Value)(ln:Nat→Nat)(n:Nat)(k:Int)(hv:∃a c,v = .slice a n c∧(n=0∨∃b o,a=some ⟨b,o,none⟩∧b<w.heap.size∧∀i,i<n→w.cell? ⟨b,o+i,none⟩=some (V i)∧¬rowsS (rowsV 1 V ln n) ⟨b,o+i,none⟩))
  (hV:∀i,i<n→SlV (V i) (ln i)) (hL:Loose w (rowsV 1 V ln n)) (hn:n≤1048576) (hl:∀i,i<n→ln i≤1048576) (h0:1≤k) (h1:k+totR (rowsV 1 V ln n)≤16777216):
  Calls Tryz.prog 41 #[v,.int .i64 k] w fun e w'=>e = .returned (.int .i64 (k+totR (rowsV 1 V ln n)))∧Wrt (rowsS (rowsV 1 V ln n)) w w'∧mkR w' k (rowsV 1 V ln n):=by
 obtain⟨a,cap,rfl,hv⟩:=hv;have HL:=Lib.hid hL;have HV:=Lib.hid hV;have HN:=Lib.hid hl;have HT:Hid (∀j,j≤n→k+totR (rowsV 1 V ln j)≤16777216):=Lib.hid (fun j hj=>by have:=rowsV_mono 1 V ln n j hj;omega);clear hL hV hl h1;go_enter Tryz.func41,Tryz.ntmps41
 go_wp2;go_loopw [1,5] (fun q i wr=>∃j m:Nat,j≤n∧i = .int .i64 j∧q = .int .i64 (k+(m:Int))∧Hid (m=totR (rowsV 1 V ln j))∧Wrt (rowsS (rowsV 1 V ln j)) w wr∧Hid (mkR wr k (rowsV 1 V ln j))) (fun _ i _=>n-(intOf i).toNat)
 case atStart=>exact⟨0,0,Nat.zero_le _,rfl,by simp,Lib.hid rfl,Wrt.refl _ _,Lib.hid trivial⟩
 case round=>
  obtain⟨j,m,hj,rfl,rfl,hm,hG,hM⟩:=hrel;by_cases hlt:j<n
  ·
   rcases hv with hv|⟨b,o,rfl,hb,hc⟩
   · exfalso;omega
   obtain⟨hc1,hc2⟩:=hc j hlt;have hS:∀x,rowsS (rowsV 1 V ln j) x→rowsS (rowsV 1 V ln n) x:=fun x ⟨r,hr,hx⟩=>⟨r,(rowsV_sub 1 V ln n j hj).subset hr,hx⟩
   have d1:=(hG.cell _ hb (fun h=>hc2 (hS _ h))).trans hc1;have hLj:=HL.out.sub (rowsV_sub 1 V ln n (j+1) hlt);obtain⟨a2,c2,eV,hs2⟩:=HV.out j hlt;have hlj:=HN.out j hlt;have hk:=HT.out j hj;rw[←hm.out] at hk;have HM2:Hid (m+ln j=totR (rowsV 1 V ln (j+1))):=Lib.hid (by rw[rowsV_tot,hm.out];simp);have C:=markI_row wr a2 (ln j) c2 (k+(m:Int)) hs2 (fun x hx=>(hLj.wb x (by rw[rowsV];exact rowsS_append.2 (.inr ⟨_,List.mem_singleton.2 rfl,by rw[eV];simpa using hx⟩))).kept hG) hlj (by omega) (by omega)
   have NX:∀wz:World,Wrt (rowS (.slice a2 (ln j) c2) (ln j)) wr wz→Mkd wz (.slice a2 (ln j) c2) (ln j) (k+(m:Int))→Wrt (rowsS (rowsV 1 V ln (j+1))) w wz∧mkR wz k (rowsV 1 V ln (j+1)):=by
    intro wz g1 g2;rw[rowsV] at hLj ⊢;refine mk_then hLj hG hM.out (g1.more (fun x hx=>⟨_,List.mem_singleton.2 rfl,by rw[eV];simpa using hx⟩)) ⟨?_,trivial⟩;rw[←hm.out];show Mkd wz (V j) (1*ln j) _;rw[eV]
    simpa using g2
   rw[show k+(m:Int)+(ln j:Int)=k+((m+ln j:Nat):Int) by omega] at C;rw[eV] at d1;clear hc hLj hS hG hM hm eV hc1 hc2;have i1:(0:Int)≤(j:Int):=Int.natCast_nonneg _;have i2:(j:Int)<(n:Int):=by omega
   go_wp2_with fail
   refine C.mono ?_;rintro e wz ⟨rfl,g1,g2⟩;obtain⟨G,M⟩:=NX wz g1 g2;have HMM:=Lib.hid M;clear NX C g1 g2 d1 M;go_wp2;go_roundw;case rel=>exact⟨j+1,_,by omega,by go_num,rfl,HM2,G,HMM⟩
   case measure=>simp[intOf];omega
  ·
   obtain rfl:j=n:=by omega
   go_wp2;go_ret;exact⟨by rw[hm.out];rfl,hG,hM.out⟩
theorem markDD_rows (w:World)(v:Value)(V:Nat→Value)(ln:Nat→Nat)(n:Nat)(k:Int)(hv:∃a c,v = .slice a n c∧(n=0∨∃b o,a=some ⟨b,o,none⟩∧b<w.heap.size∧∀i,i<n→w.cell? ⟨b,o+i,none⟩=some (V i)∧¬rowsS (rowsV 4 V ln n) ⟨b,o+i,none⟩))
  (hV:∀i,i<n→SlV (V i) (ln i)) (hL:Loose w (rowsV 4 V ln n)) (hn:n≤1048576) (hl:∀i,i<n→ln i≤1048576) (h0:1≤k) (h1:k+totR (rowsV 4 V ln n)≤16777216):
  Calls Tryz.prog 20 #[v,.int .i64 k] w fun e w'=>e = .returned (.int .i64 (k+totR (rowsV 4 V ln n)))∧Wrt (rowsS (rowsV 4 V ln n)) w w'∧mkR w' k (rowsV 4 V ln n):=by
 obtain⟨a,cap,rfl,hv⟩:=hv;have HL:=Lib.hid hL;have HV:=Lib.hid hV;have HN:=Lib.hid hl;have HT:Hid (∀j,j≤n→k+totR (rowsV 4 V ln j)≤16777216):=Lib.hid (fun j hj=>by have:=rowsV_mono 4 V ln n j hj;omega);clear hL hV hl h1;go_enter Tryz.func20,Tryz.ntmps20
 go_wp2;go_loopw [1,5] (fun q i wr=>∃j m:Nat,j≤n∧i = .int .i64 j∧q = .int .i64 (k+(m:Int))∧Hid (m=totR (rowsV 4 V ln j))∧Wrt (rowsS (rowsV 4 V ln j)) w wr∧Hid (mkR wr k (rowsV 4 V ln j))) (fun _ i _=>n-(intOf i).toNat)
 case atStart=>exact⟨0,0,Nat.zero_le _,rfl,by simp,Lib.hid rfl,Wrt.refl _ _,Lib.hid trivial⟩
 case round=>
  obtain⟨j,m,hj,rfl,rfl,hm,hG,hM⟩:=hrel;by_cases hlt:j<n
  ·
   rcases hv with hv|⟨b,o,rfl,hb,hc⟩
   · exfalso;omega
   obtain⟨hc1,hc2⟩:=hc j hlt;have hS:∀x,rowsS (rowsV 4 V ln j) x→rowsS (rowsV 4 V ln n) x:=fun x ⟨r,hr,hx⟩=>⟨r,(rowsV_sub 4 V ln n j hj).subset hr,hx⟩
   have d1:=(hG.cell _ hb (fun h=>hc2 (hS _ h))).trans hc1;have hLj:=HL.out.sub (rowsV_sub 4 V ln n (j+1) hlt);obtain⟨a2,c2,eV,hs2⟩:=HV.out j hlt;have hlj:=HN.out j hlt;have hk:=HT.out j hj;rw[←hm.out] at hk;have HM2:Hid (m+4*ln j=totR (rowsV 4 V ln (j+1))):=Lib.hid (by rw[rowsV_tot,hm.out]);have C:=markDd_row wr a2 (ln j) c2 (k+(m:Int)) hs2 (fun x hx=>(hLj.wb x (by rw[rowsV];exact rowsS_append.2 (.inr ⟨_,List.mem_singleton.2 rfl,by rw[eV];exact hx⟩))).kept hG) hlj (by omega) (by omega)
   have NX:∀wz:World,Wrt (rowS (.slice a2 (ln j) c2) (4*ln j)) wr wz→Mkd wz (.slice a2 (ln j) c2) (4*ln j) (k+(m:Int))→Wrt (rowsS (rowsV 4 V ln (j+1))) w wz∧mkR wz k (rowsV 4 V ln (j+1)):=by
    intro wz g1 g2;rw[rowsV] at hLj ⊢;refine mk_then hLj hG hM.out (g1.more (fun x hx=>⟨_,List.mem_singleton.2 rfl,by rw[eV];exact hx⟩)) ⟨?_,trivial⟩;rw[←hm.out];show Mkd wz (V j) (4*ln j) _;rw[eV];exact g2
   rw[show k+(m:Int)+4*(ln j:Int)=k+((m+4*ln j:Nat):Int) by omega] at C;rw[eV] at d1;clear hc hLj hS hG hM hm eV hc1 hc2;have i1:(0:Int)≤(j:Int):=Int.natCast_nonneg _;have i2:(j:Int)<(n:Int):=by omega
   go_wp2_with fail
   refine C.mono ?_;rintro e wz ⟨rfl,g1,g2⟩;obtain⟨G,M⟩:=NX wz g1 g2;have HMM:=Lib.hid M;clear NX C g1 g2 d1 M;go_wp2;go_roundw;case rel=>exact⟨j+1,_,by omega,by go_num,rfl,HM2,G,HMM⟩
   case measure=>simp[intOf];omega
  ·
   obtain rfl:j=n:=by omega
   go_wp2;go_ret;exact⟨by rw[hm.out];rfl,hG,hM.out⟩
theorem markNN_rows (w:World)(v:Value)(V:Nat→Value)(ln:Nat→Nat)(n:Nat)(k:Int)(hv:∃a c,v = .slice a n c∧(n=0∨∃b o,a=some ⟨b,o,none⟩∧b<w.heap.size∧∀i,i<n→w.cell? ⟨b,o+i,none⟩=some (V i)∧¬rowsS (rowsV 3 V ln n) ⟨b,o+i,none⟩))
  (hV:∀i,i<n→SlV (V i) (ln i)) (hL:Loose w (rowsV 3 V ln n)) (hn:n≤1048576) (hl:∀i,i<n→ln i≤1048576) (h0:1≤k) (h1:k+totR (rowsV 3 V ln n)≤16777216):
  Calls Tryz.prog 40 #[v,.int .i64 k] w fun e w'=>e = .returned (.int .i64 (k+totR (rowsV 3 V ln n)))∧Wrt (rowsS (rowsV 3 V ln n)) w w'∧mkR w' k (rowsV 3 V ln n):=by
 obtain⟨a,cap,rfl,hv⟩:=hv;have HL:=Lib.hid hL;have HV:=Lib.hid hV;have HN:=Lib.hid hl;have HT:Hid (∀j,j≤n→k+totR (rowsV 3 V ln j)≤16777216):=Lib.hid (fun j hj=>by have:=rowsV_mono 3 V ln n j hj;omega);clear hL hV hl h1;go_enter Tryz.func40,Tryz.ntmps40
 go_wp2;go_loopw [1,5] (fun q i wr=>∃j m:Nat,j≤n∧i = .int .i64 j∧q = .int .i64 (k+(m:Int))∧Hid (m=totR (rowsV 3 V ln j))∧Wrt (rowsS (rowsV 3 V ln j)) w wr∧Hid (mkR wr k (rowsV 3 V ln j))) (fun _ i _=>n-(intOf i).toNat)
 case atStart=>exact⟨0,0,Nat.zero_le _,rfl,by simp,Lib.hid rfl,Wrt.refl _ _,Lib.hid trivial⟩
 case round=>
  obtain⟨j,m,hj,rfl,rfl,hm,hG,hM⟩:=hrel;by_cases hlt:j<n
  ·
   rcases hv with hv|⟨b,o,rfl,hb,hc⟩
   · exfalso;omega
   obtain⟨hc1,hc2⟩:=hc j hlt;have hS:∀x,rowsS (rowsV 3 V ln j) x→rowsS (rowsV 3 V ln n) x:=fun x ⟨r,hr,hx⟩=>⟨r,(rowsV_sub 3 V ln n j hj).subset hr,hx⟩
   have d1:=(hG.cell _ hb (fun h=>hc2 (hS _ h))).trans hc1;have hLj:=HL.out.sub (rowsV_sub 3 V ln n (j+1) hlt);obtain⟨a2,c2,eV,hs2⟩:=HV.out j hlt;have hlj:=HN.out j hlt;have hk:=HT.out j hj;rw[←hm.out] at hk;have HM2:Hid (m+3*ln j=totR (rowsV 3 V ln (j+1))):=Lib.hid (by rw[rowsV_tot,hm.out]);have C:=markN_row wr a2 (ln j) c2 (k+(m:Int)) hs2 (fun x hx=>(hLj.wb x (by rw[rowsV];exact rowsS_append.2 (.inr ⟨_,List.mem_singleton.2 rfl,by rw[eV];exact hx⟩))).kept hG) hlj (by omega) (by omega)
   have NX:∀wz:World,Wrt (rowS (.slice a2 (ln j) c2) (3*ln j)) wr wz→Mkd wz (.slice a2 (ln j) c2) (3*ln j) (k+(m:Int))→Wrt (rowsS (rowsV 3 V ln (j+1))) w wz∧mkR wz k (rowsV 3 V ln (j+1)):=by
    intro wz g1 g2;rw[rowsV] at hLj ⊢;refine mk_then hLj hG hM.out (g1.more (fun x hx=>⟨_,List.mem_singleton.2 rfl,by rw[eV];exact hx⟩)) ⟨?_,trivial⟩;rw[←hm.out];show Mkd wz (V j) (3*ln j) _;rw[eV];exact g2
   rw[show k+(m:Int)+3*(ln j:Int)=k+((m+3*ln j:Nat):Int) by omega] at C;rw[eV] at d1;clear hc hLj hS hG hM hm eV hc1 hc2;have i1:(0:Int)≤(j:Int):=Int.natCast_nonneg _;have i2:(j:Int)<(n:Int):=by omega
   go_wp2_with fail
   refine C.mono ?_;rintro e wz ⟨rfl,g1,g2⟩;obtain⟨G,M⟩:=NX wz g1 g2;have HMM:=Lib.hid M;clear NX C g1 g2 d1 M;go_wp2;go_roundw;case rel=>exact⟨j+1,_,by omega,by go_num,rfl,HM2,G,HMM⟩
   case measure=>simp[intOf];omega
  ·
   obtain rfl:j=n:=by omega
   go_wp2;go_ret;exact⟨by rw[hm.out];rfl,hG,hM.out⟩
theorem markBoard_any (w:World)(v:BV)(Vw Vn Vr:Nat→Value)(dss:List (List Dd))(b:Bd)(k:Int)(H:HdBd w v Vw Vn Vr dss b)(L:Loose w (bdR7 v Vw Vn Vr dss b))(hsz:SzBd dss b)(h0:1≤k)(h1:k+totR (bdR7 v Vw Vn Vr dss b)≤16777216):
  Calls Tryz.prog 11 #[v.agg,.int .i64 k] w fun e w'=>e = .returned (.int .i64 (k+totR (bdR7 v Vw Vn Vr dss b)))∧Wrt (rowsS (bdR7 v Vw Vn Vr dss b)) w w'∧mkR w' k (bdR7 v Vw Vn Vr dss b):=by
 have U0:(bdR0 Vw dss).Sublist (bdR7 v Vw Vn Vr dss b):=bd_sub0;have U1:(bdR1 v Vw dss b).Sublist (bdR7 v Vw Vn Vr dss b):=bd_sub1;have U2:(bdR2 v Vw dss b).Sublist (bdR7 v Vw Vn Vr dss b):=bd_sub2;have U3:(bdR3 v Vw Vn dss b).Sublist (bdR7 v Vw Vn Vr dss b):=bd_sub3;have U4:(bdR4 v Vw Vn dss b).Sublist (bdR7 v Vw Vn Vr dss b):=bd_sub4;have U5:(bdR5 v Vw Vn dss b).Sublist (bdR7 v Vw Vn Vr dss b):=bd_sub5;have U6:(bdR6 v Vw Vn dss b).Sublist (bdR7 v Vw Vn Vr dss b):=bd_sub6;have U7:(bdR7 v Vw Vn Vr dss b).Sublist (bdR7 v Vw Vn Vr dss b):=bd_sub7;have HT0:k+(totR (bdR0 Vw dss):Int)≤16777216:=by have:=totR_sub U0;omega
 have HT1:k+(totR (bdR1 v Vw dss b):Int)≤16777216:=by have:=totR_sub U1;omega
 have HT2:k+(totR (bdR2 v Vw dss b):Int)≤16777216:=by have:=totR_sub U2;omega
 have HT3:k+(totR (bdR3 v Vw Vn dss b):Int)≤16777216:=by have:=totR_sub U3;omega
 have HT4:k+(totR (bdR4 v Vw Vn dss b):Int)≤16777216:=by have:=totR_sub U4;omega
 have HT5:k+(totR (bdR5 v Vw Vn dss b):Int)≤16777216:=by have:=totR_sub U5;omega
 have HT6:k+(totR (bdR6 v Vw Vn dss b):Int)≤16777216:=by have:=totR_sub U6;omega
 have HT7:k+(totR (bdR7 v Vw Vn Vr dss b):Int)≤16777216:=by have:=totR_sub U7;omega
 have LW:=fun x hx=>(L.wb x hx).lt
 have C0:∀w0 wi:World,HdBd w0 v Vw Vn Vr dss b→Loose w0 (bdR7 v Vw Vn Vr dss b)→Wrt (fun _=>False) w0 wi→Calls Tryz.prog 20 #[v.W,.int .i64 k] wi fun e w'=>e = .returned (.int .i64 (k+(totR (bdR0 Vw dss):Int)))∧Wrt (rowsS (bdR0 Vw dss)) w0 w'∧mkR w' k (bdR0 Vw dss):=by
  intro w0 wi H0 L0 g;refine (markDD_rows wi v.W Vw _ _ k ((H0.hW.kept g (fun x hx=>absurd hx (fun h=>h))).less (fun x hx=>rowsS_sub U0 (hx))) H0.sW ((L0.sub (U0)).kept g) hsz.w1 hsz.w2 (by omega) (by exact HT0)).mono ?_;rintro e w' ⟨rfl,g2,m2⟩;exact⟨rfl,(g.more (fun x hx=>absurd hx (fun h=>h))).trans g2,m2⟩
 have C1:∀w0 wi:World,HdBd w0 v Vw Vn Vr dss b→Loose w0 (bdR7 v Vw Vn Vr dss b)→Wrt (rowsS (bdR0 Vw dss)) w0 wi→mkR wi k (bdR0 Vw dss)→Calls Tryz.prog 21 #[v.P,.int .i64 (k+(totR (bdR0 Vw dss):Int))] wi fun e w'=>e = .returned (.int .i64 (k+(totR (bdR1 v Vw dss b):Int)))∧Wrt (rowsS (bdR1 v Vw dss b)) w0 w'∧mkR w' k (bdR1 v Vw dss b):=by
  intro w0 wi H0 L0 g mm;obtain⟨a,c,e,hs⟩:=H0.sP;have E1:∀x,rowS (.slice a b.plc.length c) b.plc.length x→rowsS [(v.P,b.plc.length)] x:=fun x hx=>⟨_,List.mem_singleton.2 rfl,by rw[e];exact hx⟩
  have hk:k+(totR (bdR0 Vw dss):Int)+(b.plc.length:Int)≤16777216:=by have:=HT1;rw[bdR1,totR_append] at this;simp only[totR] at this;omega
  have C:=markI_row wi a b.plc.length c (k+(totR (bdR0 Vw dss):Int)) hs (fun x hx=>(L0.wb x (rowsS_sub U1 (rowsS_append.2 (.inr (E1 x hx))))).kept g) hsz.plc (by omega) (by omega);rw[←e] at C;refine C.mono ?_;rintro e w' ⟨rfl,g2,m2⟩;have T:=mk_then (b:=[(v.P,b.plc.length)]) (L0.sub U1) g mm (g2.more (fun x hx=>⟨_,List.mem_singleton.2 rfl,hx⟩)) ⟨m2,trivial⟩;exact⟨by rw[bdR1,totR_append];simp only[totR];rw[Int.natCast_add,Int.add_assoc];rfl,T.1,T.2⟩
 have C2:∀w0 wi:World,HdBd w0 v Vw Vn Vr dss b→Loose w0 (bdR7 v Vw Vn Vr dss b)→Wrt (rowsS (bdR1 v Vw dss b)) w0 wi→mkR wi k (bdR1 v Vw dss b)→Calls Tryz.prog 21 #[v.L,.int .i64 (k+(totR (bdR1 v Vw dss b):Int))] wi fun e w'=>e = .returned (.int .i64 (k+(totR (bdR2 v Vw dss b):Int)))∧Wrt (rowsS (bdR2 v Vw dss b)) w0 w'∧mkR w' k (bdR2 v Vw dss b):=by
  intro w0 wi H0 L0 g mm;obtain⟨a,c,e,hs⟩:=H0.sL;have E1:∀x,rowS (.slice a b.lst.length c) b.lst.length x→rowsS [(v.L,b.lst.length)] x:=fun x hx=>⟨_,List.mem_singleton.2 rfl,by rw[e];exact hx⟩
  have hk:k+(totR (bdR1 v Vw dss b):Int)+(b.lst.length:Int)≤16777216:=by have:=HT2;rw[bdR2,totR_append] at this;simp only[totR] at this;omega
  have C:=markI_row wi a b.lst.length c (k+(totR (bdR1 v Vw dss b):Int)) hs (fun x hx=>(L0.wb x (rowsS_sub U2 (rowsS_append.2 (.inr (E1 x hx))))).kept g) hsz.lst (by omega) (by omega);rw[←e] at C;refine C.mono ?_;rintro e w' ⟨rfl,g2,m2⟩;have T:=mk_then (b:=[(v.L,b.lst.length)]) (L0.sub U2) g mm (g2.more (fun x hx=>⟨_,List.mem_singleton.2 rfl,hx⟩)) ⟨m2,trivial⟩;exact⟨by rw[bdR2,totR_append];simp only[totR];rw[Int.natCast_add,Int.add_assoc];rfl,T.1,T.2⟩
 have C3:∀w0 wi:World,HdBd w0 v Vw Vn Vr dss b→Loose w0 (bdR7 v Vw Vn Vr dss b)→Wrt (rowsS (bdR2 v Vw dss b)) w0 wi→mkR wi k (bdR2 v Vw dss b)→Calls Tryz.prog 40 #[v.N,.int .i64 (k+(totR (bdR2 v Vw dss b):Int))] wi fun e w'=>e = .returned (.int .i64 (k+(totR (bdR3 v Vw Vn dss b):Int)))∧Wrt (rowsS (bdR3 v Vw Vn dss b)) w0 w'∧mkR w' k (bdR3 v Vw Vn dss b):=by
  intro w0 wi H0 L0 g mm;refine (markNN_rows wi v.N Vn _ _ (k+(totR (bdR2 v Vw dss b):Int)) ((H0.hN.kept g (fun x hx=>rowsS_sub U2 hx)).less (fun x hx=>rowsS_sub U3 (rowsS_append.2 (.inr hx)))) H0.sN ((L0.sub ((List.sublist_append_right _ _).trans U3)).kept g) hsz.n1 hsz.n2 (by omega) (by have:=HT3;rw[bdR3,totR_append] at this;omega)).mono ?_;rintro e w' ⟨rfl,g2,m2⟩;have T:=mk_then (L0.sub U3) g mm g2 m2;exact⟨by rw[bdR3,totR_append,Int.natCast_add,Int.add_assoc],T.1,T.2⟩
 have C4:∀w0 wi:World,HdBd w0 v Vw Vn Vr dss b→Loose w0 (bdR7 v Vw Vn Vr dss b)→Wrt (rowsS (bdR3 v Vw Vn dss b)) w0 wi→mkR wi k (bdR3 v Vw Vn dss b)→Calls Tryz.prog 21 #[v.X,.int .i64 (k+(totR (bdR3 v Vw Vn dss b):Int))] wi fun e w'=>e = .returned (.int .i64 (k+(totR (bdR4 v Vw Vn dss b):Int)))∧Wrt (rowsS (bdR4 v Vw Vn dss b)) w0 w'∧mkR w' k (bdR4 v Vw Vn dss b):=by
  intro w0 wi H0 L0 g mm;obtain⟨a,c,e,hs⟩:=H0.sX;have E1:∀x,rowS (.slice a b.nxt.length c) b.nxt.length x→rowsS [(v.X,b.nxt.length)] x:=fun x hx=>⟨_,List.mem_singleton.2 rfl,by rw[e];exact hx⟩
  have hk:k+(totR (bdR3 v Vw Vn dss b):Int)+(b.nxt.length:Int)≤16777216:=by have:=HT4;rw[bdR4,totR_append] at this;simp only[totR] at this;omega
  have C:=markI_row wi a b.nxt.length c (k+(totR (bdR3 v Vw Vn dss b):Int)) hs (fun x hx=>(L0.wb x (rowsS_sub U4 (rowsS_append.2 (.inr (E1 x hx))))).kept g) hsz.nxt (by omega) (by omega);rw[←e] at C;refine C.mono ?_;rintro e w' ⟨rfl,g2,m2⟩;have T:=mk_then (b:=[(v.X,b.nxt.length)]) (L0.sub U4) g mm (g2.more (fun x hx=>⟨_,List.mem_singleton.2 rfl,hx⟩)) ⟨m2,trivial⟩;exact⟨by rw[bdR4,totR_append];simp only[totR];rw[Int.natCast_add,Int.add_assoc];rfl,T.1,T.2⟩
 have C5:∀w0 wi:World,HdBd w0 v Vw Vn Vr dss b→Loose w0 (bdR7 v Vw Vn Vr dss b)→Wrt (rowsS (bdR4 v Vw Vn dss b)) w0 wi→mkR wi k (bdR4 v Vw Vn dss b)→Calls Tryz.prog 21 #[v.S,.int .i64 (k+(totR (bdR4 v Vw Vn dss b):Int))] wi fun e w'=>e = .returned (.int .i64 (k+(totR (bdR5 v Vw Vn dss b):Int)))∧Wrt (rowsS (bdR5 v Vw Vn dss b)) w0 w'∧mkR w' k (bdR5 v Vw Vn dss b):=by
  intro w0 wi H0 L0 g mm;obtain⟨a,c,e,hs⟩:=H0.sS;have E1:∀x,rowS (.slice a b.sn.length c) b.sn.length x→rowsS [(v.S,b.sn.length)] x:=fun x hx=>⟨_,List.mem_singleton.2 rfl,by rw[e];exact hx⟩
  have hk:k+(totR (bdR4 v Vw Vn dss b):Int)+(b.sn.length:Int)≤16777216:=by have:=HT5;rw[bdR5,totR_append] at this;simp only[totR] at this;omega
  have C:=markI_row wi a b.sn.length c (k+(totR (bdR4 v Vw Vn dss b):Int)) hs (fun x hx=>(L0.wb x (rowsS_sub U5 (rowsS_append.2 (.inr (E1 x hx))))).kept g) hsz.sn (by omega) (by omega);rw[←e] at C;refine C.mono ?_;rintro e w' ⟨rfl,g2,m2⟩;have T:=mk_then (b:=[(v.S,b.sn.length)]) (L0.sub U5) g mm (g2.more (fun x hx=>⟨_,List.mem_singleton.2 rfl,hx⟩)) ⟨m2,trivial⟩;exact⟨by rw[bdR5,totR_append];simp only[totR];rw[Int.natCast_add,Int.add_assoc];rfl,T.1,T.2⟩
 have C6:∀w0 wi:World,HdBd w0 v Vw Vn Vr dss b→Loose w0 (bdR7 v Vw Vn Vr dss b)→Wrt (rowsS (bdR5 v Vw Vn dss b)) w0 wi→mkR wi k (bdR5 v Vw Vn dss b)→Calls Tryz.prog 21 #[v.F,.int .i64 (k+(totR (bdR5 v Vw Vn dss b):Int))] wi fun e w'=>e = .returned (.int .i64 (k+(totR (bdR6 v Vw Vn dss b):Int)))∧Wrt (rowsS (bdR6 v Vw Vn dss b)) w0 w'∧mkR w' k (bdR6 v Vw Vn dss b):=by
  intro w0 wi H0 L0 g mm;obtain⟨a,c,e,hs⟩:=H0.sF;have E1:∀x,rowS (.slice a b.fr.length c) b.fr.length x→rowsS [(v.F,b.fr.length)] x:=fun x hx=>⟨_,List.mem_singleton.2 rfl,by rw[e];exact hx⟩
  have hk:k+(totR (bdR5 v Vw Vn dss b):Int)+(b.fr.length:Int)≤16777216:=by have:=HT6;rw[bdR6,totR_append] at this;simp only[totR] at this;omega
  have C:=markI_row wi a b.fr.length c (k+(totR (bdR5 v Vw Vn dss b):Int)) hs (fun x hx=>(L0.wb x (rowsS_sub U6 (rowsS_append.2 (.inr (E1 x hx))))).kept g) hsz.fr (by omega) (by omega);rw[←e] at C;refine C.mono ?_;rintro e w' ⟨rfl,g2,m2⟩;have T:=mk_then (b:=[(v.F,b.fr.length)]) (L0.sub U6) g mm (g2.more (fun x hx=>⟨_,List.mem_singleton.2 rfl,hx⟩)) ⟨m2,trivial⟩;exact⟨by rw[bdR6,totR_append];simp only[totR];rw[Int.natCast_add,Int.add_assoc];rfl,T.1,T.2⟩
 have C7:∀w0 wi:World,HdBd w0 v Vw Vn Vr dss b→Loose w0 (bdR7 v Vw Vn Vr dss b)→Wrt (rowsS (bdR6 v Vw Vn dss b)) w0 wi→mkR wi k (bdR6 v Vw Vn dss b)→Calls Tryz.prog 41 #[v.R,.int .i64 (k+(totR (bdR6 v Vw Vn dss b):Int))] wi fun e w'=>e = .returned (.int .i64 (k+(totR (bdR7 v Vw Vn Vr dss b):Int)))∧Wrt (rowsS (bdR7 v Vw Vn Vr dss b)) w0 w'∧mkR w' k (bdR7 v Vw Vn Vr dss b):=by
  intro w0 wi H0 L0 g mm;refine (markII_rows wi v.R Vr _ _ (k+(totR (bdR6 v Vw Vn dss b):Int)) ((H0.hR.kept g (fun x hx=>rowsS_sub U6 hx)).less (fun x hx=>rowsS_sub U7 (rowsS_append.2 (.inr hx)))) H0.sR ((L0.sub ((List.sublist_append_right _ _).trans U7)).kept g) hsz.r1 hsz.r2 (by omega) (by have:=HT7;rw[bdR7,totR_append] at this;omega)).mono ?_;rintro e w' ⟨rfl,g2,m2⟩;have T:=mk_then (L0.sub U7) g mm g2 m2;exact⟨by rw[bdR7,totR_append,Int.natCast_add,Int.add_assoc],T.1,T.2⟩
 have hd:∀f:BV→Value,True:=fun _=>trivial
 clear hd;have k0:Keep w (w.alloc (.cells v.arr 32)):=(Keep.refl w).alloc _;have H0:=H.keep k0;have L0:=L.keep k0;have BX:Hid (∀(S:Addr→Prop) (w1:World),Wrt S (w.alloc (.cells v.arr 32)) w1→(∀x,S x→rowsS (bdR7 v Vw Vn Vr dss b) x)→∀i,w1.cell? ⟨w.heap.size,i,none⟩=v.arr[i]?):=Lib.hid (fun S w1 g hs i=>(g.cell ⟨w.heap.size,i,none⟩ (by rw[heap_size];exact Nat.lt_succ_self _) (fun h=>by have:=LW _ (hs _ h);exact absurd this (Nat.lt_irrefl _))).trans (box_cell (Keep.refl _) i));obtain⟨aW,cW,eW,-⟩:=id H.hW;obtain⟨aP,cP,eP,-⟩:=id H.sP;obtain⟨aL,cL,eL,-⟩:=id H.sL;obtain⟨aN,cN,eN,-⟩:=id H.hN;obtain⟨aX,cX,eX,-⟩:=id H.sX;obtain⟨aS,cS,eS,-⟩:=id H.sS;obtain⟨aF,cF,eF,-⟩:=id H.sF;obtain⟨aR,cR,eR,-⟩:=id H.hR;have D0:=Lib.hid (C0 _ · H0 L0);have D1:=Lib.hid (C1 _ · H0 L0);have D2:=Lib.hid (C2 _ · H0 L0);have D3:=Lib.hid (C3 _ · H0 L0);have D4:=Lib.hid (C4 _ · H0 L0);have D5:=Lib.hid (C5 _ · H0 L0);have D6:=Lib.hid (C6 _ · H0 L0);have D7:=Lib.hid (C7 _ · H0 L0);clear C0 C1 C2 C3 C4 C5 C6 C7 H L LW hsz h1;have E8:Hid (Keep w (w.alloc (.cells v.arr 32))):=Lib.hid k0;have HS:(∀x,rowsS (bdR0 Vw dss) x→rowsS (bdR7 v Vw Vn Vr dss b) x)∧(∀x,rowsS (bdR1 v Vw dss b) x→rowsS (bdR7 v Vw Vn Vr dss b) x)∧(∀x,rowsS (bdR2 v Vw dss b) x→rowsS (bdR7 v Vw Vn Vr dss b) x)∧(∀x,rowsS (bdR3 v Vw Vn dss b) x→rowsS (bdR7 v Vw Vn Vr dss b) x)∧(∀x,rowsS (bdR4 v Vw Vn dss b) x→rowsS (bdR7 v Vw Vn Vr dss b) x)∧(∀x,rowsS (bdR5 v Vw Vn dss b) x→rowsS (bdR7 v Vw Vn Vr dss b) x)∧(∀x,rowsS (bdR6 v Vw Vn dss b) x→rowsS (bdR7 v Vw Vn Vr dss b) x):=⟨fun x hx=>rowsS_sub U0 hx,fun x hx=>rowsS_sub U1 hx,fun x hx=>rowsS_sub U2 hx,fun x hx=>rowsS_sub U3 hx,fun x hx=>rowsS_sub U4 hx,fun x hx=>rowsS_sub U5 hx,fun x hx=>rowsS_sub U6 hx⟩;have HSS:=Lib.hid HS;clear HS U0 U1 U2 U3 U4 U5 U6 U7 H0 L0 k0;generalize hP0:bdR0 Vw dss=P0 at *;generalize hP1:bdR1 v Vw dss b=P1 at *;generalize hP2:bdR2 v Vw dss b=P2 at *;generalize hP3:bdR3 v Vw Vn dss b=P3 at *;generalize hP4:bdR4 v Vw Vn dss b=P4 at *;generalize hP5:bdR5 v Vw Vn dss b=P5 at *;generalize hP6:bdR6 v Vw Vn dss b=P6 at *;generalize hP7:bdR7 v Vw Vn Vr dss b=P7 at *;clear hP0 hP1 hP2 hP3 hP4 hP5 hP6 hP7;obtain⟨W,P,L,N,X,S,F,R⟩:=v;simp only at eW eP eL eN eX eS eF eR;subst eW eP eL eN eX eS eF eR;go_enter Tryz.func11,Tryz.ntmps11
 have x0:=BX.out _ _ (Wrt.refl (fun _=>False) _) (fun x hx=>absurd hx (fun h=>h)) 0;simp at x0;go_wp2_with fail
 refine (D0.out _ (Wrt.refl _ _)).mono ?_;rintro e w1 ⟨rfl,g1,m1⟩;clear x0 D0;have x1:=BX.out _ _ g1 HSS.out.1 1;simp at x1;go_wp2_with fail
 refine (D1.out _ g1 m1).mono ?_;rintro e w2 ⟨rfl,g2,m2⟩;clear x1 D1 g1 m1;have x2:=BX.out _ _ g2 HSS.out.2.1 2;simp at x2;go_wp2_with fail
 refine (D2.out _ g2 m2).mono ?_;rintro e w3 ⟨rfl,g3,m3⟩;clear x2 D2 g2 m2;have x3:=BX.out _ _ g3 HSS.out.2.2.1 3;simp at x3;go_wp2_with fail
 refine (D3.out _ g3 m3).mono ?_;rintro e w4 ⟨rfl,g4,m4⟩;clear x3 D3 g3 m3;have x4:=BX.out _ _ g4 HSS.out.2.2.2.1 4;simp at x4;go_wp2_with fail
 refine (D4.out _ g4 m4).mono ?_;rintro e w5 ⟨rfl,g5,m5⟩;clear x4 D4 g4 m4;have x5:=BX.out _ _ g5 HSS.out.2.2.2.2.1 5;simp at x5;go_wp2_with fail
 refine (D5.out _ g5 m5).mono ?_;rintro e w6 ⟨rfl,g6,m6⟩;clear x5 D5 g5 m5;have x6:=BX.out _ _ g6 HSS.out.2.2.2.2.2.1 6;simp at x6;go_wp2_with fail
 refine (D6.out _ g6 m6).mono ?_;rintro e w7 ⟨rfl,g7,m7⟩;clear x6 D6 g6 m6;have x7:=BX.out _ _ g7 HSS.out.2.2.2.2.2.2 7;simp at x7;go_wp2_with fail
 refine (D7.out _ g7 m7).mono ?_;rintro e w8 ⟨rfl,g8,m8⟩;clear x7 D7 g7 m7;go_wp2;go_ret;exact⟨rfl,(E8.out.wrt _).trans g8,m8⟩
theorem lenG_lenW:∀dss:List (List Dd),lenG dss=lenW dss
 | []=>rfl
 |d::r=>by rw[lenG,lenW,lenG_lenW r]
theorem tot_rows {α:Type}(s:Nat)(V:Nat→Value)(l:List (List α)):∀k,k≤l.length→totR (rowsV s V (fun i=>(l.getD i []).length) k)=s*lenG (l.take k)
 | 0,_=>by simp[rowsV,totR,lenG]
 |k+1,h=>by rw[rowsV_tot,tot_rows s V l k (by omega),lenG_take l k h,Nat.mul_add]
theorem tot_board {dss:List (List Dd)}{b:Bd}(hz:SzBd dss b)(hs:SumBd dss b)(v:BV)(Vw Vn Vr:Nat→Value):totR (bdR7 v Vw Vn Vr dss b)≤13*1048576:=by
 obtain⟨s1,s2,s3⟩:=hs;have h1:=hz.plc;have h2:=hz.lst;have h3:=hz.nxt;have h4:=hz.sn;have h5:=hz.fr;unfold bdR7 bdR6 bdR5 bdR4 bdR3 bdR2 bdR1 bdR0;simp only[totR_append];rw[tot_rows 4 Vw dss _ (Nat.le_refl _),tot_rows 3 Vn b.nts _ (Nat.le_refl _),tot_rows 1 Vr b.rws _ (Nat.le_refl _),List.take_length,List.take_length,List.take_length,lenG_lenW];simp only[totR];omega
def Marked (w:World)(v:BV)(dss:List (List Dd))(b:Bd)(n:Nat):Prop:=
 ∃Vw Vn Vr:Nat→Value,HdBd w v Vw Vn Vr dss b∧n=totR (bdR7 v Vw Vn Vr dss b)∧(∀x,rowsS (bdR7 v Vw Vn Vr dss b) x→x.block<w.heap.size)∧mkR w 1 (bdR7 v Vw Vn Vr dss b)
theorem Marked.keep {w w':World}{v:BV}{dss:List (List Dd)}{b:Bd}{n:Nat}(h:Marked w v dss b n)(k:Keep w w'):Marked w' v dss b n:=by
 obtain⟨Vw,Vn,Vr,h1,h2,h3,h4⟩:=h;exact⟨Vw,Vn,Vr,h1.keep k,h2,fun x hx=>Nat.lt_of_lt_of_le (h3 x hx) k.size,mkR_kept (k.wrt (fun _=>False)) _ _ h4 (fun _ _ h=>h) h3⟩
theorem markB_any (w:World)(m:Nat)(v:BV)(dss:List (List Dd))(b:Bd)(M:Nat)(h:FreeBd w m M v dss b)(hz:SzBd dss b)(hs:SumBd dss b):
  Calls Tryz.prog 11 #[v.agg,.int .i64 1] w fun e w'=>∃n:Nat,e = .returned (.int .i64 (1+(n:Int)))∧n≤13631488∧Marked w' v dss b n∧Only m M w w':=by
 obtain⟨Vw,Vn,Vr,h1,h2,h3⟩:=h.ex;have ht:=tot_board hz hs v Vw Vn Vr;refine (markBoard_any w v Vw Vn Vr dss b 1 h1 h2 hz (by omega) (by omega)).mono ?_;rintro e w' ⟨rfl,g,mk⟩;refine⟨_,rfl,by omega,⟨Vw,Vn,Vr,h1.kept g (fun _ hx=>hx),rfl,fun x hx=>((h2.wb x hx).kept g).lt,mk⟩,g.os,g.tape,g.output,g.size,fun q hq hm=>g.block q hq (fun x hx e=>?_)⟩;have:=h3 x hx;rw[e] at this;omega
theorem heldI_row (w:World)(a:Option Addr)(n cap:Nat)(k:Int)(hs:n=0∨∃b o,a=some ⟨b,o,none⟩)(hw:∀x,rowS (.slice a n cap) (n) x→x.block<w.heap.size)(hM:Mkd w (.slice a n cap) (n) k)(hn:n≤1048576)(h0:1≤k)(h1:k≤16777216):
  Calls Tryz.prog 43 #[.slice a n cap,.int .i64 k] w fun e w'=>e = .returned (.int .i64 (k+n))∧Keep w w':=by
 go_enter Tryz.func43,Tryz.ntmps43
 go_wp2;go_loopw [1,5] (fun q i wr=>∃j:Nat,j≤n∧i = .int .i64 j∧q = .int .i64 (k+(j:Int))∧Keep w wr) (fun _ i _=>n-(intOf i).toNat)
 case atStart=>exact⟨0,Nat.zero_le _,rfl,by simp,Keep.refl _⟩
 case round=>
  obtain⟨j,hj,rfl,rfl,hK⟩:=hrel;by_cases hlt:j<n
  ·
   obtain⟨b,o,rfl⟩:∃b o,a=some ⟨b,o,none⟩:=by
    rcases hs with h|h
    · exfalso;omega
    · exact h
   have hb:b<w.heap.size:=hw ⟨b,o+0,none⟩ ⟨b,o,n,cap,0,rfl,by omega,rfl⟩;have d0:=(hK.cell hb).trans (hM b o n cap (j) rfl (by omega));have e0:(k+(j:Int) != k+(j:Int))=false:=by simp
   have i1:(0:Int)≤(j:Int):=Int.natCast_nonneg _;have i2:(j:Int)<(n:Int):=by omega
   go_wp2;go_roundw;case rel=>exact⟨j+1,by omega,by go_num,by go_num,hK⟩
   case measure=>simp[intOf];omega
  ·
   have:j=n:=by omega
   subst this;go_wp2;go_ret;exact⟨rfl,hK⟩
theorem heldDd_row (w:World)(a:Option Addr)(n cap:Nat)(k:Int)(hs:n=0∨∃b o,a=some ⟨b,o,none⟩)(hw:∀x,rowS (.slice a n cap) (4*n) x→x.block<w.heap.size)(hM:Mkd w (.slice a n cap) (4*n) k)(hn:n≤1048576)(h0:1≤k)(h1:k≤16777216):
  Calls Tryz.prog 77 #[.slice a n cap,.int .i64 k] w fun e w'=>e = .returned (.int .i64 (k+4*n))∧Keep w w':=by
 go_enter Tryz.func77,Tryz.ntmps77
 go_wp2;go_loopw [1,5] (fun q i wr=>∃j:Nat,j≤n∧i = .int .i64 j∧q = .int .i64 (k+4*(j:Int))∧Keep w wr) (fun _ i _=>n-(intOf i).toNat)
 case atStart=>exact⟨0,Nat.zero_le _,rfl,by simp,Keep.refl _⟩
 case round=>
  obtain⟨j,hj,rfl,rfl,hK⟩:=hrel;by_cases hlt:j<n
  ·
   obtain⟨b,o,rfl⟩:∃b o,a=some ⟨b,o,none⟩:=by
    rcases hs with h|h
    · exfalso;omega
    · exact h
   have hb:b<w.heap.size:=hw ⟨b,o+0,none⟩ ⟨b,o,n,cap,0,rfl,by omega,rfl⟩;have d0:=(hK.cell hb).trans (hM b o n cap (4*j) rfl (by omega));rw[show o+(4*j)=o+j*4 by omega,show k+((4*j:Nat):Int)=k+4*(j:Int) by omega] at d0;have e0:(k+4*(j:Int) != k+4*(j:Int))=false:=by simp
   have d1:=(hK.cell hb).trans (hM b o n cap (4*j+1) rfl (by omega));rw[show o+(4*j+1)=o+j*4+1 by omega,show k+((4*j+1:Nat):Int)=k+4*(j:Int)+1 by omega] at d1;have e1:(k+4*(j:Int)+1 != k+4*(j:Int)+1)=false:=by simp
   have d2:=(hK.cell hb).trans (hM b o n cap (4*j+2) rfl (by omega));rw[show o+(4*j+2)=o+j*4+2 by omega,show k+((4*j+2:Nat):Int)=k+4*(j:Int)+1+1 by omega] at d2;have e2:(k+4*(j:Int)+1+1 != k+4*(j:Int)+1+1)=false:=by simp
   have d3:=(hK.cell hb).trans (hM b o n cap (4*j+3) rfl (by omega));rw[show o+(4*j+3)=o+j*4+3 by omega,show k+((4*j+3:Nat):Int)=k+4*(j:Int)+1+1+1 by omega] at d3;have e3:(k+4*(j:Int)+1+1+1 != k+4*(j:Int)+1+1+1)=false:=by simp
   have i1:(0:Int)≤(j:Int):=Int.natCast_nonneg _;have i2:(j:Int)<(n:Int):=by omega
   go_wp2;go_roundw;case rel=>exact⟨j+1,by omega,by go_num,by go_num,hK⟩
   case measure=>simp[intOf];omega
  ·
   have:j=n:=by omega
   subst this;go_wp2;go_ret;exact⟨rfl,hK⟩
theorem heldN_row (w:World)(a:Option Addr)(n cap:Nat)(k:Int)(hs:n=0∨∃b o,a=some ⟨b,o,none⟩)(hw:∀x,rowS (.slice a n cap) (3*n) x→x.block<w.heap.size)(hM:Mkd w (.slice a n cap) (3*n) k)(hn:n≤1048576)(h0:1≤k)(h1:k≤16777216):
  Calls Tryz.prog 78 #[.slice a n cap,.int .i64 k] w fun e w'=>e = .returned (.int .i64 (k+3*n))∧Keep w w':=by
 go_enter Tryz.func78,Tryz.ntmps78
 go_wp2;go_loopw [1,5] (fun q i wr=>∃j:Nat,j≤n∧i = .int .i64 j∧q = .int .i64 (k+3*(j:Int))∧Keep w wr) (fun _ i _=>n-(intOf i).toNat)
 case atStart=>exact⟨0,Nat.zero_le _,rfl,by simp,Keep.refl _⟩
 case round=>
  obtain⟨j,hj,rfl,rfl,hK⟩:=hrel;by_cases hlt:j<n
  ·
   obtain⟨b,o,rfl⟩:∃b o,a=some ⟨b,o,none⟩:=by
    rcases hs with h|h
    · exfalso;omega
    · exact h
   have hb:b<w.heap.size:=hw ⟨b,o+0,none⟩ ⟨b,o,n,cap,0,rfl,by omega,rfl⟩;have d0:=(hK.cell hb).trans (hM b o n cap (3*j) rfl (by omega));rw[show o+(3*j)=o+j*3 by omega,show k+((3*j:Nat):Int)=k+3*(j:Int) by omega] at d0;have e0:(k+3*(j:Int) != k+3*(j:Int))=false:=by simp
   have d1:=(hK.cell hb).trans (hM b o n cap (3*j+1) rfl (by omega));rw[show o+(3*j+1)=o+j*3+1 by omega,show k+((3*j+1:Nat):Int)=k+3*(j:Int)+1 by omega] at d1;have e1:(k+3*(j:Int)+1 != k+3*(j:Int)+1)=false:=by simp
   have d2:=(hK.cell hb).trans (hM b o n cap (3*j+2) rfl (by omega));rw[show o+(3*j+2)=o+j*3+2 by omega,show k+((3*j+2:Nat):Int)=k+3*(j:Int)+1+1 by omega] at d2;have e2:(k+3*(j:Int)+1+1 != k+3*(j:Int)+1+1)=false:=by simp
   have i1:(0:Int)≤(j:Int):=Int.natCast_nonneg _;have i2:(j:Int)<(n:Int):=by omega
   go_wp2;go_roundw;case rel=>exact⟨j+1,by omega,by go_num,by go_num,hK⟩
   case measure=>simp[intOf];omega
  ·
   have:j=n:=by omega
   subst this;go_wp2;go_ret;exact⟨rfl,hK⟩
theorem heldII_rows (w:World)(v:Value)(V:Nat→Value)(ln:Nat→Nat)(n:Nat)(k:Int)(hv:∃a c,v = .slice a n c∧(n=0∨∃b o,a=some ⟨b,o,none⟩∧b<w.heap.size∧∀i,i<n→w.cell? ⟨b,o+i,none⟩=some (V i)))
  (hV:∀i,i<n→SlV (V i) (ln i)) (hw:∀x,rowsS (rowsV 1 V ln n) x→x.block<w.heap.size) (hM:mkR w k (rowsV 1 V ln n)) (hn:n≤1048576) (hl:∀i,i<n→ln i≤1048576) (h0:1≤k) (h1:k+totR (rowsV 1 V ln n)≤16777216):
  Calls Tryz.prog 45 #[v,.int .i64 k] w fun e w'=>e = .returned (.int .i64 (k+totR (rowsV 1 V ln n)))∧Keep w w':=by
 obtain⟨a,cap,rfl,hv⟩:=hv;have HW:=Lib.hid hw;have HR:=Lib.hid (fun j (hj:j<n)=>rowsV_mk 1 V ln n hM j hj);have HV:=Lib.hid hV;have HN:=Lib.hid hl;have HT:Hid (∀j,j≤n→k+totR (rowsV 1 V ln j)≤16777216):=Lib.hid (fun j hj=>by have:=rowsV_mono 1 V ln n j hj;omega);clear hM hV hl h1 hw;go_enter Tryz.func45,Tryz.ntmps45
 go_wp2;go_loopw [1,5] (fun q i wr=>∃j m:Nat,j≤n∧i = .int .i64 j∧q = .int .i64 (k+(m:Int))∧Hid (m=totR (rowsV 1 V ln j))∧Keep w wr) (fun _ i _=>n-(intOf i).toNat)
 case atStart=>exact⟨0,0,Nat.zero_le _,rfl,by simp,Lib.hid rfl,Keep.refl _⟩
 case round=>
  obtain⟨j,m,hj,rfl,rfl,hm,hK⟩:=hrel;by_cases hlt:j<n
  ·
   rcases hv with hv|⟨b,o,rfl,hb,hc⟩
   · exfalso;omega
   have d1:=(hK.cell hb).trans (hc j hlt);obtain⟨a2,c2,eV,hs2⟩:=HV.out j hlt;have hlj:=HN.out j hlt;have hk:=HT.out j hj;have hD:=HR.out j hlt;have hX:∀x,rowS (V j) (1*ln j) x→x.block<w.heap.size:=fun x hx=>HW.out x ⟨_,(rowsV_mem 1 V ln n _).2 ⟨j,hlt,rfl⟩,hx⟩
   rw[←hm.out] at hk hD;rw[eV] at hD d1 hX;have HM2:Hid (m+ln j=totR (rowsV 1 V ln (j+1))):=Lib.hid (by rw[rowsV_tot,hm.out];simp);have C:=heldI_row wr a2 (ln j) c2 (k+(m:Int)) hs2 (fun x hx=>Nat.lt_of_lt_of_le (hX x (by simpa using hx)) hK.size) (by have:=hD.keep hK hX;simpa using this) hlj (by omega) (by omega);rw[show k+(m:Int)+(ln j:Int)=k+((m+ln j:Nat):Int) by omega] at C;clear hc hm eV hD hX;have i1:(0:Int)≤(j:Int):=Int.natCast_nonneg _;have i2:(j:Int)<(n:Int):=by omega
   have i3:¬(k+((m+ln j:Nat):Int)<0):=by omega
   go_wp2_with fail
   refine C.mono ?_;rintro e wz ⟨rfl,k1⟩;have K1:=hK.trans k1;clear C d1 hK k1;generalize m+ln j=m2 at *;go_wp2;go_roundw;case rel=>exact⟨j+1,_,by omega,by go_num,rfl,HM2,K1⟩
   case measure=>simp[intOf];omega
  ·
   obtain rfl:j=n:=by omega
   go_wp2;go_ret;exact⟨by rw[hm.out];rfl,hK⟩
theorem heldDD_rows (w:World)(v:Value)(V:Nat→Value)(ln:Nat→Nat)(n:Nat)(k:Int)(hv:∃a c,v = .slice a n c∧(n=0∨∃b o,a=some ⟨b,o,none⟩∧b<w.heap.size∧∀i,i<n→w.cell? ⟨b,o+i,none⟩=some (V i)))
  (hV:∀i,i<n→SlV (V i) (ln i)) (hw:∀x,rowsS (rowsV 4 V ln n) x→x.block<w.heap.size) (hM:mkR w k (rowsV 4 V ln n)) (hn:n≤1048576) (hl:∀i,i<n→ln i≤1048576) (h0:1≤k) (h1:k+totR (rowsV 4 V ln n)≤16777216):
  Calls Tryz.prog 42 #[v,.int .i64 k] w fun e w'=>e = .returned (.int .i64 (k+totR (rowsV 4 V ln n)))∧Keep w w':=by
 obtain⟨a,cap,rfl,hv⟩:=hv;have HW:=Lib.hid hw;have HR:=Lib.hid (fun j (hj:j<n)=>rowsV_mk 4 V ln n hM j hj);have HV:=Lib.hid hV;have HN:=Lib.hid hl;have HT:Hid (∀j,j≤n→k+totR (rowsV 4 V ln j)≤16777216):=Lib.hid (fun j hj=>by have:=rowsV_mono 4 V ln n j hj;omega);clear hM hV hl h1 hw;go_enter Tryz.func42,Tryz.ntmps42
 go_wp2;go_loopw [1,5] (fun q i wr=>∃j m:Nat,j≤n∧i = .int .i64 j∧q = .int .i64 (k+(m:Int))∧Hid (m=totR (rowsV 4 V ln j))∧Keep w wr) (fun _ i _=>n-(intOf i).toNat)
 case atStart=>exact⟨0,0,Nat.zero_le _,rfl,by simp,Lib.hid rfl,Keep.refl _⟩
 case round=>
  obtain⟨j,m,hj,rfl,rfl,hm,hK⟩:=hrel;by_cases hlt:j<n
  ·
   rcases hv with hv|⟨b,o,rfl,hb,hc⟩
   · exfalso;omega
   have d1:=(hK.cell hb).trans (hc j hlt);obtain⟨a2,c2,eV,hs2⟩:=HV.out j hlt;have hlj:=HN.out j hlt;have hk:=HT.out j hj;have hD:=HR.out j hlt;have hX:∀x,rowS (V j) (4*ln j) x→x.block<w.heap.size:=fun x hx=>HW.out x ⟨_,(rowsV_mem 4 V ln n _).2 ⟨j,hlt,rfl⟩,hx⟩
   rw[←hm.out] at hk hD;rw[eV] at hD d1 hX;have HM2:Hid (m+4*ln j=totR (rowsV 4 V ln (j+1))):=Lib.hid (by rw[rowsV_tot,hm.out]);have C:=heldDd_row wr a2 (ln j) c2 (k+(m:Int)) hs2 (fun x hx=>Nat.lt_of_lt_of_le (hX x (by exact hx)) hK.size) (by have:=hD.keep hK hX;exact this) hlj (by omega) (by omega);rw[show k+(m:Int)+4*(ln j:Int)=k+((m+4*ln j:Nat):Int) by omega] at C;clear hc hm eV hD hX;have i1:(0:Int)≤(j:Int):=Int.natCast_nonneg _;have i2:(j:Int)<(n:Int):=by omega
   have i3:¬(k+((m+4*ln j:Nat):Int)<0):=by omega
   go_wp2_with fail
   refine C.mono ?_;rintro e wz ⟨rfl,k1⟩;have K1:=hK.trans k1;clear C d1 hK k1;generalize m+4*ln j=m2 at *;go_wp2;go_roundw;case rel=>exact⟨j+1,_,by omega,by go_num,rfl,HM2,K1⟩
   case measure=>simp[intOf];omega
  ·
   obtain rfl:j=n:=by omega
   go_wp2;go_ret;exact⟨by rw[hm.out];rfl,hK⟩
theorem heldNN_rows (w:World)(v:Value)(V:Nat→Value)(ln:Nat→Nat)(n:Nat)(k:Int)(hv:∃a c,v = .slice a n c∧(n=0∨∃b o,a=some ⟨b,o,none⟩∧b<w.heap.size∧∀i,i<n→w.cell? ⟨b,o+i,none⟩=some (V i)))
  (hV:∀i,i<n→SlV (V i) (ln i)) (hw:∀x,rowsS (rowsV 3 V ln n) x→x.block<w.heap.size) (hM:mkR w k (rowsV 3 V ln n)) (hn:n≤1048576) (hl:∀i,i<n→ln i≤1048576) (h0:1≤k) (h1:k+totR (rowsV 3 V ln n)≤16777216):
  Calls Tryz.prog 44 #[v,.int .i64 k] w fun e w'=>e = .returned (.int .i64 (k+totR (rowsV 3 V ln n)))∧Keep w w':=by
 obtain⟨a,cap,rfl,hv⟩:=hv;have HW:=Lib.hid hw;have HR:=Lib.hid (fun j (hj:j<n)=>rowsV_mk 3 V ln n hM j hj);have HV:=Lib.hid hV;have HN:=Lib.hid hl;have HT:Hid (∀j,j≤n→k+totR (rowsV 3 V ln j)≤16777216):=Lib.hid (fun j hj=>by have:=rowsV_mono 3 V ln n j hj;omega);clear hM hV hl h1 hw;go_enter Tryz.func44,Tryz.ntmps44
 go_wp2;go_loopw [1,5] (fun q i wr=>∃j m:Nat,j≤n∧i = .int .i64 j∧q = .int .i64 (k+(m:Int))∧Hid (m=totR (rowsV 3 V ln j))∧Keep w wr) (fun _ i _=>n-(intOf i).toNat)
 case atStart=>exact⟨0,0,Nat.zero_le _,rfl,by simp,Lib.hid rfl,Keep.refl _⟩
 case round=>
  obtain⟨j,m,hj,rfl,rfl,hm,hK⟩:=hrel;by_cases hlt:j<n
  ·
   rcases hv with hv|⟨b,o,rfl,hb,hc⟩
   · exfalso;omega
   have d1:=(hK.cell hb).trans (hc j hlt);obtain⟨a2,c2,eV,hs2⟩:=HV.out j hlt;have hlj:=HN.out j hlt;have hk:=HT.out j hj;have hD:=HR.out j hlt;have hX:∀x,rowS (V j) (3*ln j) x→x.block<w.heap.size:=fun x hx=>HW.out x ⟨_,(rowsV_mem 3 V ln n _).2 ⟨j,hlt,rfl⟩,hx⟩
   rw[←hm.out] at hk hD;rw[eV] at hD d1 hX;have HM2:Hid (m+3*ln j=totR (rowsV 3 V ln (j+1))):=Lib.hid (by rw[rowsV_tot,hm.out]);have C:=heldN_row wr a2 (ln j) c2 (k+(m:Int)) hs2 (fun x hx=>Nat.lt_of_lt_of_le (hX x (by exact hx)) hK.size) (by have:=hD.keep hK hX;exact this) hlj (by omega) (by omega);rw[show k+(m:Int)+3*(ln j:Int)=k+((m+3*ln j:Nat):Int) by omega] at C;clear hc hm eV hD hX;have i1:(0:Int)≤(j:Int):=Int.natCast_nonneg _;have i2:(j:Int)<(n:Int):=by omega
   have i3:¬(k+((m+3*ln j:Nat):Int)<0):=by omega
   go_wp2_with fail
   refine C.mono ?_;rintro e wz ⟨rfl,k1⟩;have K1:=hK.trans k1;clear C d1 hK k1;generalize m+3*ln j=m2 at *;go_wp2;go_roundw;case rel=>exact⟨j+1,_,by omega,by go_num,rfl,HM2,K1⟩
   case measure=>simp[intOf];omega
  ·
   obtain rfl:j=n:=by omega
   go_wp2;go_ret;exact⟨by rw[hm.out];rfl,hK⟩
end Go.Proofs.YtgakfkjjkobpiabGreat
