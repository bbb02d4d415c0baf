/- Gathered texts. -/
import Derived.Test.YtnmelakgmgenjaaGreatRows
import Derived.OpenShut
import Derived.Outline
import Derived.BigRegion
import Derived.RegionTactic
import Derived.Lib.Hide
import Derived.Maps.AppendAt
import Derived.Deep.RegionHeld3
import Derived.Deep.QuietTactic
import Derived.BigQuiet
import Derived.Test.YtnmelakgmgenjaaGreatME
set_option maxRecDepth 100000
set_option maxHeartbeats 8000000
namespace Go.Proofs.YtnmelakgmgenjaaGreat
open Go.ChangeShapes Go.WideShapes Go.ChangeAt Go.RowKit
theorem Gu (x:Int)(w:World):
  Calls Tryz.prog 172 #[.int .i64 x] w fun e w'=>e = .returned (.bool (Cj x 0 11))/\w'=w:=by
 go_enter Tryz.func172,Tryz.ntmps172
 go_wp2
 all_goals
  go_ret;exact⟨Bl (by rw[Bool.eq_iff_iff];unfold Cj;simp;omega),rfl⟩
theorem M4 (n s:Int)(w:World):
  Calls Tryz.prog 174 #[.int .i64 s,.int .i64 n] w fun e w'=>e = .returned (.bool (mh n s))/\w'=w:=by
 go_enter Tryz.func174,Tryz.ntmps174
 go_wp2
 ·
  go_ret;exact⟨Bl (by rw[Nq n (by assumption) (by assumption),Bool.eq_iff_iff];unfold mh;simp;omega),rfl⟩
 all_goals
  go_ret;exact⟨Bl (by rw[Bool.eq_iff_iff];unfold mh;simp;omega),rfl⟩
theorem Us (s i:Int)(w:World):
  Calls Tryz.prog 170 #[.int .i64 s,.int .i64 i] w fun e w'=>e = .returned (.bool (FT s i))/\w'=w:=by
 have key:mh 12 s=Cj s 0 4095:=by rw[Bool.eq_iff_iff];unfold mh Cj;simp;omega
 cases hs:Cj s 0 4095
 ·
  have hk:mh 12 s=false:=key.trans hs;clear key;go_enter Tryz.func170,Tryz.ntmps170
  go_wp2_with (go_at_call 174;refine (M4 _ _ _).mono ?_;rintro e w' ⟨rfl,rfl⟩)
  go_ret;exact⟨Bl (by simp[FT,hs]),rfl⟩
 ·
  have hk:mh 12 s=true:=key.trans hs;clear key;cases hi:Cj i 0 11
  ·
   go_enter Tryz.func170,Tryz.ntmps170
   go_wp2_with (first|(go_at_call 174;refine (M4 _ _ _).mono ?_;rintro e w' ⟨rfl,rfl⟩)|(go_at_call 172;refine (Gu _ _).mono ?_;rintro e w' ⟨rfl,rfl⟩))
   go_ret;exact⟨Bl (by simp[FT,hi]),rfl⟩
  ·
   have hi':=hi;simp only[Cj,decide_eq_true_eq] at hi';obtain⟨i1,i2⟩:=hi';go_enter Tryz.func170,Tryz.ntmps170
   go_wp2_with (first|(go_at_call 174;refine (M4 _ _ _).mono ?_;rintro e w' ⟨rfl,rfl⟩)|(go_at_call 172;refine (Gu _ _).mono ?_;rintro e w' ⟨rfl,rfl⟩))
   go_ret;exact⟨Bl (by simp[FT,hs,hi,fH]),rfl⟩
theorem aY (s i:Int)(w:World):
  Calls Tryz.prog 168 #[.int .i64 s,.int .i64 i] w fun e w'=>e = .returned (.int .i64 (ME s i))/\w'=w:=by
 by_cases hs:s=-1
 ·
  subst hs;go_enter Tryz.func168,Tryz.ntmps168
  go_wp2;go_ret;exact⟨Qm (WN i).symm,rfl⟩
 ·
  have hsb:(s == -1)=false:=by simp[hs]
  have HS:Hid (¬s=-1):=hs;clear hs;cases hi:Cj i 0 11
  ·
   go_enter Tryz.func168,Tryz.ntmps168
   go_wp2_with (go_at_call 172;refine (Gu _ _).mono ?_;rintro e w' ⟨rfl,rfl⟩)
   go_ret;exact⟨Qm (Yw s i hi).symm,rfl⟩
  ·
   have hi':=hi;simp only[Cj,decide_eq_true_eq] at hi';obtain⟨i1,i2⟩:=hi';go_enter Tryz.func168,Tryz.ntmps168
   go_wp2_with (go_at_call 172;refine (Gu _ _).mono ?_;rintro e w' ⟨rfl,rfl⟩)
   go_ret;exact⟨Qm (by simp[ME,HS.out,hi]),rfl⟩
abbrev Wq (p:Int):Value:= .iface 180 (.agg #[.int .i64 p])
abbrev UQ (p v:Int):Value:= .iface 159 (.agg #[.int .i64 p,.int .i64 v])
abbrev evA (x0 x1:Int)(r:Bool)(x3 x4 x5:Int):Value:= .agg #[.int .i64 x0,.int .i64 x1,.bool r,.int .i64 x3,.int .i64 x4,.int .i64 x5]
theorem at_rd (p : Int) (w : World) : (method 307 180 (.agg #[.int .i64 p]) "loop.example/g00411/impl.at").run Tryz.prog w = .ok (191, .agg #[.int .i64 p]) w := by kernel_rfl
theorem at_wr (p v : Int) (w : World) : (method 307 159 (.agg #[.int .i64 p, .int .i64 v]) "loop.example/g00411/impl.at").run Tryz.prog w = .ok (190, .agg #[.int .i64 p, .int .i64 v]) w := by kernel_rfl
theorem YL (p:Int)(w:World):Calls Tryz.prog 191 #[.agg #[.int .i64 p]] w fun e w'=>e = .returned (.int .i64 p)/\AC w w':=by
 go_enter Tryz.func191,Tryz.ntmps191
 go_wp2;go_ret;exact⟨rfl,(AC.refl w).alloc _⟩
theorem YM (p v:Int)(w:World):Calls Tryz.prog 190 #[.agg #[.int .i64 p,.int .i64 v]] w fun e w'=>e = .returned (.int .i64 p)/\AC w w':=by
 go_enter Tryz.func190,Tryz.ntmps190
 go_wp2;go_ret;exact⟨rfl,(AC.refl w).alloc _⟩
theorem qM (p:Int)(w:World):(Instr.typeAssert (Wq p) 167 180 true).run Tryz.prog w = .ok (.tuple #[.agg #[.int .i64 p],.bool true]) w:=by kernel_rfl
theorem qO (p v:Int)(w:World):(Instr.typeAssert (UQ p v) 167 180 true).run Tryz.prog w = .ok (.tuple #[.agg #[.int .i64 0],.bool false]) w:=by kernel_rfl
theorem kV (p v:Int)(w:World):(Instr.typeAssert (UQ p v) 167 159 true).run Tryz.prog w = .ok (.tuple #[.agg #[.int .i64 p,.int .i64 v],.bool true]) w:=by kernel_rfl
abbrev Zp (w:World)(B:Nat)(a0 a1 a2 a3 a4 a5:Value):World:=
 (((((w.setCell ⟨B,0,none⟩ a0).setCell ⟨B,1,none⟩ a1).setCell ⟨B,2,none⟩ a2).setCell ⟨B,3,none⟩ a3).setCell ⟨B,4,none⟩ a4).setCell ⟨B,5,none⟩ a5
theorem tT {w:World}{B:Nat}{T:TypeId}{b0 b1 b2 b3 b4 b5:Value}(h:w.heap[B]? = some (.cells #[b0,b1,b2,b3,b4,b5] T))(a0 a1 a2 a3 a4 a5:Value):
  (Zp w B a0 a1 a2 a3 a4 a5).heap[B]? = some (.cells #[a0,a1,a2,a3,a4,a5] T):=by
 have h0:=heap_setCell_same w B 0 _ _ a0 h;have h1:=heap_setCell_same _ B 1 _ _ a1 h0;have h2:=heap_setCell_same _ B 2 _ _ a2 h1;have h3:=heap_setCell_same _ B 3 _ _ a3 h2;have h4:=heap_setCell_same _ B 4 _ _ a4 h3;exact heap_setCell_same _ B 5 _ _ a5 h4
theorem PB {w wr:World}(h:AC w wr){g:Nat}(hg:w.heap.size<=g)(i:Nat)(x:Value):AC w (wr.setCell ⟨g,i,none⟩ x):=
 h.grown (row:=some g) ⟨rfl,rfl,rfl,by simp,fun k _ hk=>heap_setCell_other wr ⟨g,i,none⟩ k x (fun e=>hk (by simp[e]))⟩ (fun k hk=>by simp at hk;omega)
theorem jZ {w wr:World}(h:AC w wr)(a0 a1 a2 a3 a4 a5:Value):AC w (Zp wr w.heap.size a0 a1 a2 a3 a4 a5):=
 PB (PB (PB (PB (PB (PB h (Nat.le_refl _) 0 a0) (Nat.le_refl _) 1 a1) (Nat.le_refl _) 2 a2) (Nat.le_refl _) 3 a3) (Nat.le_refl _) 4 a4) (Nat.le_refl _) 5 a5
theorem jd (w:World)(B:Nat)(a0 a1 a2 a3 a4 a5:Value):(Zp w B a0 a1 a2 a3 a4 a5).heap.size=w.heap.size:=by simp
theorem Mp (p:Int)(w:World):
  Calls Tryz.prog 142 #[Wq p] w fun e w'=>e = .returned (evA 0 0 true p 0 0)/\AC w w':=by
 have hm:=at_rd p;have ha:=qM p;go_enter Tryz.func142,Tryz.ntmps142
 go_wp2_with fail
 refine (YL _ _).mono ?_;rintro e w1 ⟨rfl,k1⟩;have hb:=FM k1;have hh:=CX k1;have b0:=AU k1 0;have b1:=AU k1 1;have b2:=AU k1 2;have b3:=AU k1 3;have b4:=AU k1 4;have b5:=AU k1 5;have hfr:=fun j=>frozen_of_row w1 w.heap.size j _ _ (CX k1)
 have S:=tT hh (.int .i64 0) (.int .i64 0) (.bool true) (.int .i64 p) (.int .i64 0) (.int .i64 0);have K:=jZ (((AC.refl w).alloc _).trans k1) (.int .i64 0) (.int .i64 0) (.bool true) (.int .i64 p) (.int .i64 0) (.int .i64 0);have Z:=jd w1 w.heap.size (.int .i64 0) (.int .i64 0) (.bool true) (.int .i64 p) (.int .i64 0) (.int .i64 0);go_wp2;refine bodyPost_ret (BU (by rfl) _ _ w.heap.size _ _ _ _ rfl (by rw[Bw,if_neg (by rw[AD,Z];omega),Bw,if_neg (by rw[Z];omega)];exact S) Tryz.underlying128 rfl (by kernel_rfl)) rfl ?_;exact⟨rfl,(K.alloc _).alloc _⟩
theorem JY (p v:Int)(w:World):
  Calls Tryz.prog 142 #[UQ p v] w fun e w'=>e = .returned (evA 0 0 false p v 0)/\AC w w':=by
 have hm:=at_wr p v;have ha:=qO p v;have hc:=kV p v;go_enter Tryz.func142,Tryz.ntmps142
 go_wp2_with fail
 refine (YM _ _ _).mono ?_;rintro e w1 ⟨rfl,k1⟩;have hb:=FM k1;have hh:=CX k1;have b0:=AU k1 0;have b1:=AU k1 1;have b2:=AU k1 2;have b3:=AU k1 3;have b4:=AU k1 4;have b5:=AU k1 5;have hfr:=fun j=>frozen_of_row w1 w.heap.size j _ _ (CX k1)
 have S:=tT hh (.int .i64 0) (.int .i64 0) (.bool false) (.int .i64 p) (.int .i64 v) (.int .i64 0);have K:=jZ (((AC.refl w).alloc _).trans k1) (.int .i64 0) (.int .i64 0) (.bool false) (.int .i64 p) (.int .i64 v) (.int .i64 0);have Z:=jd w1 w.heap.size (.int .i64 0) (.int .i64 0) (.bool false) (.int .i64 p) (.int .i64 v) (.int .i64 0);go_wp2;refine bodyPost_ret (BU (by rfl) _ _ w.heap.size _ _ _ _ rfl (by rw[Bw,if_neg (by rw[AD,Z];omega),Bw,if_neg (by rw[Z];omega)];exact S) Tryz.underlying128 rfl (by kernel_rfl)) rfl ?_;exact⟨rfl,(K.alloc _).alloc _⟩
theorem Hv (w:World):
  Calls Tryz.prog 114 #[] w fun e w'=>∃v',e = .returned v'/\JD w' w.heap.size v' CZ/\AC w w':=by
 obtain⟨j0,hj,hy0,hy1,hy2⟩:=info_parts Tryz.ZF;have A0:JD (w.alloc (.cells #[] 128)) w.heap.size (.slice (some ⟨w.heap.size,0,none⟩) 0 0) []:=Ma w;go_enter Tryz.func114,Tryz.ntmps114
 go_wp2;go_loopw [1,5] (fun v i wr=>∃k:Nat,∃m:Int,∃es:List Ev,k<=3/\i = .int .i64 m/\m=(k:Int)/\Hid (es=CZ.take k)/\es.length<=k/\LP w wr v es []) (fun _ i _=>3-(intOf i).toNat)
 case atStart=>exact⟨0,0,[],Nat.zero_le _,rfl,rfl,Lib.hid rfl,Nat.le_refl _,A0,(AC.refl _).alloc _,by simp⟩
 case round=>
  obtain⟨k,m,es,hk,rfl,hm,hE,hel,hL⟩:=hrel;clear A0;by_cases hlt:k<3
  ·
   subst hm
   have HM:Hid (es++[((-1:Int),(-1:Int),false,(k:Int),0,(k:Int))]=CZ.take (k+1)):=Lib.hid (by
    rw[hE.out];have:k=0\/k=1\/k=2:=by omega
    rcases this with rfl|rfl|rfl<;>rfl)
   clear hE;go_wp2_with fail
   refine (JY _ _ _).mono ?_;rintro e w2 ⟨rfl,k2⟩;have L2:=hL.more k2;have hsz:=L2.keep.size;have L3:=(L2.more ((AC.refl w2).alloc (eO (-1) (-1) false k 0 k))).more ((AC.refl _).alloc (eO (-1) (-1) false k 0 k));go_wp2_with (at_builtin;refine wpList_append_own_at _ rfl _ _ 98 rfl w.heap.size 128 j0 (.agg #[.int .i64 0,.int .i64 0,.bool false,.int .i64 0,.int .i64 0,.int .i64 0]) 6 48 Tryz.underlying98 hj hy0 hy1 hy2 rfl (by decide) _ _ _ rfl L3.app ⟨_,0,none⟩ 1 1 (cE ((-1:Int),(-1:Int),false,(k:Int),0,(k:Int))) rfl rfl ?c1 ?c2 ?c3 ?c4 ?c5 ?_)
   case c1=>exact Jx _ _ (AD _ _) _ _ _ _ _ _
   case c2=>exact Jy _
   case c3=>unfold maxLen;omega
   case c4=>omega
   case c5=>simp;omega
   intro v' w1 hown' hgrow _ hblk;have L4:=L3.hit _ hown' hgrow (by rw[AD,AD];exact hblk);clear hgrow hown' hblk L3 L2 hL;go_wp2;go_roundw;case rel=>exact⟨k+1,_,_,by omega,rfl,by omega,HM,by simp;omega,L4⟩
   case measure=>simp[intOf];omega
  obtain rfl:m=3:=by omega
  have HB:Hid (es=CZ):=Lib.hid (by rw[hE.out,show k=3 by omega];rfl);clear hE hm;go_wp2;go_ret;exact⟨_,rfl,by rw[<-HB.out];exact hL.app,hL.keep⟩
theorem Zq (x0 x1:Int)(x2:Bool)(x3 x4 x5:Int)(w:World):
  Calls Tryz.prog 144 #[.agg #[.int .i64 x0,.int .i64 x1,.bool x2,.int .i64 x3,.int .i64 x4,.int .i64 x5]] w fun e w'=>e = .returned (.bool (Ah (x0,x1,x2,x3,x4,x5)))/\AC w w':=by
 go_enter Tryz.func144,Tryz.ntmps144
 go_wp2;go_ret;exact⟨rfl,(AC.refl w).alloc _⟩
theorem Zr (w:World)(v:Value)(es:List Ev)(h:bA w v es)(k:Nat)(A B:Nat)(hA:w.cell? ⟨A,0,none⟩=some v)(vO:A<w.heap.size)(hB:w.cell? ⟨B,0,none⟩=some (.func (Fn.func 144) #[] #[]))(hBl:B<w.heap.size):
  Calls Tryz.prog 164 #[.int .i64 k,.pointer (some ⟨A,0,none⟩),.pointer (some ⟨B,0,none⟩)] w fun e w'=>e = .returned (.bool (Qz Ah es k))/\AC w w':=by
 obtain⟨a,c,rfl,h⟩:=h;by_cases hlt:k<es.length
 ·
  rcases h with h|⟨b,o,rfl,hb,hc⟩
  . exfalso;rw[h] at hlt;simp at hlt
  have AT:=hc k _ (MO hlt);have HE:Hid (Qz Ah es k=Ah (es.getD k zE)):=Lib.hid (by unfold Qz;simp[hlt]);clear hc;obtain⟨e,he⟩:∃e,e=es.getD k zE:=⟨_,rfl⟩;rw[<-he] at AT HE;clear he;obtain⟨x0,x1,x2,x3,x4,x5⟩:=e;obtain⟨d0,d1,d2,d3,d4,d5⟩:=oK AT;clear AT;have i1:(0:Int)<=(k:Int):=Int.natCast_nonneg _;have i2:(k:Int)<(es.length:Int):=by omega
  have z1:b<w.drew.heap.size:=hb;have z2:A<w.drew.heap.size:=vO;have z3:B<w.drew.heap.size:=hBl;go_enter Tryz.func164,Tryz.ntmps164
  go_wp2_with fail
  go_region_held3 (fun w'=>w'.cell? ⟨A,0,none⟩=some (.slice (some ⟨b,o,none⟩) es.length (es.length+c))/\w'.cell? ⟨B,0,none⟩=some (.func (Fn.func 144) #[] #[])/\w'.cell? ⟨b,o+k*6,none⟩=some (.int .i64 x0)/\w'.cell? ⟨b,o+k*6+1,none⟩=some (.int .i64 x1)/\w'.cell? ⟨b,o+k*6+2,none⟩=some (.bool x2)/\w'.cell? ⟨b,o+k*6+3,none⟩=some (.int .i64 x3)/\w'.cell? ⟨b,o+k*6+4,none⟩=some (.int .i64 x4)/\w'.cell? ⟨b,o+k*6+5,none⟩=some (.int .i64 x5))
   (first|go_keep|(go_split_ands;refine⟨?_,?_,?_,?_,?_,?_,?_,?_⟩<;>(rw[kk.cell (by assumption)];assumption)))
   ((go_at_call 144;refine (Zq x0 x1 x2 x3 x4 x5 _).mono ?_;rintro e wz ⟨rfl,kk⟩))
  all_goals
   go_wp2;go_ret;exact⟨by rw[HE.out];rfl,((AC.refl w).drew).trans kk⟩
 ·
  have HE:Hid (Qz Ah es k=false):=Lib.hid (by unfold Qz;simp[hlt]);have i2:¬((k:Int)<(es.length:Int)):=by omega
  go_enter Tryz.func164,Tryz.ntmps164
  go_wp2_with fail
  go_quiet (fail)
  go_wp2;go_ret;exact⟨by rw[HE.out];rfl,(AC.refl w).drewN _⟩
theorem Sa (w:World)(v:Value)(es:List Ev)(h:bA w v es)(hx:es.length<=12)(A B:Nat)(hA:w.cell? ⟨A,0,none⟩=some v)(vO:A<w.heap.size)(hB:w.cell? ⟨B,0,none⟩=some (.func (Fn.func 144) #[] #[]))(hBl:B<w.heap.size):
  Calls Tryz.prog 163 #[.func (Fn.func 164) #[] #[.pointer (some ⟨A,0,none⟩),.pointer (some ⟨B,0,none⟩)]] w fun e w'=>∃v',e = .returned v'/\BM w' w.heap.size v' (Bi Ah es es.length)/\AC w w':=by
 have hown0:BM (w.alloc (.cells #[] 2)) w.heap.size (.slice (some ⟨w.heap.size,0,none⟩) 0 0) []:=World.ownsRow_lit w #[] 0 (Nat.le_refl _) (by decide) rfl;obtain⟨i0,hi,hz0,hz1,hz2⟩:=info_parts Tryz.GU;go_enter Tryz.func163,Tryz.ntmps163
 go_wp2;go_loopw [3,6] (fun v i wr=>∃k:Nat,k<=12/\i = .int .i64 k/\BM wr w.heap.size v (Ue Ah es k)/\AC w wr) (fun _ i _=>12-(intOf i).toNat)
 case atStart=>exact⟨0,Nat.zero_le _,rfl,hown0,(AC.refl _).alloc _⟩
 case round=>
  obtain⟨k,hk,rfl,ho,hK⟩:=hrel;clear hown0;by_cases hlt:k<12
  ·
   have hml:=fO Ah es k;have hsz:=hK.size;have C:=Zr wr v es (h.keep hK) k A B (by rw[hK.cell vO];exact hA) (Nat.lt_of_lt_of_le vO hK.size) (by rw[hK.cell hBl];exact hB) (Nat.lt_of_lt_of_le hBl hK.size);clear h hA hB;cases hb:Qz Ah es k
   ·
    have HM:Hid (Ue Ah es (k+1)=Ue Ah es k):=Lib.hid (by rw[Ue,hb];rfl);rw[hb] at C;go_wp2_with fail
    refine C.mono ?_;rintro e w1 ⟨rfl,k1⟩;go_wp2;go_roundw;case rel=>exact⟨k+1,by omega,by go_num,by rw[HM.out];exact ho.keep k1,hK.trans k1⟩
    case measure=>simp[intOf];omega
   ·
    have HM:Hid (Ue Ah es (k+1)=Ue Ah es k++[(k:Int)]):=Lib.hid (by rw[Ue,hb];rfl);rw[hb] at C;go_wp2_with fail
    refine C.mono ?_;rintro e w1 ⟨rfl,k1⟩;have ho1:=ho.keep k1;have hK1:=hK.trans k1;have hsz1:=hK1.size;clear ho hK C;go_wp2_with (at_builtin;refine wpList_append_own _ rfl _ _ 28 rfl w.heap.size 2 i0 (.int .i64 0) 1 8 Tryz.underlying28 hi hz0 hz1 hz2 rfl (by decide) _ _ _ rfl (World.ownsRow.alloc ho1 _) ⟨_,0,none⟩ 1 1 [.int .i64 k] rfl rfl ?c1 ?c2 ?c3 ?c4 ?c5 ?_)
    case c1=>
     intro j u hj
     match j,hj with
     | 0,hj=>simp at hj;subst hj;simp[Addr.add]
    case c2=>intro u hu;simp at hu;subst hu;rfl
    case c3=>unfold maxLen;omega
    case c4=>omega
    case c5=>simp;omega
    intro v' w2 hown' hgrow _;have hK2:AC w w2:=(hK1.alloc _).grown hgrow ho1.ge;clear hgrow;go_wp2;go_roundw;case rel=>exact⟨k+1,by omega,by go_num,by rw[HM.out];exact ES hown',hK2⟩
    case measure=>simp[intOf];omega
  ·
   obtain rfl:k=12:=by omega
   rw[fM Ah es 12 hx] at ho;go_wp2;go_ret;exact⟨_,rfl,ho,hK⟩
theorem Qi (w:World)(v:Value)(es:List Ev)(h:bA w v es)(hx:es.length<=1048576):
  Calls Tryz.prog 143 #[v,(.func (Fn.func 144) #[] #[])] w fun e w'=>∃v',e = .returned v'/\BM w' w.heap.size v' (AX Ah es)/\AC w w':=by
 by_cases hl:12<es.length
 ·
  have HE:Hid (AX Ah es=[]):=Lib.hid (by unfold AX;rw[if_neg (by omega)]);have l1:(12:Int)<(es.length:Int):=by omega
  have O:∀o1 o2:Obj,BM (((w.alloc o1).alloc o2).alloc (.cells #[] 2)) w.heap.size (.slice (some ⟨w.heap.size+1+1,0,none⟩) 0 0) []:=fun o1 o2=>by
   have q:BM (((w.alloc o1).alloc o2).alloc (.cells #[] 2)) ((w.alloc o1).alloc o2).heap.size (.slice (some ⟨((w.alloc o1).alloc o2).heap.size,0,none⟩) 0 0) []:=World.ownsRow_lit _ #[] 0 (Nat.le_refl _) (by decide) rfl;have z:((w.alloc o1).alloc o2).heap.size=w.heap.size+1+1:=by rw[AD,AD]
   rw[z] at q;exact q.Az (by omega)
  obtain⟨a,c,rfl,h⟩:=h;go_enter Tryz.func143,Tryz.ntmps143
  go_wp2;go_ret;refine⟨_,rfl,?_,(((AC.refl w).alloc _).alloc _).alloc _⟩;rw[HE.out];exact O _ _
 ·
  have l1:es.length<=12:=by omega
  have HE:Hid (AX Ah es=Bi Ah es es.length):=Lib.hid (by unfold AX;rw[if_pos l1]);clear hl;have C:=fun (o1 o2:Obj)=>Sa ((w.alloc o1).alloc o2) v es (h.keep (((AC.refl w).alloc _).alloc _)) l1 w.heap.size (w.heap.size+1)
  obtain⟨a,c,rfl,h⟩:=h;have l2:(es.length:Int)<=12:=by omega
  go_enter Tryz.func143,Tryz.ntmps143
  go_wp2_with fail
  refine (C _ _ ?g1 ?g2 ?g3 ?g4).mono ?_;case g1=>simp
  case g2=>simp only[AD];omega
  case g3=>simp
  case g4=>simp only[AD];omega
  rintro e w1 ⟨v1,rfl,ho,hK⟩;go_wp2;go_ret;refine⟨_,rfl,?_,(((AC.refl w).alloc _).alloc _).trans hK⟩;rw[HE.out];exact ho.Az (by simp only[AD];omega)
theorem Eh (w:World)(v:Value)(es:List Ev)(h:bA w v es)(hx:es.length<=1048576):
  Calls Tryz.prog 115 #[v] w fun e w'=>∃v',e = .returned v'/\BM w' w.heap.size v' (AX Ah es)/\AC w w':=by
 go_enter Tryz.func115,Tryz.ntmps115
 go_wp2_with fail
 refine (Qi _ _ _ h hx).mono ?_;rintro e w1 ⟨v1,rfl,ho,hK⟩;go_wp2;go_ret;exact⟨_,rfl,ho,hK⟩
theorem TP (x y:Int)(w:World):Calls Tryz.prog 99 #[.int .i64 x,.int .i64 y] w fun e w'=>e = .returned (.int .i64 (Ny x y))/\w'=w:=by
 rcases Mj x y with ⟨h,e⟩|⟨h,e⟩|⟨h,e⟩
 ·
  rw[e];clear e;go_enter Tryz.func99,Tryz.ntmps99
  go_wp2;go_ret;exact⟨rfl,rfl⟩
 ·
  rw[e];have h2:¬x<y:=by omega
  clear e;go_enter Tryz.func99,Tryz.ntmps99
  go_wp2;go_ret;exact⟨rfl,rfl⟩
 ·
  rw[e];subst h;clear e;have h2:¬x<x:=by omega
  go_enter Tryz.func99,Tryz.ntmps99
  go_wp2;go_ret;exact⟨rfl,rfl⟩
theorem Yg (w:World)(v1 v2:Value)(xs ys:List Int)(h1:Rd w v1 xs)(h2:Rd w v2 ys)(l1:xs.length<=1048576)(_:ys.length<=1048576):Calls Tryz.prog 68 #[v1,v2] w fun e w'=>e = .returned (.int .i64 (GP xs ys))/\w'=w:=by
 obtain⟨a1,c1,rfl,h1⟩:=h1;obtain⟨a2,c2,rfl,h2⟩:=h2;have X1:=Lib.hid h1;have X2:=Lib.hid h2;clear h1 h2;go_enter Tryz.func68,Tryz.ntmps68
 go_wp2;go_loop [5,6,7,8,11] (fun _ _ _ _ i=>∃k:Nat,k<=xs.length/\k<=ys.length/\i = .int .i64 k/\GP xs ys=GP (xs.drop k) (ys.drop k)) (fun _ _ _ _ i=>xs.length-(intOf i).toNat)
 case atStart=>exact⟨0,Nat.zero_le _,Nat.zero_le _,rfl,rfl⟩
 case round=>
  obtain⟨k,k1,k2,rfl,he⟩:=hrel;have XE:=Lib.hid he;clear he;have i1:(0:Int)<=(k:Int):=Int.natCast_nonneg _;by_cases hlt:k<xs.length
  ·
   rcases X1.out with q|⟨b1,o1,rfl,hb1,d1⟩
   . exfalso;rw[q] at hlt;simp at hlt
   have e1:=d1 k hlt;clear d1;have i2:(k:Int)<(xs.length:Int):=by omega
   by_cases hlt2:k<ys.length
   ·
    rcases X2.out with q|⟨b2,o2,rfl,hb2,d2⟩
    . exfalso;rw[q] at hlt2;simp at hlt2
    have e2:=d2 k hlt2;clear d2;have i3:(k:Int)<(ys.length:Int):=by omega
    have XS:=Lib.hid (WA hlt hlt2);generalize xs.getD k 0=x at e1 XS;generalize ys.getD k 0=y at e2 XS;have C:=TP x y w;generalize Ny x y=z at C XS;by_cases hz:z=0
    ·
     subst hz;have XN:Hid (GP xs ys=GP (xs.drop (k+1)) (ys.drop (k+1))):=Lib.hid (by rw[XE.out,XS.out,if_pos rfl]);go_wp2_with fail
     refine C.mono ?_;rintro e w' ⟨rfl,rfl⟩;clear C;go_wp2;go_round
     case rel=>exact⟨k+1,by omega,by omega,by go_num,XN.out⟩
     case measure=>simp[intOf];omega
    ·
     have XN:Hid (GP xs ys=z):=Lib.hid (by rw[XE.out,XS.out,if_neg hz]);go_wp2_with fail
     refine C.mono ?_;rintro e w' ⟨rfl,rfl⟩;clear C;go_wp2;go_ret;exact⟨by rw[XN.out];rfl,rfl⟩
   ·
    have XN:Hid (GP xs ys=1):=Lib.hid (by rw[XE.out,V9 hlt (by omega)]);have i3:(ys.length:Int)<=(k:Int):=by omega
    go_wp2;go_ret;exact⟨by rw[XN.out];rfl,rfl⟩
  ·
   have XN:Hid (GP xs ys=if xs.length<ys.length then -1 else 0):=Lib.hid (by rw[XE.out,Yf (by omega) k2 k1]);have i2:(xs.length:Int)<=(k:Int):=by omega
   by_cases hl:xs.length<ys.length
   ·
    rw[if_pos hl] at XN;have i3:(xs.length:Int)<(ys.length:Int):=by omega
    go_wp2;go_ret;exact⟨by rw[XN.out];rfl,rfl⟩
   ·
    rw[if_neg hl] at XN;have i3:¬(xs.length:Int)<(ys.length:Int):=by omega
    go_wp2;go_ret;exact⟨by rw[XN.out];rfl,rfl⟩
theorem lH {xs ys:List Int}(hl:xs.length=ys.length)(h:∀q,q<xs.length->xs.getD q 0=ys.getD q 0):xs=ys:=by
 apply List.ext_getElem hl;intro i h1 h2;have:=h i h1;rw[List.getD_eq_getElem?_getD,List.getD_eq_getElem?_getD,List.getElem?_eq_getElem h1,List.getElem?_eq_getElem h2] at this;exact this
theorem fZ (w:World)(v1 v2:Value)(xs ys:List Int)(h1:Rd w v1 xs)(h2:Rd w v2 ys)(l1:xs.length<=1048576):Calls Tryz.prog 42 #[v1,v2] w fun e w'=>e = .returned (.bool (decide (xs=ys)))/\AC w w':=by
 obtain⟨a1,c1,rfl,h1⟩:=h1;obtain⟨a2,c2,rfl,h2⟩:=h2;have X1:=Lib.hid h1;have X2:=Lib.hid h2;clear h1 h2;by_cases hl:xs.length=ys.length
 ·
  have XL:=Lib.hid hl;have hle:(xs.length:Int)=(ys.length:Int):=by omega
  rw[<-hl];clear hl hle;go_enter Tryz.func42,Tryz.ntmps42
  go_wp2;go_loopw [5,13] (fun _ i wr=>∃k:Nat,k<=xs.length/\i = .int .i64 k/\Hid (∀q,q<k->xs.getD q 0=ys.getD q 0)/\AC w wr) (fun _ i _=>xs.length-(intOf i).toNat)
  case atStart=>exact⟨0,Nat.zero_le _,rfl,Lib.hid (fun q hq=>absurd hq (Nat.not_lt_zero _)),AC.refl _⟩
  case round=>
   obtain⟨k,hk,rfl,hq,hK⟩:=hrel;by_cases hlt:k<xs.length
   ·
    have hlt2:k<ys.length:=by have:=XL.out;omega
    rcases X1.out with q|⟨b1,o1,rfl,hb1,d1⟩
    . exfalso;rw[q] at hlt;simp at hlt
    rcases X2.out with q|⟨b2,o2,rfl,hb2,d2⟩
    . exfalso;rw[q] at hlt2;simp at hlt2
    have e1:=(hK.cell hb1).trans (d1 k hlt);have e2:=(hK.cell hb2).trans (d2 k hlt2);have i1:(0:Int)<=(k:Int):=Int.natCast_nonneg _;have i2:(k:Int)<(xs.length:Int):=by omega
    have XK:=Lib.hid hK;clear d1 d2 hlt2 hK;obtain⟨x,hx⟩:∃x,x=xs.getD k 0:=⟨_,rfl⟩;obtain⟨y,hy⟩:∃y,y=ys.getD k 0:=⟨_,rfl⟩;rw[<-hx] at e1;rw[<-hy] at e2;have XX:=Lib.hid hx;have XY:=Lib.hid hy;clear hx hy;by_cases e:x=y
    ·
     subst e;go_wp2;go_quiet (fail)
     go_wp2;go_roundw
     case rel=>
      refine⟨k+1,by omega,by go_num,Lib.hid (fun q hq'=>?_),XK.out.trans ((AC.refl wr).drewN _)⟩;by_cases e:q=k
      . rw[e,<-XX.out,<-XY.out]
      . exact hq.out q (by omega)
     case measure=>simp[intOf];omega
    ·
     have XN:Hid (decide (xs=ys)=false):=Lib.hid (by
      rw[decide_eq_false_iff_not];intro h;apply e
      rw[XX.out,XY.out,h])
     go_wp2;go_quiet (fail)
     go_wp2;go_ret;exact⟨by rw[XN.out];rfl,XK.out.trans ((AC.refl wr).drewN _)⟩
   ·
    obtain rfl:k=xs.length:=by omega
    have XN:Hid (decide (xs=ys)=true):=Lib.hid (by rw[decide_eq_true_eq];exact lH XL.out hq.out);go_wp2;go_ret;exact⟨by rw[XN.out];rfl,hK⟩
 ·
  have XN:Hid (decide (xs=ys)=false):=Lib.hid (by
   rw[decide_eq_false_iff_not];intro h;apply hl
   rw[h])
  have hne:¬(xs.length:Int)=(ys.length:Int):=by omega
  go_enter Tryz.func42,Tryz.ntmps42
  go_wp2;go_ret;exact⟨by rw[XN.out];rfl,AC.refl _⟩
theorem WS (w:World)(v vo:Value)(xs x:List Int)(h:Rd w v xs)(ho:Rd w vo x)(l:xs.length<=1048576)(B:Nat)(hB:w.cell? ⟨B,0,none⟩=some vo):Calls Tryz.prog 41 #[v,.pointer (some ⟨B,0,none⟩)] w fun e w'=>e = .returned (.bool (decide (xs=x)))/\AC w w':=by
 have C:=fZ w v vo xs x h ho l;obtain⟨a1,c1,rfl,-⟩:=h;obtain⟨a2,c2,rfl,-⟩:=ho;generalize decide (xs=x)=t at C;go_enter Tryz.func41,Tryz.ntmps41
 go_wp2_with fail
 refine C.mono ?_;rintro e w1 ⟨rfl,k⟩;clear C;go_wp2;go_ret;exact⟨rfl,k⟩
theorem Tj (w:World)(v vo:Value)(Aq:List (List Int))(x:List Int)(h:RJ w v Aq)(hx:Rd w vo x)(hl:Aq.length<=1099511627776)(hm:∀i,i<Aq.length->(Aq.getD i []).length<=1048576)(B:Nat)(hBl:B<w.heap.size)(hB:w.cell? ⟨B,0,none⟩=some vo):
  Calls Tryz.prog 80 #[v,.func (Fn.func 41) #[] #[.pointer (some ⟨B,0,none⟩)]] w fun e w'=>(∃n:Int,e = .returned (.int .i64 n)/\decide (0<=n)=Jb Aq x)/\AC w w':=by
 obtain⟨a,c,rfl,h⟩:=h;have XM:=Lib.hid hm;have XX:=Lib.hid hx;have XB:=Lib.hid hB;clear hm hx hB;go_enter Tryz.func80,Tryz.ntmps80
 go_wp2;go_loopw [5,8] (fun _ i wr=>∃k:Nat,k<=Aq.length/\i = .int .i64 k/\Hid (∀q,q<k->Aq.getD q []≠x)/\AC w wr) (fun _ i _=>Aq.length-(intOf i).toNat)
 case atStart=>exact⟨0,Nat.zero_le _,rfl,Lib.hid (fun q hq=>absurd hq (Nat.not_lt_zero _)),AC.refl _⟩
 case round=>
  obtain⟨k,hk,rfl,hno,hK⟩:=hrel;have i1:(0:Int)<=(k:Int):=Int.natCast_nonneg _;by_cases hlt:k<Aq.length
  ·
   rcases h with h|⟨b,o,rfl,hb,hc⟩
   . exfalso;rw[h] at hlt;simp at hlt
   obtain⟨vi,d1,rd⟩:=hc k hlt;have d1:=(hK.cell hb).trans d1;have CS:=WS wr vi vo _ x (rd.keep hK) (XX.out.keep hK) (XM.out k hlt) B ((hK.cell hBl).trans XB.out);have i2:(k:Int)<(Aq.length:Int):=by omega
   obtain⟨ai,ci,rfl,-⟩:=id rd;have XK:=Lib.hid hK;clear hc rd hK;by_cases he:Aq.getD k []=x
   ·
    have HE:=Lib.hid (Rz hlt he);rw[decide_eq_true he] at CS;generalize (Aq.getD k []).length=m at d1 CS;clear he;go_wp2_with fail
    refine CS.mono ?_;rintro e wz ⟨rfl,kk⟩;clear CS;go_wp2;go_ret;exact⟨⟨(k:Int),rfl,by rw[HE.out];exact decide_eq_true i1⟩,XK.out.trans kk⟩
   ·
    have HE:=Lib.hid he;rw[decide_eq_false he] at CS;generalize (Aq.getD k []).length=m at d1 CS;clear he;go_wp2_with fail
    refine CS.mono ?_;rintro e wz ⟨rfl,kk⟩;clear CS;go_wp2;go_roundw
    case rel=>
     refine⟨k+1,by omega,by go_num,Lib.hid (fun q hq=>?_),XK.out.trans kk⟩;by_cases e:q=k
     . rw[e];exact HE.out
     . exact hno.out q (by omega)
    case measure=>simp[intOf];omega
  ·
   obtain rfl:k=Aq.length:=by omega
   have HE:=Lib.hid (PA hno.out);go_wp2;go_ret;exact⟨⟨-1,rfl,by rw[HE.out];rfl⟩,hK⟩
theorem Th (w:World)(v vo:Value)(Aq:List (List Int))(x:List Int)(h:RJ w v Aq)(hx:Rd w vo x)(hl:Aq.length<=1099511627776)(hm:∀i,i<Aq.length->(Aq.getD i []).length<=1048576)(B:Nat)(hBl:B<w.heap.size)(hB:w.cell? ⟨B,0,none⟩=some vo):
  Calls Tryz.prog 40 #[v,.func (Fn.func 41) #[] #[.pointer (some ⟨B,0,none⟩)]] w fun e w'=>e = .returned (.bool (Jb Aq x))/\AC w w':=by
 have C:=Tj w v vo Aq x h hx hl hm B hBl hB;obtain⟨a,c,rfl,-⟩:=h;clear hm hx hB;generalize Jb Aq x=t at C;go_enter Tryz.func40,Tryz.ntmps40
 go_wp2_with fail
 refine C.mono ?_;rintro e w1 ⟨⟨n,rfl,hn⟩,k⟩;have XN:=Lib.hid hn;clear C hn;go_wp2;go_ret;exact⟨by rw[<-XN.out];rfl,k⟩
theorem FQ (w:World)(v vo:Value)(Aq:List (List Int))(x:List Int)(h:RJ w v Aq)(hx:Rd w vo x)(hl:Aq.length<=1099511627776)(hm:∀i,i<Aq.length->(Aq.getD i []).length<=1048576):
  Calls Tryz.prog 14 #[v,vo] w fun e w'=>e = .returned (.bool (Jb Aq x))/\AC w w':=by
 have vV:∀(fn:Fn) (first cap:Array Value) (w:World),(Instr.makeFunc fn first cap).run Tryz.prog w = .ok (.func fn first cap) w:=fun _ _ _ _=>rfl
 have K1:AC w (w.alloc (.cells #[vo] 28)):=(AC.refl w).alloc _;have C:=Th (w.alloc (.cells #[vo] 28)) v vo Aq x (h.keep K1) (hx.keep K1) hl hm w.heap.size (by rw[AD];omega) (by rw[cell_of_row _ _ 0 _ _ _ (heap_alloc_new w _)];rfl);obtain⟨a,c,rfl,-⟩:=h;obtain⟨ao,co,rfl,-⟩:=hx;clear hm;generalize Jb Aq x=t at C;go_enter Tryz.func14,Tryz.ntmps14
 go_wp2_with fail
 refine C.mono ?_;rintro e w1 ⟨rfl,k⟩;have XK:=Lib.hid (K1.trans k);clear C K1 k;go_wp2;go_ret;exact⟨rfl,XK.out⟩
end Go.Proofs.YtnmelakgmgenjaaGreat
