/- Gathered texts. -/
import Derived.Test.YtgakfkjjkobpiaaGreatRows
import Derived.OpenShut
import Derived.Outline
import Derived.Test.YtgakfkjjkobpiaaGreatMB
import Derived.BigRegion
import Derived.RegionTactic
import Derived.Lib.Hide
import Derived.Maps.AppendAt
import Derived.Deep.RegionHeld3
import Derived.Deep.QuietTactic
import Derived.BigQuiet
set_option maxRecDepth 100000
set_option maxHeartbeats 8000000
namespace Go.Proofs.YtgakfkjjkobpiaaGreat
open Go.ChangeShapes Go.WideShapes Go.ChangeAt Go.RowKit
theorem GW (x:Int)(w:World):
  Calls Tryz.prog 128 #[.int .i64 x] w fun e w'=>e = .returned (.bool (CX x 0 11))/\w'=w:=by
 go_enter Tryz.func128,Tryz.ntmps128
 go_wp2
 all_goals
  go_ret;exact⟨Br (by rw[Bool.eq_iff_iff];unfold CX;simp;omega),rfl⟩
theorem Lz (n s:Int)(w:World):
  Calls Tryz.prog 130 #[.int .i64 s,.int .i64 n] w fun e w'=>e = .returned (.bool (IX n s))/\w'=w:=by
 go_enter Tryz.func130,Tryz.ntmps130
 go_wp2
 ·
  go_ret;exact⟨Br (by rw[Mm n (by assumption) (by assumption),Bool.eq_iff_iff];unfold IX;simp;omega),rfl⟩
 all_goals
  go_ret;exact⟨Br (by rw[Bool.eq_iff_iff];unfold IX;simp;omega),rfl⟩
theorem TE (s i:Int)(w:World):
  Calls Tryz.prog 127 #[.int .i64 s,.int .i64 i] w fun e w'=>e = .returned (.bool (BK s i))/\w'=w:=by
 have key:IX 12 s=CX s 0 4095:=by rw[Bool.eq_iff_iff];unfold IX CX;simp;omega
 cases hs:CX s 0 4095
 ·
  have hk:IX 12 s=false:=key.trans hs;clear key;go_enter Tryz.func127,Tryz.ntmps127
  go_wp2_with (go_at_call 130;refine (Lz _ _ _).mono ?_;rintro e w' ⟨rfl,rfl⟩)
  go_ret;exact⟨Br (by simp[BK,hs]),rfl⟩
 ·
  have hk:IX 12 s=true:=key.trans hs;clear key;cases hi:CX i 0 11
  ·
   go_enter Tryz.func127,Tryz.ntmps127
   go_wp2_with (first|(go_at_call 130;refine (Lz _ _ _).mono ?_;rintro e w' ⟨rfl,rfl⟩)|(go_at_call 128;refine (GW _ _).mono ?_;rintro e w' ⟨rfl,rfl⟩))
   go_ret;exact⟨Br (by simp[BK,hi]),rfl⟩
  ·
   have hi':=hi;simp only[CX,decide_eq_true_eq] at hi';obtain⟨i1,i2⟩:=hi';go_enter Tryz.func127,Tryz.ntmps127
   go_wp2_with (first|(go_at_call 130;refine (Lz _ _ _).mono ?_;rintro e w' ⟨rfl,rfl⟩)|(go_at_call 128;refine (GW _ _).mono ?_;rintro e w' ⟨rfl,rfl⟩))
   go_ret;exact⟨Br (by simp[BK,hs,hi,Ya]),rfl⟩
theorem Xf (s i:Int)(w:World):
  Calls Tryz.prog 125 #[.int .i64 s,.int .i64 i] w fun e w'=>e = .returned (.int .i64 (Fo s i))/\w'=w:=by
 by_cases hs:s=-1
 ·
  subst hs;go_enter Tryz.func125,Tryz.ntmps125
  go_wp2;go_ret;exact⟨PB (UG i).symm,rfl⟩
 ·
  have hsb:(s == -1)=false:=by simp[hs]
  have HS:Hid (¬s=-1):=hs;clear hs;cases hi:CX i 0 11
  ·
   go_enter Tryz.func125,Tryz.ntmps125
   go_wp2_with (go_at_call 128;refine (GW _ _).mono ?_;rintro e w' ⟨rfl,rfl⟩)
   go_ret;exact⟨PB (WA s i hi).symm,rfl⟩
  ·
   have hi':=hi;simp only[CX,decide_eq_true_eq] at hi';obtain⟨i1,i2⟩:=hi';go_enter Tryz.func125,Tryz.ntmps125
   go_wp2_with (go_at_call 128;refine (GW _ _).mono ?_;rintro e w' ⟨rfl,rfl⟩)
   go_ret;exact⟨PB (by simp[Fo,HS.out,hi]),rfl⟩
abbrev Uh (p:Int):Value:= .iface 134 (.agg #[.int .i64 p])
abbrev Sg (p v:Int):Value:= .iface 116 (.agg #[.int .i64 p,.int .i64 v])
abbrev yC (x0 x1:Int)(r:Bool)(x3 x4 x5:Int):Value:= .agg #[.int .i64 x0,.int .i64 x1,.bool r,.int .i64 x3,.int .i64 x4,.int .i64 x5]
theorem at_rd (p : Int) (w : World) : (method 257 134 (.agg #[.int .i64 p]) "loop.example/g00411/impl.at").run Tryz.prog w = .ok (147, .agg #[.int .i64 p]) w := by kernel_rfl
theorem at_wr (p v : Int) (w : World) : (method 257 116 (.agg #[.int .i64 p, .int .i64 v]) "loop.example/g00411/impl.at").run Tryz.prog w = .ok (146, .agg #[.int .i64 p, .int .i64 v]) w := by kernel_rfl
theorem VU (p:Int)(w:World):Calls Tryz.prog 147 #[.agg #[.int .i64 p]] w fun e w'=>e = .returned (.int .i64 p)/\AC w w':=by
 go_enter Tryz.func147,Tryz.ntmps147
 go_wp2;go_ret;exact⟨rfl,(AC.refl w).alloc _⟩
theorem VV (p v:Int)(w:World):Calls Tryz.prog 146 #[.agg #[.int .i64 p,.int .i64 v]] w fun e w'=>e = .returned (.int .i64 p)/\AC w w':=by
 go_enter Tryz.func146,Tryz.ntmps146
 go_wp2;go_ret;exact⟨rfl,(AC.refl w).alloc _⟩
theorem ji (p:Int)(w:World):(Instr.typeAssert (Uh p) 124 134 true).run Tryz.prog w = .ok (.tuple #[.agg #[.int .i64 p],.bool true]) w:=by kernel_rfl
theorem jk (p v:Int)(w:World):(Instr.typeAssert (Sg p v) 124 134 true).run Tryz.prog w = .ok (.tuple #[.agg #[.int .i64 0],.bool false]) w:=by kernel_rfl
theorem dA (p v:Int)(w:World):(Instr.typeAssert (Sg p v) 124 116 true).run Tryz.prog w = .ok (.tuple #[.agg #[.int .i64 p,.int .i64 v],.bool true]) w:=by kernel_rfl
abbrev Wx (w:World)(B:Nat)(a0 a1 a2 a3 a4 a5:Value):World:=
 (((((w.setCell ⟨B,0,none⟩ a0).setCell ⟨B,1,none⟩ a1).setCell ⟨B,2,none⟩ a2).setCell ⟨B,3,none⟩ a3).setCell ⟨B,4,none⟩ a4).setCell ⟨B,5,none⟩ a5
theorem nO {w:World}{B:Nat}{T:TypeId}{b0 b1 b2 b3 b4 b5:Value}(h:w.heap[B]? = some (.cells #[b0,b1,b2,b3,b4,b5] T))(a0 a1 a2 a3 a4 a5:Value):
  (Wx w B a0 a1 a2 a3 a4 a5).heap[B]? = some (.cells #[a0,a1,a2,a3,a4,a5] T):=by
 have h0:=heap_setCell_same w B 0 _ _ a0 h;have h1:=heap_setCell_same _ B 1 _ _ a1 h0;have h2:=heap_setCell_same _ B 2 _ _ a2 h1;have h3:=heap_setCell_same _ B 3 _ _ a3 h2;have h4:=heap_setCell_same _ B 4 _ _ a4 h3;exact heap_setCell_same _ B 5 _ _ a5 h4
theorem Ng {w wr:World}(h:AC w wr){g:Nat}(hg:w.heap.size<=g)(i:Nat)(x:Value):AC w (wr.setCell ⟨g,i,none⟩ x):=
 h.grown (row:=some g) ⟨rfl,rfl,rfl,by simp,fun k _ hk=>heap_setCell_other wr ⟨g,i,none⟩ k x (fun e=>hk (by simp[e]))⟩ (fun k hk=>by simp at hk;omega)
theorem Z1 {w wr:World}(h:AC w wr)(a0 a1 a2 a3 a4 a5:Value):AC w (Wx wr w.heap.size a0 a1 a2 a3 a4 a5):=
 Ng (Ng (Ng (Ng (Ng (Ng h (Nat.le_refl _) 0 a0) (Nat.le_refl _) 1 a1) (Nat.le_refl _) 2 a2) (Nat.le_refl _) 3 a3) (Nat.le_refl _) 4 a4) (Nat.le_refl _) 5 a5
theorem Z9 (w:World)(B:Nat)(a0 a1 a2 a3 a4 a5:Value):(Wx w B a0 a1 a2 a3 a4 a5).heap.size=w.heap.size:=by simp
theorem Lj (p:Int)(w:World):
  Calls Tryz.prog 103 #[Uh p] w fun e w'=>e = .returned (yC 0 0 true p 0 0)/\AC w w':=by
 have hm:=at_rd p;have ha:=ji p;go_enter Tryz.func103,Tryz.ntmps103
 go_wp2_with fail
 refine (VU _ _).mono ?_;rintro e w1 ⟨rfl,k1⟩;have hb:=Fy k1;have hh:=Ce k1;have b0:=AS k1 0;have b1:=AS k1 1;have b2:=AS k1 2;have b3:=AS k1 3;have b4:=AS k1 4;have b5:=AS k1 5;have hfr:=fun j=>frozen_of_row w1 w.heap.size j _ _ (Ce k1)
 have S:=nO hh (.int .i64 0) (.int .i64 0) (.bool true) (.int .i64 p) (.int .i64 0) (.int .i64 0);have K:=Z1 (((AC.refl w).alloc _).trans k1) (.int .i64 0) (.int .i64 0) (.bool true) (.int .i64 p) (.int .i64 0) (.int .i64 0);have Z:=Z9 w1 w.heap.size (.int .i64 0) (.int .i64 0) (.bool true) (.int .i64 p) (.int .i64 0) (.int .i64 0);go_wp2;refine bodyPost_ret (Ac (by rfl) _ _ w.heap.size _ _ _ _ rfl (by rw[Bj,if_neg (by rw[AD,Z];omega),Bj,if_neg (by rw[Z];omega)];exact S) Tryz.underlying89 rfl (by kernel_rfl)) rfl ?_;exact⟨rfl,(K.alloc _).alloc _⟩
theorem Iq (p v:Int)(w:World):
  Calls Tryz.prog 103 #[Sg p v] w fun e w'=>e = .returned (yC 0 0 false p v 0)/\AC w w':=by
 have hm:=at_wr p v;have ha:=jk p v;have hc:=dA p v;go_enter Tryz.func103,Tryz.ntmps103
 go_wp2_with fail
 refine (VV _ _ _).mono ?_;rintro e w1 ⟨rfl,k1⟩;have hb:=Fy k1;have hh:=Ce k1;have b0:=AS k1 0;have b1:=AS k1 1;have b2:=AS k1 2;have b3:=AS k1 3;have b4:=AS k1 4;have b5:=AS k1 5;have hfr:=fun j=>frozen_of_row w1 w.heap.size j _ _ (Ce k1)
 have S:=nO hh (.int .i64 0) (.int .i64 0) (.bool false) (.int .i64 p) (.int .i64 v) (.int .i64 0);have K:=Z1 (((AC.refl w).alloc _).trans k1) (.int .i64 0) (.int .i64 0) (.bool false) (.int .i64 p) (.int .i64 v) (.int .i64 0);have Z:=Z9 w1 w.heap.size (.int .i64 0) (.int .i64 0) (.bool false) (.int .i64 p) (.int .i64 v) (.int .i64 0);go_wp2;refine bodyPost_ret (Ac (by rfl) _ _ w.heap.size _ _ _ _ rfl (by rw[Bj,if_neg (by rw[AD,Z];omega),Bj,if_neg (by rw[Z];omega)];exact S) Tryz.underlying89 rfl (by kernel_rfl)) rfl ?_;exact⟨rfl,(K.alloc _).alloc _⟩
theorem Ha (w:World):
  Calls Tryz.prog 72 #[] w fun e w'=>∃v',e = .returned v'/\IR w' w.heap.size v' B5/\AC w w':=by
 obtain⟨j0,hj,hy0,hy1,hy2⟩:=info_parts Tryz.WR;have A0:IR (w.alloc (.cells #[] 89)) w.heap.size (.slice (some ⟨w.heap.size,0,none⟩) 0 0) []:=LR w;go_enter Tryz.func72,Tryz.ntmps72
 go_wp2;go_loopw [1,5] (fun v i wr=>∃k:Nat,∃m:Int,∃es:List Ev,k<=3/\i = .int .i64 m/\m=(k:Int)/\Hid (es=B5.take k)/\es.length<=k/\LP w wr v es []) (fun _ i _=>3-(intOf i).toNat)
 case atStart=>exact⟨0,0,[],Nat.zero_le _,rfl,rfl,Lib.hid rfl,Nat.le_refl _,A0,(AC.refl _).alloc _,by simp⟩
 case round=>
  obtain⟨k,m,es,hk,rfl,hm,hE,hel,hL⟩:=hrel;clear A0;by_cases hlt:k<3
  ·
   subst hm
   have HM:Hid (es++[((-1:Int),(-1:Int),false,(k:Int),0,(k:Int))]=B5.take (k+1)):=Lib.hid (by
    rw[hE.out];have:k=0\/k=1\/k=2:=by omega
    rcases this with rfl|rfl|rfl<;>rfl)
   clear hE;go_wp2_with fail
   refine (Iq _ _ _).mono ?_;rintro e w2 ⟨rfl,k2⟩;have L2:=hL.more k2;have hsz:=L2.keep.size;have L3:=(L2.more ((AC.refl w2).alloc (eO (-1) (-1) false k 0 k))).more ((AC.refl _).alloc (eO (-1) (-1) false k 0 k));go_wp2_with (at_builtin;refine wpList_append_own_at _ rfl _ _ 69 rfl w.heap.size 89 j0 (.agg #[.int .i64 0,.int .i64 0,.bool false,.int .i64 0,.int .i64 0,.int .i64 0]) 6 48 Tryz.underlying69 hj hy0 hy1 hy2 rfl (by decide) _ _ _ rfl L3.app ⟨_,0,none⟩ 1 1 (cE ((-1:Int),(-1:Int),false,(k:Int),0,(k:Int))) rfl rfl ?c1 ?c2 ?c3 ?c4 ?c5 ?_)
   case c1=>exact JJ _ _ (AD _ _) _ _ _ _ _ _
   case c2=>exact JK _
   case c3=>unfold maxLen;omega
   case c4=>omega
   case c5=>simp;omega
   intro v' w1 hown' hgrow _ hblk;have L4:=L3.hit _ hown' hgrow (by rw[AD,AD];exact hblk);clear hgrow hown' hblk L3 L2 hL;go_wp2;go_roundw;case rel=>exact⟨k+1,_,_,by omega,rfl,by omega,HM,by simp;omega,L4⟩
   case measure=>simp[intOf];omega
  obtain rfl:m=3:=by omega
  have HB:Hid (es=B5):=Lib.hid (by rw[hE.out,show k=3 by omega];rfl);clear hE hm;go_wp2;go_ret;exact⟨_,rfl,by rw[<-HB.out];exact hL.app,hL.keep⟩
theorem Wy (x0 x1:Int)(x2:Bool)(x3 x4 x5:Int)(w:World):
  Calls Tryz.prog 105 #[.agg #[.int .i64 x0,.int .i64 x1,.bool x2,.int .i64 x3,.int .i64 x4,.int .i64 x5]] w fun e w'=>e = .returned (.bool (Aj (x0,x1,x2,x3,x4,x5)))/\AC w w':=by
 go_enter Tryz.func105,Tryz.ntmps105
 go_wp2;go_ret;exact⟨rfl,(AC.refl w).alloc _⟩
theorem Wz (w:World)(v:Value)(es:List Ev)(h:Xl w v es)(k:Nat)(A B:Nat)(hA:w.cell? ⟨A,0,none⟩=some v)(qQ:A<w.heap.size)(hB:w.cell? ⟨B,0,none⟩=some (.func (Fn.func 105) #[] #[]))(hBl:B<w.heap.size):
  Calls Tryz.prog 123 #[.int .i64 k,.pointer (some ⟨A,0,none⟩),.pointer (some ⟨B,0,none⟩)] w fun e w'=>e = .returned (.bool (PJ Aj es k))/\AC w w':=by
 obtain⟨a,c,rfl,h⟩:=h;by_cases hlt:k<es.length
 ·
  rcases h with h|⟨b,o,rfl,hb,hc⟩
  . exfalso;rw[h] at hlt;simp at hlt
  have AT:=hc k _ (Ko hlt);have HE:Hid (PJ Aj es k=Aj (es.getD k zE)):=Lib.hid (by unfold PJ;simp[hlt]);clear hc;obtain⟨e,he⟩:∃e,e=es.getD k zE:=⟨_,rfl⟩;rw[<-he] at AT HE;clear he;obtain⟨x0,x1,x2,x3,x4,x5⟩:=e;obtain⟨d0,d1,d2,d3,d4,d5⟩:=ig AT;clear AT;have i1:(0:Int)<=(k:Int):=Int.natCast_nonneg _;have i2:(k:Int)<(es.length:Int):=by omega
  have z1:b<w.drew.heap.size:=hb;have z2:A<w.drew.heap.size:=qQ;have z3:B<w.drew.heap.size:=hBl;go_enter Tryz.func123,Tryz.ntmps123
  go_wp2_with fail
  go_region_held3 (fun w'=>w'.cell? ⟨A,0,none⟩=some (.slice (some ⟨b,o,none⟩) es.length (es.length+c))/\w'.cell? ⟨B,0,none⟩=some (.func (Fn.func 105) #[] #[])/\w'.cell? ⟨b,o+k*6,none⟩=some (.int .i64 x0)/\w'.cell? ⟨b,o+k*6+1,none⟩=some (.int .i64 x1)/\w'.cell? ⟨b,o+k*6+2,none⟩=some (.bool x2)/\w'.cell? ⟨b,o+k*6+3,none⟩=some (.int .i64 x3)/\w'.cell? ⟨b,o+k*6+4,none⟩=some (.int .i64 x4)/\w'.cell? ⟨b,o+k*6+5,none⟩=some (.int .i64 x5))
   (first|go_keep|(go_split_ands;refine⟨?_,?_,?_,?_,?_,?_,?_,?_⟩<;>(rw[kk.cell (by assumption)];assumption)))
   ((go_at_call 105;refine (Wy x0 x1 x2 x3 x4 x5 _).mono ?_;rintro e wz ⟨rfl,kk⟩))
  all_goals
   go_wp2;go_ret;exact⟨by rw[HE.out];rfl,((AC.refl w).drew).trans kk⟩
 ·
  have HE:Hid (PJ Aj es k=false):=Lib.hid (by unfold PJ;simp[hlt]);have i2:¬((k:Int)<(es.length:Int)):=by omega
  go_enter Tryz.func123,Tryz.ntmps123
  go_wp2_with fail
  go_quiet (fail)
  go_wp2;go_ret;exact⟨by rw[HE.out];rfl,(AC.refl w).drewN _⟩
theorem Qg (w:World)(v:Value)(es:List Ev)(h:Xl w v es)(hx:es.length<=12)(A B:Nat)(hA:w.cell? ⟨A,0,none⟩=some v)(qQ:A<w.heap.size)(hB:w.cell? ⟨B,0,none⟩=some (.func (Fn.func 105) #[] #[]))(hBl:B<w.heap.size):
  Calls Tryz.prog 122 #[.func (Fn.func 123) #[] #[.pointer (some ⟨A,0,none⟩),.pointer (some ⟨B,0,none⟩)]] w fun e w'=>∃v',e = .returned v'/\A8 w' w.heap.size v' (Be Aj es es.length)/\AC w w':=by
 have hown0:A8 (w.alloc (.cells #[] 2)) w.heap.size (.slice (some ⟨w.heap.size,0,none⟩) 0 0) []:=World.ownsRow_lit w #[] 0 (Nat.le_refl _) (by decide) rfl;obtain⟨i0,hi,hz0,hz1,hz2⟩:=info_parts Tryz.FL;go_enter Tryz.func122,Tryz.ntmps122
 go_wp2;go_loopw [3,6] (fun v i wr=>∃k:Nat,k<=12/\i = .int .i64 k/\A8 wr w.heap.size v (Sx Aj es k)/\AC w wr) (fun _ i _=>12-(intOf i).toNat)
 case atStart=>exact⟨0,Nat.zero_le _,rfl,hown0,(AC.refl _).alloc _⟩
 case round=>
  obtain⟨k,hk,rfl,ho,hK⟩:=hrel;clear hown0;by_cases hlt:k<12
  ·
   have hml:=Yg Aj es k;have hsz:=hK.size;have C:=Wz wr v es (h.keep hK) k A B (by rw[hK.cell qQ];exact hA) (Nat.lt_of_lt_of_le qQ hK.size) (by rw[hK.cell hBl];exact hB) (Nat.lt_of_lt_of_le hBl hK.size);clear h hA hB;cases hb:PJ Aj es k
   ·
    have HM:Hid (Sx Aj es (k+1)=Sx Aj es k):=Lib.hid (by rw[Sx,hb];rfl);rw[hb] at C;go_wp2_with fail
    refine C.mono ?_;rintro e w1 ⟨rfl,k1⟩;go_wp2;go_roundw;case rel=>exact⟨k+1,by omega,by go_num,by rw[HM.out];exact ho.keep k1,hK.trans k1⟩
    case measure=>simp[intOf];omega
   ·
    have HM:Hid (Sx Aj es (k+1)=Sx Aj es k++[(k:Int)]):=Lib.hid (by rw[Sx,hb];rfl);rw[hb] at C;go_wp2_with fail
    refine C.mono ?_;rintro e w1 ⟨rfl,k1⟩;have ho1:=ho.keep k1;have hK1:=hK.trans k1;have hsz1:=hK1.size;clear ho hK C;go_wp2_with (at_builtin;refine wpList_append_own _ rfl _ _ 26 rfl w.heap.size 2 i0 (.int .i64 0) 1 8 Tryz.underlying26 hi hz0 hz1 hz2 rfl (by decide) _ _ _ rfl (World.ownsRow.alloc ho1 _) ⟨_,0,none⟩ 1 1 [.int .i64 k] rfl rfl ?c1 ?c2 ?c3 ?c4 ?c5 ?_)
    case c1=>
     intro j u hj
     match j,hj with
     | 0,hj=>simp at hj;subst hj;simp[Addr.add]
    case c2=>intro u hu;simp at hu;subst hu;rfl
    case c3=>unfold maxLen;omega
    case c4=>omega
    case c5=>simp;omega
    intro v' w2 hown' hgrow _;have hK2:AC w w2:=(hK1.alloc _).grown hgrow ho1.ge;clear hgrow;go_wp2;go_roundw;case rel=>exact⟨k+1,by omega,by go_num,by rw[HM.out];exact Dp hown',hK2⟩
    case measure=>simp[intOf];omega
  ·
   obtain rfl:k=12:=by omega
   rw[Yf Aj es 12 hx] at ho;go_wp2;go_ret;exact⟨_,rfl,ho,hK⟩
theorem Oz (w:World)(v:Value)(es:List Ev)(h:Xl w v es)(hx:es.length<=1048576):
  Calls Tryz.prog 104 #[v,(.func (Fn.func 105) #[] #[])] w fun e w'=>∃v',e = .returned v'/\A8 w' w.heap.size v' (AX Aj es)/\AC w w':=by
 by_cases hl:12<es.length
 ·
  have HE:Hid (AX Aj es=[]):=Lib.hid (by unfold AX;rw[if_neg (by omega)]);have l1:(12:Int)<(es.length:Int):=by omega
  have O:∀o1 o2:Obj,A8 (((w.alloc o1).alloc o2).alloc (.cells #[] 2)) w.heap.size (.slice (some ⟨w.heap.size+1+1,0,none⟩) 0 0) []:=fun o1 o2=>by
   have q:A8 (((w.alloc o1).alloc o2).alloc (.cells #[] 2)) ((w.alloc o1).alloc o2).heap.size (.slice (some ⟨((w.alloc o1).alloc o2).heap.size,0,none⟩) 0 0) []:=World.ownsRow_lit _ #[] 0 (Nat.le_refl _) (by decide) rfl;have z:((w.alloc o1).alloc o2).heap.size=w.heap.size+1+1:=by rw[AD,AD]
   rw[z] at q;exact q.BE (by omega)
  obtain⟨a,c,rfl,h⟩:=h;go_enter Tryz.func104,Tryz.ntmps104
  go_wp2;go_ret;refine⟨_,rfl,?_,(((AC.refl w).alloc _).alloc _).alloc _⟩;rw[HE.out];exact O _ _
 ·
  have l1:es.length<=12:=by omega
  have HE:Hid (AX Aj es=Be Aj es es.length):=Lib.hid (by unfold AX;rw[if_pos l1]);clear hl;have C:=fun (o1 o2:Obj)=>Qg ((w.alloc o1).alloc o2) v es (h.keep (((AC.refl w).alloc _).alloc _)) l1 w.heap.size (w.heap.size+1)
  obtain⟨a,c,rfl,h⟩:=h;have l2:(es.length:Int)<=12:=by omega
  go_enter Tryz.func104,Tryz.ntmps104
  go_wp2_with fail
  refine (C _ _ ?g1 ?g2 ?g3 ?g4).mono ?_;case g1=>simp
  case g2=>simp only[AD];omega
  case g3=>simp
  case g4=>simp only[AD];omega
  rintro e w1 ⟨v1,rfl,ho,hK⟩;go_wp2;go_ret;refine⟨_,rfl,?_,(((AC.refl w).alloc _).alloc _).trans hK⟩;rw[HE.out];exact ho.BE (by simp only[AD];omega)
theorem Ea (w:World)(v:Value)(es:List Ev)(h:Xl w v es)(hx:es.length<=1048576):
  Calls Tryz.prog 73 #[v] w fun e w'=>∃v',e = .returned v'/\A8 w' w.heap.size v' (AX Aj es)/\AC w w':=by
 go_enter Tryz.func73,Tryz.ntmps73
 go_wp2_with fail
 refine (Oz _ _ _ h hx).mono ?_;rintro e w1 ⟨v1,rfl,ho,hK⟩;go_wp2;go_ret;exact⟨_,rfl,ho,hK⟩
end Go.Proofs.YtgakfkjjkobpiaaGreat
