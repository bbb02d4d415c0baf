/- Gathered texts. -/
import Derived.Test.YtflehmepjhikcaaDoorMA
import Derived.WalkKit
import Derived.LaidEql
import Derived.Stop.Asserts
import Derived.RowKitTokens
import Derived.Test.YtflehmepjhikcaaDoorRows
import Derived.OpenShut
import Derived.Outline
import Derived.BigRegion
import Derived.RegionTactic
import Derived.Lib.Hide
import Derived.Maps.AppendAt
import Derived.Deep.RegionHeld3
import Derived.Deep.QuietTactic
import Derived.BigQuiet
set_option maxRecDepth 100000
set_option maxHeartbeats 8000000
namespace Go.Proofs.YtflehmepjhikcaaDoor
open Go.ChangeShapes Go.WideShapes Go.ChangeAt Go.RowKit
open Go.RowKit Go.Extern.Stop Go.Stop Go.Extern
theorem is_typeOf (v:Value)(w:World):(Extern.ReflectliteType.typeOf #[.iface 173 v]).run Tryd.prog w = .ok (.iface 117 (.agg #[.pointer (some ⟨7,173,none⟩)])) w:=by kernel_rfl
def cmpF (t:TypeId):Sem Value:=do
 Extern.Rtype.noPackHeld "Comparable" t
 pure (.bool (←typeInfo t).comparable)
theorem is_comparable (w:World):((Extern.ReflectliteType.method cmpF) #[.agg #[.pointer (some ⟨7,173,none⟩)]]).run Tryd.prog w = .ok (.bool true) w:=by kernel_rfl
theorem is_methodC (v : Value) (w : World) : (Go.method 306 117 v "Comparable").run Tryd.prog w = .ok (141, v) w := by kernel_rfl
theorem is_comp:(Tryd.prog.info? 173).map (·.comparable)=some true:=by kernel_rfl
theorem is_size:(Tryd.prog.info? 194).map (·.size)=some 1:=by kernel_rfl
theorem is_lacks (v:Value)(xT:TypeId)(w:World):(Instr.typeAssert (.iface 78 v) xT 119 true).run Tryd.prog w = .ok (.tuple #[.nilIface,.bool false]) w:=run_typeAssert_lacksB Tryd.underlying119 (by kernel_rfl) (by kernel_rfl) v xT w
theorem is_hasU (v:Value)(xT:TypeId)(w:World):(Instr.typeAssert (.iface 78 v) xT 122 true).run Tryd.prog w = .ok (.tuple #[.iface 78 v,.bool true]) w:=run_typeAssert_hasB Tryd.underlying122 (by kernel_rfl) v xT w
theorem is_methodU (v : Value) (w : World) : (Go.method 306 78 v "Unwrap").run Tryd.prog w = .ok (134, v) w := by kernel_rfl
theorem isNil_any (b:Addr)(w:World):
  Calls Tryd.prog 33 #[.nilIface,erV b] w fun e w'=>e = .returned (.bool false)∧Keep w w':=by
 have hn:=run_eql_iface_nil_left (P:=Tryd.prog) w 173 (.pointer (some b)) Tryd.underlying55;go_enter Tryd.func33,Tryd.ntmps33
 go_wp2;go_ret;exact⟨rfl,Keep.refl _⟩
theorem isWrap_any (s:ByteArray)(b:Addr)(w:World):
  Calls Tryd.prog 33 #[rfV s (erV b),erV b] w fun e w'=>e = .returned (.bool true)∧Keep w w':=by
 obtain⟨i,hi,hcmp⟩:=Option.map_eq_some_iff.1 is_comp;obtain⟨j,hj,hjs⟩:=Option.map_eq_some_iff.1 is_size;have h8:=@run_callFunc_extern Tryd.prog 57 _ Extern.ReflectliteType.typeOf Tryd.func57 (by kernel_rfl) (by kernel_rfl) (by kernel_rfl) (by kernel_rfl);have h32:=@run_callFunc_extern Tryd.prog 141 _ (Extern.ReflectliteType.method cmpF) Tryd.func141 (by kernel_rfl) (by kernel_rfl) (by kernel_rfl) (by kernel_rfl);have tT:=is_typeOf;have cT:=is_comparable;have mR:=is_methodC;have nW:=is_lacks;have uW:=is_hasU;have mU:=is_methodU;have heq:=fun W=>run_eql_iface_ptr_same (P:=Tryd.prog) W b Tryd.underlying55 Tryd.underlying173 hi hcmp hj
 have hty:=fun v W=>run_eql_iface_types (P:=Tryd.prog) 78 173 v (.pointer (some b)) Tryd.underlying55 (by decide) W
 go_enter Tryd.func33,Tryd.ntmps33
 go_wp2;refine wp_loop_rounds 2 ?_;rw[rounds_succ];go_wp2;rw[rounds_succ];go_wp2;go_ret;exact⟨rfl,(Keep.refl w).alloc _⟩
theorem inSize_any (x:Int)(w:World):
  Calls Tryd.prog 112 #[.int .i64 x] w fun e w'=>e = .returned (.bool (inB x 0 11))∧w'=w:=by
 go_enter Tryd.func112,Tryd.ntmps112
 go_wp2
 all_goals
  go_ret;exact⟨ret_bool (by rw[Bool.eq_iff_iff];unfold inB;simp;omega),rfl⟩
theorem isOf_any (n s:Int)(w:World):
  Calls Tryd.prog 114 #[.int .i64 s,.int .i64 n] w fun e w'=>e = .returned (.bool (okB n s))∧w'=w:=by
 go_enter Tryd.func114,Tryd.ntmps114
 go_wp2
 ·
  go_ret;exact⟨ret_bool (by rw[wrap64_pow n (by assumption) (by assumption),Bool.eq_iff_iff];unfold okB;simp;omega),rfl⟩
 all_goals
  go_ret;exact⟨ret_bool (by rw[Bool.eq_iff_iff];unfold okB;simp;omega),rfl⟩
theorem has_any (s i:Int)(w:World):
  Calls Tryd.prog 105 #[.int .i64 s,.int .i64 i] w fun e w'=>e = .returned (.bool (inSetB s i))∧w'=w:=by
 have key:okB 12 s=inB s 0 4095:=by rw[Bool.eq_iff_iff];unfold okB inB;simp;omega
 cases hs:inB s 0 4095
 ·
  have hk:okB 12 s=false:=key.trans hs;clear key;go_enter Tryd.func105,Tryd.ntmps105
  go_wp2_with (go_at_call 114;refine (isOf_any _ _ _).mono ?_;rintro e w' ⟨rfl,rfl⟩)
  go_ret;exact⟨ret_bool (by simp[inSetB,hs]),rfl⟩
 ·
  have hk:okB 12 s=true:=key.trans hs;clear key;cases hi:inB i 0 11
  ·
   go_enter Tryd.func105,Tryd.ntmps105
   go_wp2_with (first|(go_at_call 114;refine (isOf_any _ _ _).mono ?_;rintro e w' ⟨rfl,rfl⟩)|(go_at_call 112;refine (inSize_any _ _).mono ?_;rintro e w' ⟨rfl,rfl⟩))
   go_ret;exact⟨ret_bool (by simp[inSetB,hi]),rfl⟩
  ·
   have hi':=hi;simp only[inB,decide_eq_true_eq] at hi';obtain⟨i1,i2⟩:=hi';go_enter Tryd.func105,Tryd.ntmps105
   go_wp2_with (first|(go_at_call 114;refine (isOf_any _ _ _).mono ?_;rintro e w' ⟨rfl,rfl⟩)|(go_at_call 112;refine (inSize_any _ _).mono ?_;rintro e w' ⟨rfl,rfl⟩))
   go_ret;exact⟨ret_bool (by simp[inSetB,hs,hi,bitB]),rfl⟩
theorem with_any (s i:Int)(w:World):
  Calls Tryd.prog 103 #[.int .i64 s,.int .i64 i] w fun e w'=>e = .returned (.int .i64 (gAdd s i))∧w'=w:=by
 by_cases hs:s=-1
 ·
  subst hs;go_enter Tryd.func103,Tryd.ntmps103
  go_wp2;go_ret;exact⟨ret_int (gAdd_none i).symm,rfl⟩
 ·
  have hsb:(s == -1)=false:=by simp[hs]
  have HS:Hid (¬s=-1):=hs;clear hs;cases hi:inB i 0 11
  ·
   go_enter Tryd.func103,Tryd.ntmps103
   go_wp2_with (go_at_call 112;refine (inSize_any _ _).mono ?_;rintro e w' ⟨rfl,rfl⟩)
   go_ret;exact⟨ret_int (gAdd_bad s i hi).symm,rfl⟩
  ·
   have hi':=hi;simp only[inB,decide_eq_true_eq] at hi';obtain⟨i1,i2⟩:=hi';go_enter Tryd.func103,Tryd.ntmps103
   go_wp2_with (go_at_call 112;refine (inSize_any _ _).mono ?_;rintro e w' ⟨rfl,rfl⟩)
   go_ret;exact⟨ret_int (by simp[gAdd,HS.out,hi]),rfl⟩
abbrev rdV (p:Int):Value:= .iface 162 (.agg #[.int .i64 p])
abbrev wrV (p v:Int):Value:= .iface 160 (.agg #[.int .i64 p,.int .i64 v])
abbrev evA (x0 x1:Int)(r:Bool)(x3 x4 x5:Int):Value:= .agg #[.int .i64 x0,.int .i64 x1,.bool r,.int .i64 x3,.int .i64 x4,.int .i64 x5]
theorem at_rd (p : Int) (w : World) : (method 306 162 (.agg #[.int .i64 p]) "loop.example/g00411/impl.at").run Tryd.prog w = .ok (151, .agg #[.int .i64 p]) w := by kernel_rfl
theorem at_wr (p v : Int) (w : World) : (method 306 160 (.agg #[.int .i64 p, .int .i64 v]) "loop.example/g00411/impl.at").run Tryd.prog w = .ok (150, .agg #[.int .i64 p, .int .i64 v]) w := by kernel_rfl
theorem atRd_any (p:Int)(w:World):Calls Tryd.prog 151 #[.agg #[.int .i64 p]] w fun e w'=>e = .returned (.int .i64 p)∧Keep w w':=by
 go_enter Tryd.func151,Tryd.ntmps151
 go_wp2;go_ret;exact⟨rfl,(Keep.refl w).alloc _⟩
theorem atWr_any (p v:Int)(w:World):Calls Tryd.prog 150 #[.agg #[.int .i64 p,.int .i64 v]] w fun e w'=>e = .returned (.int .i64 p)∧Keep w w':=by
 go_enter Tryd.func150,Tryd.ntmps150
 go_wp2;go_ret;exact⟨rfl,(Keep.refl w).alloc _⟩
theorem as_rd (p:Int)(w:World):(Instr.typeAssert (rdV p) 151 162 true).run Tryd.prog w = .ok (.tuple #[.agg #[.int .i64 p],.bool true]) w:=by kernel_rfl
theorem as_wr (p v:Int)(w:World):(Instr.typeAssert (wrV p v) 151 162 true).run Tryd.prog w = .ok (.tuple #[.agg #[.int .i64 0],.bool false]) w:=by kernel_rfl
theorem as_wr2 (p v:Int)(w:World):(Instr.typeAssert (wrV p v) 151 160 true).run Tryd.prog w = .ok (.tuple #[.agg #[.int .i64 p,.int .i64 v],.bool true]) w:=by kernel_rfl
abbrev put6W (w:World)(B:Nat)(a0 a1 a2 a3 a4 a5:Value):World:=
 (((((w.setCell ⟨B,0,none⟩ a0).setCell ⟨B,1,none⟩ a1).setCell ⟨B,2,none⟩ a2).setCell ⟨B,3,none⟩ a3).setCell ⟨B,4,none⟩ a4).setCell ⟨B,5,none⟩ a5
theorem set6 {w:World}{B:Nat}{T:TypeId}{b0 b1 b2 b3 b4 b5:Value}(h:w.heap[B]? = some (.cells #[b0,b1,b2,b3,b4,b5] T))(a0 a1 a2 a3 a4 a5:Value):
  (put6W w B a0 a1 a2 a3 a4 a5).heap[B]? = some (.cells #[a0,a1,a2,a3,a4,a5] T):=by
 have h0:=heap_setCell_same w B 0 _ _ a0 h;have h1:=heap_setCell_same _ B 1 _ _ a1 h0;have h2:=heap_setCell_same _ B 2 _ _ a2 h1;have h3:=heap_setCell_same _ B 3 _ _ a3 h2;have h4:=heap_setCell_same _ B 4 _ _ a4 h3;exact heap_setCell_same _ B 5 _ _ a5 h4
theorem keep1 {w wr:World}(h:Keep w wr){g:Nat}(hg:w.heap.size≤g)(i:Nat)(x:Value):Keep w (wr.setCell ⟨g,i,none⟩ x):=
 h.grown (row:=some g) ⟨rfl,rfl,rfl,by simp,fun k _ hk=>heap_setCell_other wr ⟨g,i,none⟩ k x (fun e=>hk (by simp[e]))⟩ (fun k hk=>by simp at hk;omega)
theorem keep6 {w wr:World}(h:Keep w wr)(a0 a1 a2 a3 a4 a5:Value):Keep w (put6W wr w.heap.size a0 a1 a2 a3 a4 a5):=
 keep1 (keep1 (keep1 (keep1 (keep1 (keep1 h (Nat.le_refl _) 0 a0) (Nat.le_refl _) 1 a1) (Nat.le_refl _) 2 a2) (Nat.le_refl _) 3 a3) (Nat.le_refl _) 4 a4) (Nat.le_refl _) 5 a5
theorem size6 (w:World)(B:Nat)(a0 a1 a2 a3 a4 a5:Value):(put6W w B a0 a1 a2 a3 a4 a5).heap.size=w.heap.size:=by simp
theorem eventOf_rd (p:Int)(w:World):
  Calls Tryd.prog 97 #[rdV p] w fun e w'=>e = .returned (evA 0 0 true p 0 0)∧Keep w w':=by
 have hm:=at_rd p;have ha:=as_rd p;go_enter Tryd.func97,Tryd.ntmps97
 go_wp2_with fail
 refine (atRd_any _ _).mono ?_;rintro e w1 ⟨rfl,k1⟩;have hb:=box_size k1;have hh:=box_heap k1;have b0:=box_cell k1 0;have b1:=box_cell k1 1;have b2:=box_cell k1 2;have b3:=box_cell k1 3;have b4:=box_cell k1 4;have b5:=box_cell k1 5;have hfr:=fun j=>frozen_of_row w1 w.heap.size j _ _ (box_heap k1)
 have S:=set6 hh (.int .i64 0) (.int .i64 0) (.bool true) (.int .i64 p) (.int .i64 0) (.int .i64 0);have K:=keep6 (((Keep.refl w).alloc _).trans k1) (.int .i64 0) (.int .i64 0) (.bool true) (.int .i64 p) (.int .i64 0) (.int .i64 0);have Z:=size6 w1 w.heap.size (.int .i64 0) (.int .i64 0) (.bool true) (.int .i64 p) (.int .i64 0) (.int .i64 0);go_wp2;refine bodyPost_ret (results_row (by rfl) _ _ w.heap.size _ _ _ _ rfl (by rw[heap_at,if_neg (by rw[heap_size,Z];omega),heap_at,if_neg (by rw[Z];omega)];exact S) Tryd.underlying99 rfl (by kernel_rfl)) rfl ?_;exact⟨rfl,(K.alloc _).alloc _⟩
theorem eventOf_wr (p v:Int)(w:World):
  Calls Tryd.prog 97 #[wrV p v] w fun e w'=>e = .returned (evA 0 0 false p v 0)∧Keep w w':=by
 have hm:=at_wr p v;have ha:=as_wr p v;have hc:=as_wr2 p v;go_enter Tryd.func97,Tryd.ntmps97
 go_wp2_with fail
 refine (atWr_any _ _ _).mono ?_;rintro e w1 ⟨rfl,k1⟩;have hb:=box_size k1;have hh:=box_heap k1;have b0:=box_cell k1 0;have b1:=box_cell k1 1;have b2:=box_cell k1 2;have b3:=box_cell k1 3;have b4:=box_cell k1 4;have b5:=box_cell k1 5;have hfr:=fun j=>frozen_of_row w1 w.heap.size j _ _ (box_heap k1)
 have S:=set6 hh (.int .i64 0) (.int .i64 0) (.bool false) (.int .i64 p) (.int .i64 v) (.int .i64 0);have K:=keep6 (((Keep.refl w).alloc _).trans k1) (.int .i64 0) (.int .i64 0) (.bool false) (.int .i64 p) (.int .i64 v) (.int .i64 0);have Z:=size6 w1 w.heap.size (.int .i64 0) (.int .i64 0) (.bool false) (.int .i64 p) (.int .i64 v) (.int .i64 0);go_wp2;refine bodyPost_ret (results_row (by rfl) _ _ w.heap.size _ _ _ _ rfl (by rw[heap_at,if_neg (by rw[heap_size,Z];omega),heap_at,if_neg (by rw[Z];omega)];exact S) Tryd.underlying99 rfl (by kernel_rfl)) rfl ?_;exact⟨rfl,(K.alloc _).alloc _⟩
theorem beginnings_any (w:World):
  Calls Tryd.prog 93 #[] w fun e w'=>∃v',e = .returned v'∧AppE w' w.heap.size v' evBeg∧Keep w w':=by
 obtain⟨j0,hj,hy0,hy1,hy2⟩:=info_parts Tryd.infoE;have A0:AppE (w.alloc (.cells #[] 99)) w.heap.size (.slice (some ⟨w.heap.size,0,none⟩) 0 0) []:=appT_empty w;go_enter Tryd.func93,Tryd.ntmps93
 go_wp2;go_loopw [1,5] (fun v i wr=>∃k:Nat,∃m:Int,∃es:List Ev,k≤3∧i = .int .i64 m∧m=(k:Int)∧Hid (es=evBeg.take k)∧es.length≤k∧LP w wr v es []) (fun _ i _=>3-(intOf i).toNat)
 case atStart=>exact⟨0,0,[],Nat.zero_le _,rfl,rfl,Lib.hid rfl,Nat.le_refl _,A0,(Keep.refl _).alloc _,by simp⟩
 case round=>
  obtain⟨k,m,es,hk,rfl,hm,hE,hel,hL⟩:=hrel;clear A0;by_cases hlt:k<3
  ·
   subst hm
   have HM:Hid (es++[((-1:Int),(-1:Int),false,(k:Int),0,(k:Int))]=evBeg.take (k+1)):=Lib.hid (by
    rw[hE.out];have:k=0∨k=1∨k=2:=by omega
    rcases this with rfl|rfl|rfl<;>rfl)
   clear hE;go_wp2_with fail
   refine (eventOf_wr _ _ _).mono ?_;rintro e w2 ⟨rfl,k2⟩;have L2:=hL.more k2;have hsz:=L2.keep.size;have L3:=(L2.more ((Keep.refl w2).alloc (eO (-1) (-1) false k 0 k))).more ((Keep.refl _).alloc (eO (-1) (-1) false k 0 k));go_wp2_with (at_builtin;refine wpList_append_own_at _ rfl _ _ 70 rfl w.heap.size 99 j0 (.agg #[.int .i64 0,.int .i64 0,.bool false,.int .i64 0,.int .i64 0,.int .i64 0]) 6 48 Tryd.underlying70 hj hy0 hy1 hy2 rfl (by decide) _ _ _ rfl L3.app ⟨_,0,none⟩ 1 1 (cE ((-1:Int),(-1:Int),false,(k:Int),0,(k:Int))) rfl rfl ?c1 ?c2 ?c3 ?c4 ?c5 ?_)
   case c1=>exact cE_newP _ _ (heap_size _ _) _ _ _ _ _ _
   case c2=>exact cE_oneP _
   case c3=>unfold maxLen;omega
   case c4=>omega
   case c5=>simp;omega
   intro v' w1 hown' hgrow _ hblk;have L4:=L3.hit _ hown' hgrow (by rw[heap_size,heap_size];exact hblk);clear hgrow hown' hblk L3 L2 hL;go_wp2;go_roundw;case rel=>exact⟨k+1,_,_,by omega,rfl,by omega,HM,by simp;omega,L4⟩
   case measure=>simp[intOf];omega
  obtain rfl:m=3:=by omega
  have HB:Hid (es=evBeg):=Lib.hid (by rw[hE.out,show k=3 by omega];rfl);clear hE hm;go_wp2;go_ret;exact⟨_,rfl,by rw[←HB.out];exact hL.app,hL.keep⟩
theorem rClo_any (x0 x1:Int)(x2:Bool)(x3 x4 x5:Int)(w:World):
  Calls Tryd.prog 92 #[.agg #[.int .i64 x0,.int .i64 x1,.bool x2,.int .i64 x3,.int .i64 x4,.int .i64 x5]] w fun e w'=>e = .returned (.bool (rdE (x0,x1,x2,x3,x4,x5)))∧Keep w w':=by
 go_enter Tryd.func92,Tryd.ntmps92
 go_wp2;go_ret;exact⟨rfl,(Keep.refl w).alloc _⟩
theorem rNum_any (w:World)(v:Value)(es:List Ev)(h:RdE w v es)(k:Nat)(A B:Nat)(hA:w.cell? ⟨A,0,none⟩=some v)(hAl:A<w.heap.size)(hB:w.cell? ⟨B,0,none⟩=some (.func (Fn.func 92) #[] #[]))(hBl:B<w.heap.size):
  Calls Tryd.prog 107 #[.int .i64 k,.pointer (some ⟨A,0,none⟩),.pointer (some ⟨B,0,none⟩)] w fun e w'=>e = .returned (.bool (tstE rdE es k))∧Keep w w':=by
 obtain⟨a,c,rfl,h⟩:=h;by_cases hlt:k<es.length
 ·
  rcases h with h|⟨b,o,rfl,hb,hc⟩
  · exfalso;rw[h] at hlt;simp at hlt
  have AT:=hc k _ (evs_get hlt);have HE:Hid (tstE rdE es k=rdE (es.getD k zE)):=Lib.hid (by unfold tstE;simp[hlt]);clear hc;obtain⟨e,he⟩:∃e,e=es.getD k zE:=⟨_,rfl⟩;rw[←he] at AT HE;clear he;obtain⟨x0,x1,x2,x3,x4,x5⟩:=e;obtain⟨d0,d1,d2,d3,d4,d5⟩:=atE AT;clear AT;have i1:(0:Int)≤(k:Int):=Int.natCast_nonneg _;have i2:(k:Int)<(es.length:Int):=by omega
  have z1:b<w.drew.heap.size:=hb;have z2:A<w.drew.heap.size:=hAl;have z3:B<w.drew.heap.size:=hBl;go_enter Tryd.func107,Tryd.ntmps107
  go_wp2_with fail
  go_region_held3 (fun w'=>w'.cell? ⟨A,0,none⟩=some (.slice (some ⟨b,o,none⟩) es.length (es.length+c))∧w'.cell? ⟨B,0,none⟩=some (.func (Fn.func 92) #[] #[])∧w'.cell? ⟨b,o+k*6,none⟩=some (.int .i64 x0)∧w'.cell? ⟨b,o+k*6+1,none⟩=some (.int .i64 x1)∧w'.cell? ⟨b,o+k*6+2,none⟩=some (.bool x2)∧w'.cell? ⟨b,o+k*6+3,none⟩=some (.int .i64 x3)∧w'.cell? ⟨b,o+k*6+4,none⟩=some (.int .i64 x4)∧w'.cell? ⟨b,o+k*6+5,none⟩=some (.int .i64 x5))
   (first|go_keep|(go_split_ands;refine⟨?_,?_,?_,?_,?_,?_,?_,?_⟩<;>(rw[kk.cell (by assumption)];assumption)))
   ((go_at_call 92;refine (rClo_any x0 x1 x2 x3 x4 x5 _).mono ?_;rintro e wz ⟨rfl,kk⟩))
  all_goals
   go_wp2;go_ret;exact⟨by rw[HE.out];rfl,((Keep.refl w).drew).trans kk⟩
 ·
  have HE:Hid (tstE rdE es k=false):=Lib.hid (by unfold tstE;simp[hlt]);have i2:¬((k:Int)<(es.length:Int)):=by omega
  go_enter Tryd.func107,Tryd.ntmps107
  go_wp2_with fail
  go_quiet (fail)
  go_wp2;go_ret;exact⟨by rw[HE.out];rfl,(Keep.refl w).drewN _⟩
theorem rChosen_any (w:World)(v:Value)(es:List Ev)(h:RdE w v es)(hx:es.length≤12)(A B:Nat)(hA:w.cell? ⟨A,0,none⟩=some v)(hAl:A<w.heap.size)(hB:w.cell? ⟨B,0,none⟩=some (.func (Fn.func 92) #[] #[]))(hBl:B<w.heap.size):
  Calls Tryd.prog 106 #[.func (Fn.func 107) #[] #[.pointer (some ⟨A,0,none⟩),.pointer (some ⟨B,0,none⟩)]] w fun e w'=>∃v',e = .returned v'∧Own w' w.heap.size v' (idxK rdE es es.length)∧Keep w w':=by
 have hown0:Own (w.alloc (.cells #[] 2)) w.heap.size (.slice (some ⟨w.heap.size,0,none⟩) 0 0) []:=World.ownsRow_lit w #[] 0 (Nat.le_refl _) (by decide) rfl;obtain⟨i0,hi,hz0,hz1,hz2⟩:=info_parts Tryd.infoI;go_enter Tryd.func106,Tryd.ntmps106
 go_wp2;go_loopw [3,6] (fun v i wr=>∃k:Nat,k≤12∧i = .int .i64 k∧Own wr w.heap.size v (chK rdE es k)∧Keep w wr) (fun _ i _=>12-(intOf i).toNat)
 case atStart=>exact⟨0,Nat.zero_le _,rfl,hown0,(Keep.refl _).alloc _⟩
 case round=>
  obtain⟨k,hk,rfl,ho,hK⟩:=hrel;clear hown0;by_cases hlt:k<12
  ·
   have hml:=chK_len rdE es k;have hsz:=hK.size;have C:=rNum_any wr v es (h.keep hK) k A B (by rw[hK.cell hAl];exact hA) (Nat.lt_of_lt_of_le hAl hK.size) (by rw[hK.cell hBl];exact hB) (Nat.lt_of_lt_of_le hBl hK.size);clear h hA hB;cases hb:tstE rdE es k
   ·
    have HM:Hid (chK rdE es (k+1)=chK rdE es k):=Lib.hid (by rw[chK,hb];rfl);rw[hb] at C;go_wp2_with fail
    refine C.mono ?_;rintro e w1 ⟨rfl,k1⟩;go_wp2;go_roundw;case rel=>exact⟨k+1,by omega,by go_num,by rw[HM.out];exact ho.keep k1,hK.trans k1⟩
    case measure=>simp[intOf];omega
   ·
    have HM:Hid (chK rdE es (k+1)=chK rdE es k++[(k:Int)]):=Lib.hid (by rw[chK,hb];rfl);rw[hb] at C;go_wp2_with fail
    refine C.mono ?_;rintro e w1 ⟨rfl,k1⟩;have ho1:=ho.keep k1;have hK1:=hK.trans k1;have hsz1:=hK1.size;clear ho hK C;go_wp2_with (at_builtin;refine wpList_append_own _ rfl _ _ 25 rfl w.heap.size 2 i0 (.int .i64 0) 1 8 Tryd.underlying25 hi hz0 hz1 hz2 rfl (by decide) _ _ _ rfl (World.ownsRow.alloc ho1 _) ⟨_,0,none⟩ 1 1 [.int .i64 k] rfl rfl ?c1 ?c2 ?c3 ?c4 ?c5 ?_)
    case c1=>
     intro j u hj
     match j,hj with
     | 0,hj=>simp at hj;subst hj;simp[Addr.add]
    case c2=>intro u hu;simp at hu;subst hu;rfl
    case c3=>unfold maxLen;omega
    case c4=>omega
    case c5=>simp;omega
    intro v' w2 hown' hgrow _;have hK2:Keep w w2:=(hK1.alloc _).grown hgrow ho1.ge;clear hgrow;go_wp2;go_roundw;case rel=>exact⟨k+1,by omega,by go_num,by rw[HM.out];exact own_hit hown',hK2⟩
    case measure=>simp[intOf];omega
  ·
   obtain rfl:k=12:=by omega
   rw[chK_all rdE es 12 hx] at ho;go_wp2;go_ret;exact⟨_,rfl,ho,hK⟩
theorem rNumbers_any (w:World)(v:Value)(es:List Ev)(h:RdE w v es)(hx:es.length≤1048576):
  Calls Tryd.prog 91 #[v,(.func (Fn.func 92) #[] #[])] w fun e w'=>∃v',e = .returned v'∧Own w' w.heap.size v' (idxB rdE es)∧Keep w w':=by
 by_cases hl:12<es.length
 ·
  have HE:Hid (idxB rdE es=[]):=Lib.hid (by unfold idxB;rw[if_neg (by omega)]);have l1:(12:Int)<(es.length:Int):=by omega
  have O:∀o1 o2:Obj,Own (((w.alloc o1).alloc o2).alloc (.cells #[] 2)) w.heap.size (.slice (some ⟨w.heap.size+1+1,0,none⟩) 0 0) []:=fun o1 o2=>by
   have q:Own (((w.alloc o1).alloc o2).alloc (.cells #[] 2)) ((w.alloc o1).alloc o2).heap.size (.slice (some ⟨((w.alloc o1).alloc o2).heap.size,0,none⟩) 0 0) []:=World.ownsRow_lit _ #[] 0 (Nat.le_refl _) (by decide) rfl;have z:((w.alloc o1).alloc o2).heap.size=w.heap.size+1+1:=by rw[heap_size,heap_size]
   rw[z] at q;exact q.base_le (by omega)
  obtain⟨a,c,rfl,h⟩:=h;go_enter Tryd.func91,Tryd.ntmps91
  go_wp2;go_ret;refine⟨_,rfl,?_,(((Keep.refl w).alloc _).alloc _).alloc _⟩;rw[HE.out];exact O _ _
 ·
  have l1:es.length≤12:=by omega
  have HE:Hid (idxB rdE es=idxK rdE es es.length):=Lib.hid (by unfold idxB;rw[if_pos l1]);clear hl;have C:=fun (o1 o2:Obj)=>rChosen_any ((w.alloc o1).alloc o2) v es (h.keep (((Keep.refl w).alloc _).alloc _)) l1 w.heap.size (w.heap.size+1)
  obtain⟨a,c,rfl,h⟩:=h;have l2:(es.length:Int)≤12:=by omega
  go_enter Tryd.func91,Tryd.ntmps91
  go_wp2_with fail
  refine (C _ _ ?g1 ?g2 ?g3 ?g4).mono ?_;case g1=>simp
  case g2=>simp only[heap_size];omega
  case g3=>simp
  case g4=>simp only[heap_size];omega
  rintro e w1 ⟨v1,rfl,ho,hK⟩;go_wp2;go_ret;refine⟨_,rfl,?_,(((Keep.refl w).alloc _).alloc _).trans hK⟩;rw[HE.out];exact ho.base_le (by simp only[heap_size];omega)
theorem implReadsOf_any (w:World)(v:Value)(es:List Ev)(h:RdE w v es)(hx:es.length≤1048576):
  Calls Tryd.prog 78 #[v] w fun e w'=>∃v',e = .returned v'∧Own w' w.heap.size v' (idxB rdE es)∧Keep w w':=by
 go_enter Tryd.func78,Tryd.ntmps78
 go_wp2_with fail
 refine (rNumbers_any _ _ _ h hx).mono ?_;rintro e w1 ⟨v1,rfl,ho,hK⟩;go_wp2;go_ret;exact⟨_,rfl,ho,hK⟩
end Go.Proofs.YtflehmepjhikcaaDoor
