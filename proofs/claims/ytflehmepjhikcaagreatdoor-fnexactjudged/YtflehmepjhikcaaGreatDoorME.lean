/- Gathered texts. -/
import Derived.Test.YtflehmepjhikcaaGreatDoorMD
import Derived.WalkKit
import Derived.LaidEql
import Derived.Stop.Asserts
import Derived.RowKitTokens
import Derived.Test.YtflehmepjhikcaaGreatDoorRows
import Derived.OpenShut
import Derived.Outline
import Derived.BigRegion
import Derived.RegionTactic
import Derived.Lib.Hide
import Derived.Maps.AppendAt
import Derived.Deep.RegionHeld3
import Derived.Deep.QuietTactic
import Derived.BigQuiet
import Derived.Laws.Tables
import Derived.Laws.CopyOwn
set_option maxRecDepth 100000
set_option maxHeartbeats 8000000
namespace Go.Proofs.YtflehmepjhikcaaGreatDoor
open Go.ChangeShapes Go.WideShapes Go.ChangeAt Go.RowKit
open Go.RowKit Go.Extern.Stop Go.Stop Go.Extern
abbrev AN:=@Lib.hid
abbrev KAf:=@wpList_append_own_at
abbrev KB8:=@run_callFunc_extern
abbrev KCC:=@rounds_succ
abbrev KCH:=@World.ownsRow.alloc
abbrev KCh:=@wp_loop_rounds
abbrev KDI:=@World.cell?_alloc_lt
theorem Xh (v:Value)(w:World):(Extern.ReflectliteType.typeOf #[.iface 234 v]).run Tryz.prog w = .ok (.iface 138 (.agg #[.pointer (some ⟨4,234,none⟩)])) w:=by kernel_rfl
def uI (t:TypeId):Sem Value:=do
 Extern.Rtype.noPackHeld "Comparable" t
 pure (.bool (<-typeInfo t).comparable)
theorem Ot (w:World):((Extern.ReflectliteType.method uI) #[.agg #[.pointer (some ⟨4,234,none⟩)]]).run Tryz.prog w = .ok (.bool true) w:=by kernel_rfl
theorem is_methodC (v : Value) (w : World) : (Go.method 367 138 v "Comparable").run Tryz.prog w = .ok (201, v) w := by kernel_rfl
theorem jT:(Tryz.prog.info? 234).map (·.comparable)=some true:=by kernel_rfl
theorem jV:(Tryz.prog.info? 255).map (·.size)=some 1:=by kernel_rfl
theorem aG (v:Value)(xT:TypeId)(w:World):(Instr.typeAssert (.iface 59 v) xT 161 true).run Tryz.prog w = .ok (.tuple #[.nilIface,.bool false]) w:=run_typeAssert_lacksB Tryz.underlying161 (by kernel_rfl) (by kernel_rfl) v xT w
theorem jU (v:Value)(xT:TypeId)(w:World):(Instr.typeAssert (.iface 59 v) xT 145 true).run Tryz.prog w = .ok (.tuple #[.iface 59 v,.bool true]) w:=run_typeAssert_hasB Tryz.underlying145 (by kernel_rfl) v xT w
theorem is_methodU (v : Value) (w : World) : (Go.method 367 59 v "Unwrap").run Tryz.prog w = .ok (195, v) w := by kernel_rfl
theorem Xg (b:Addr)(w:World):
  Calls Tryz.prog 35 #[.nilIface,Ti b] w fun e w'=>e = .returned (.bool false)/\AC w w':=by
 have hn:=run_eql_iface_nil_left (P:=Tryz.prog) w 234 (.pointer (some b)) Tryz.underlying57;go_enter Tryz.func35,Tryz.ntmps35
 go_wp2;go_ret;exact⟨rfl,AC.refl _⟩
theorem UQ (s:ByteArray)(b:Addr)(w:World):
  Calls Tryz.prog 35 #[wO s (Ti b),Ti b] w fun e w'=>e = .returned (.bool true)/\AC w w':=by
 obtain⟨i,hi,hcmp⟩:=Option.map_eq_some_iff.1 jT;obtain⟨j,hj,hjs⟩:=Option.map_eq_some_iff.1 jV;have h8:=@KB8 Tryz.prog 65 _ Extern.ReflectliteType.typeOf Tryz.func65 (by kernel_rfl) (by kernel_rfl) (by kernel_rfl) (by kernel_rfl);have h32:=@KB8 Tryz.prog 201 _ (Extern.ReflectliteType.method uI) Tryz.func201 (by kernel_rfl) (by kernel_rfl) (by kernel_rfl) (by kernel_rfl);have tT:=Xh;have cT:=Ot;have mR:=is_methodC;have nW:=aG;have uW:=jU;have mU:=is_methodU;have heq:=fun W=>run_eql_iface_ptr_same (P:=Tryz.prog) W b Tryz.underlying57 Tryz.underlying234 hi hcmp hj
 have hty:=fun v W=>run_eql_iface_types (P:=Tryz.prog) 59 234 v (.pointer (some b)) Tryz.underlying57 (by decide) W
 go_enter Tryz.func35,Tryz.ntmps35
 go_wp2;refine KCh 2 ?_;rw[KCC];go_wp2;rw[KCC];go_wp2;go_ret;exact⟨rfl,(AC.refl w).alloc _⟩
theorem Ha (x:Int)(w:World):
  Calls Tryz.prog 170 #[.int .i64 x] w fun e w'=>e = .returned (.bool (Co x 0 11))/\w'=w:=by
 go_enter Tryz.func170,Tryz.ntmps170
 go_wp2
 all_goals
  go_ret;exact⟨BE (by rw[KBg];unfold Co;simp;omega),rfl⟩
theorem Nf (n s:Int)(w:World):
  Calls Tryz.prog 172 #[.int .i64 s,.int .i64 n] w fun e w'=>e = .returned (.bool (qI n s))/\w'=w:=by
 go_enter Tryz.func172,Tryz.ntmps172
 go_wp2
 ·
  go_ret;exact⟨BE (by rw[OT n (by assumption) (by assumption),KBg];unfold qI;simp;omega),rfl⟩
 all_goals
  go_ret;exact⟨BE (by rw[KBg];unfold qI;simp;omega),rfl⟩
theorem Va (s i:Int)(w:World):
  Calls Tryz.prog 159 #[.int .i64 s,.int .i64 i] w fun e w'=>e = .returned (.bool (Fk s i))/\w'=w:=by
 have key:qI 12 s=Co s 0 4095:=by rw[KBg];unfold qI Co;simp;omega
 cases hs:Co s 0 4095
 ·
  have hk:qI 12 s=false:=key.trans hs;clear key;go_enter Tryz.func159,Tryz.ntmps159
  go_wp2_with (go_at_call 172;refine (Nf _ _ _).mono ?_;rintro e w' ⟨rfl,rfl⟩)
  go_ret;exact⟨BE (by simp[Fk,hs]),rfl⟩
 ·
  have hk:qI 12 s=true:=key.trans hs;clear key;cases hi:Co i 0 11
  ·
   go_enter Tryz.func159,Tryz.ntmps159
   go_wp2_with (first|(go_at_call 172;refine (Nf _ _ _).mono ?_;rintro e w' ⟨rfl,rfl⟩)|(go_at_call 170;refine (Ha _ _).mono ?_;rintro e w' ⟨rfl,rfl⟩))
   go_ret;exact⟨BE (by simp[Fk,hi]),rfl⟩
  ·
   have hi':=hi;simp only[Co,KAN] at hi';obtain⟨i1,i2⟩:=hi';go_enter Tryz.func159,Tryz.ntmps159
   go_wp2_with (first|(go_at_call 172;refine (Nf _ _ _).mono ?_;rintro e w' ⟨rfl,rfl⟩)|(go_at_call 170;refine (Ha _ _).mono ?_;rintro e w' ⟨rfl,rfl⟩))
   go_ret;exact⟨BE (by simp[Fk,hs,hi,iK]),rfl⟩
theorem fU (s i:Int)(w:World):
  Calls Tryz.prog 157 #[.int .i64 s,.int .i64 i] w fun e w'=>e = .returned (.int .i64 (MU s i))/\w'=w:=by
 by_cases hs:s=-1
 ·
  subst hs;go_enter Tryz.func157,Tryz.ntmps157
  go_wp2;go_ret;exact⟨RJ (Xa i).symm,rfl⟩
 ·
  have hsb:(s == -1)=false:=by simp[hs]
  have HS:Hid (¬s=-1):=hs;clear hs;cases hi:Co i 0 11
  ·
   go_enter Tryz.func157,Tryz.ntmps157
   go_wp2_with (go_at_call 170;refine (Ha _ _).mono ?_;rintro e w' ⟨rfl,rfl⟩)
   go_ret;exact⟨RJ (Zl s i hi).symm,rfl⟩
  ·
   have hi':=hi;simp only[Co,KAN] at hi';obtain⟨i1,i2⟩:=hi';go_enter Tryz.func157,Tryz.ntmps157
   go_wp2_with (go_at_call 170;refine (Ha _ _).mono ?_;rintro e w' ⟨rfl,rfl⟩)
   go_ret;exact⟨RJ (by simp[MU,HS.out,hi]),rfl⟩
abbrev YG (p:Int):Value:= .iface 215 (.agg #[.int .i64 p])
abbrev U5 (p v:Int):Value:= .iface 213 (.agg #[.int .i64 p,.int .i64 v])
abbrev evA (x0 x1:Int)(r:Bool)(x3 x4 x5:Int):Value:= .agg #[.int .i64 x0,.int .i64 x1,.bool r,.int .i64 x3,.int .i64 x4,.int .i64 x5]
theorem at_rd (p : Int) (w : World) : (method 367 215 (.agg #[.int .i64 p]) "loop.example/g00411/impl.at").run Tryz.prog w = .ok (211, .agg #[.int .i64 p]) w := by kernel_rfl
theorem at_wr (p v : Int) (w : World) : (method 367 213 (.agg #[.int .i64 p, .int .i64 v]) "loop.example/g00411/impl.at").run Tryz.prog w = .ok (210, .agg #[.int .i64 p, .int .i64 v]) w := by kernel_rfl
theorem Y8 (p:Int)(w:World):Calls Tryz.prog 211 #[.agg #[.int .i64 p]] w fun e w'=>e = .returned (.int .i64 p)/\AC w w':=by
 go_enter Tryz.func211,Tryz.ntmps211
 go_wp2;go_ret;exact⟨rfl,(AC.refl w).alloc _⟩
theorem Y9 (p v:Int)(w:World):Calls Tryz.prog 210 #[.agg #[.int .i64 p,.int .i64 v]] w fun e w'=>e = .returned (.int .i64 p)/\AC w w':=by
 go_enter Tryz.func210,Tryz.ntmps210
 go_wp2;go_ret;exact⟨rfl,(AC.refl w).alloc _⟩
theorem tH (p:Int)(w:World):(Instr.typeAssert (YG p) 187 215 true).run Tryz.prog w = .ok (.tuple #[.agg #[.int .i64 p],.bool true]) w:=by kernel_rfl
theorem tJ (p v:Int)(w:World):(Instr.typeAssert (U5 p v) 187 215 true).run Tryz.prog w = .ok (.tuple #[.agg #[.int .i64 0],.bool false]) w:=by kernel_rfl
theorem oM (p v:Int)(w:World):(Instr.typeAssert (U5 p v) 187 213 true).run Tryz.prog w = .ok (.tuple #[.agg #[.int .i64 p,.int .i64 v],.bool true]) w:=by kernel_rfl
abbrev dG (w:World)(B:Nat)(a0 a1 a2 a3 a4 a5:Value):World:=
 (((((w.setCell ⟨B,0,none⟩ a0).setCell ⟨B,1,none⟩ a1).setCell ⟨B,2,none⟩ a2).setCell ⟨B,3,none⟩ a3).setCell ⟨B,4,none⟩ a4).setCell ⟨B,5,none⟩ a5
theorem wT {w:World}{B:Nat}{T:TypeId}{b0 b1 b2 b3 b4 b5:Value}(h:w.heap[B]? = some (.cells #[b0,b1,b2,b3,b4,b5] T))(a0 a1 a2 a3 a4 a5:Value):
  (dG w B a0 a1 a2 a3 a4 a5).heap[B]? = some (.cells #[a0,a1,a2,a3,a4,a5] T):=by
 have h0:=KAt w B 0 _ _ a0 h;have h1:=KAt _ B 1 _ _ a1 h0;have h2:=KAt _ B 2 _ _ a2 h1;have h3:=KAt _ B 3 _ _ a3 h2;have h4:=KAt _ B 4 _ _ a4 h3;exact KAt _ B 5 _ _ a5 h4
theorem Pi {w wr:World}(h:AC w wr){g:Nat}(hg:w.heap.size<=g)(i:Nat)(x:Value):AC w (wr.setCell ⟨g,i,none⟩ x):=
 h.grown (row:=some g) ⟨rfl,rfl,rfl,by simp,fun k _ hk=>KBM wr ⟨g,i,none⟩ k x (fun e=>hk (by simp[e]))⟩ (fun k hk=>by simp at hk;omega)
theorem mZ {w wr:World}(h:AC w wr)(a0 a1 a2 a3 a4 a5:Value):AC w (dG wr w.heap.size a0 a1 a2 a3 a4 a5):=
 Pi (Pi (Pi (Pi (Pi (Pi h (KAM _) 0 a0) (KAM _) 1 a1) (KAM _) 2 a2) (KAM _) 3 a3) (KAM _) 4 a4) (KAM _) 5 a5
theorem nA (w:World)(B:Nat)(a0 a1 a2 a3 a4 a5:Value):(dG w B a0 a1 a2 a3 a4 a5).heap.size=w.heap.size:=by simp
theorem NH (p:Int)(w:World):
  Calls Tryz.prog 121 #[YG p] w fun e w'=>e = .returned (evA 0 0 true p 0 0)/\AC w w':=by
 have hm:=at_rd p;have ha:=tH p;go_enter Tryz.func121,Tryz.ntmps121
 go_wp2_with fail
 refine (Y8 _ _).mono ?_;rintro e w1 ⟨rfl,k1⟩;have hb:=IL k1;have hh:=DM k1;have b0:=AO k1 0;have b1:=AO k1 1;have b2:=AO k1 2;have b3:=AO k1 3;have b4:=AO k1 4;have b5:=AO k1 5;have hfr:=fun j=>KA1 w1 w.heap.size j _ _ (DM k1)
 have S:=wT hh (.int .i64 0) (.int .i64 0) (.bool true) (.int .i64 p) (.int .i64 0) (.int .i64 0);have K:=mZ (((AC.refl w).alloc _).trans k1) (.int .i64 0) (.int .i64 0) (.bool true) (.int .i64 p) (.int .i64 0) (.int .i64 0);have Z:=nA w1 w.heap.size (.int .i64 0) (.int .i64 0) (.bool true) (.int .i64 p) (.int .i64 0) (.int .i64 0);go_wp2;refine bodyPost_ret (Aw (by rfl) _ _ w.heap.size _ _ _ _ rfl (by rw[Bs,KAQ (by rw[AD,Z];omega),Bs,KAQ (by rw[Z];omega)];exact S) Tryz.underlying85 rfl (by kernel_rfl)) rfl ?_;exact⟨rfl,(K.alloc _).alloc _⟩
theorem Jq (p v:Int)(w:World):
  Calls Tryz.prog 121 #[U5 p v] w fun e w'=>e = .returned (evA 0 0 false p v 0)/\AC w w':=by
 have hm:=at_wr p v;have ha:=tJ p v;have hc:=oM p v;go_enter Tryz.func121,Tryz.ntmps121
 go_wp2_with fail
 refine (Y9 _ _ _).mono ?_;rintro e w1 ⟨rfl,k1⟩;have hb:=IL k1;have hh:=DM k1;have b0:=AO k1 0;have b1:=AO k1 1;have b2:=AO k1 2;have b3:=AO k1 3;have b4:=AO k1 4;have b5:=AO k1 5;have hfr:=fun j=>KA1 w1 w.heap.size j _ _ (DM k1)
 have S:=wT hh (.int .i64 0) (.int .i64 0) (.bool false) (.int .i64 p) (.int .i64 v) (.int .i64 0);have K:=mZ (((AC.refl w).alloc _).trans k1) (.int .i64 0) (.int .i64 0) (.bool false) (.int .i64 p) (.int .i64 v) (.int .i64 0);have Z:=nA w1 w.heap.size (.int .i64 0) (.int .i64 0) (.bool false) (.int .i64 p) (.int .i64 v) (.int .i64 0);go_wp2;refine bodyPost_ret (Aw (by rfl) _ _ w.heap.size _ _ _ _ rfl (by rw[Bs,KAQ (by rw[AD,Z];omega),Bs,KAQ (by rw[Z];omega)];exact S) Tryz.underlying85 rfl (by kernel_rfl)) rfl ?_;exact⟨rfl,(K.alloc _).alloc _⟩
theorem IK (w:World):
  Calls Tryz.prog 117 #[] w fun e w'=>∃v',e = .returned v'/\GV w' w.heap.size v' Ci/\AC w w':=by
 obtain⟨j0,hj,hy0,hy1,hy2⟩:=info_parts Tryz.Z7;have A0:GV (w.alloc (.cells #[] 85)) w.heap.size (.slice (some ⟨w.heap.size,0,none⟩) 0 0) []:=Mw w;go_enter Tryz.func117,Tryz.ntmps117
 go_wp2;go_loopw [1,5] (fun v i wr=>∃k:Nat,∃m:Int,∃es:List Ev,k<=3/\i = .int .i64 m/\m=(k:Int)/\Hid (es=Ci.take k)/\es.length<=k/\LP w wr v es []) (fun _ i _=>3-(intOf i).toNat)
 case atStart=>exact⟨0,0,[],KAb _,rfl,rfl,AN rfl,KAM _,A0,(AC.refl _).alloc _,by simp⟩
 case round=>
  obtain⟨k,m,es,hk,rfl,hm,hE,hel,hL⟩:=hrel;clear A0;by_cases hlt:k<3
  ·
   subst hm
   have HM:Hid (es++[((-1:Int),(-1:Int),false,(k:Int),0,(k:Int))]=Ci.take (k+1)):=AN (by
    rw[hE.out];have:k=0\/k=1\/k=2:=by omega
    rcases this with rfl|rfl|rfl<;>rfl)
   clear hE;go_wp2_with fail
   refine (Jq _ _ _).mono ?_;rintro e w2 ⟨rfl,k2⟩;have L2:=hL.more k2;have hsz:=L2.keep.size;have L3:=(L2.more ((AC.refl w2).alloc (eO (-1) (-1) false k 0 k))).more ((AC.refl _).alloc (eO (-1) (-1) false k 0 k));go_wp2_with (at_builtin;refine KAf _ rfl _ _ 51 rfl w.heap.size 85 j0 (.agg #[.int .i64 0,.int .i64 0,.bool false,.int .i64 0,.int .i64 0,.int .i64 0]) 6 48 Tryz.underlying51 hj hy0 hy1 hy2 rfl (by decide) _ _ _ rfl L3.app ⟨_,0,none⟩ 1 1 (cE ((-1:Int),(-1:Int),false,(k:Int),0,(k:Int))) rfl rfl ?c1 ?c2 ?c3 ?c4 ?c5 ?_)
   case c1=>exact KR _ _ (AD _ _) _ _ _ _ _ _
   case c2=>exact KT _
   case c3=>unfold maxLen;omega
   case c4=>omega
   case c5=>simp;omega
   intro v' w1 hown' hgrow _ hblk;have L4:=L3.hit _ hown' hgrow (by rw[AD,AD];exact hblk);clear hgrow hown' hblk L3 L2 hL;go_wp2;go_roundw;case rel=>exact⟨k+1,_,_,by omega,rfl,by omega,HM,by simp;omega,L4⟩
   case measure=>simp[intOf];omega
  obtain rfl:m=3:=by omega
  have HB:Hid (es=Ci):=AN (by rw[hE.out,show k=3 by omega];rfl);clear hE hm;go_wp2;go_ret;exact⟨_,rfl,by rw[<-HB.out];exact hL.app,hL.keep⟩
theorem dH (x0 x1:Int)(x2:Bool)(x3 x4 x5:Int)(w:World):
  Calls Tryz.prog 116 #[.agg #[.int .i64 x0,.int .i64 x1,.bool x2,.int .i64 x3,.int .i64 x4,.int .i64 x5]] w fun e w'=>e = .returned (.bool (Af (x0,x1,x2,x3,x4,x5)))/\AC w w':=by
 go_enter Tryz.func116,Tryz.ntmps116
 go_wp2;go_ret;exact⟨rfl,(AC.refl w).alloc _⟩
theorem dI (w:World)(v:Value)(es:List Ev)(h:Yu w v es)(k:Nat)(A B:Nat)(hA:w.cell? ⟨A,0,none⟩=some v)(yK:A<w.heap.size)(hB:w.cell? ⟨B,0,none⟩=some (.func (Fn.func 116) #[] #[]))(hBl:B<w.heap.size):
  Calls Tryz.prog 156 #[.int .i64 k,.pointer (some ⟨A,0,none⟩),.pointer (some ⟨B,0,none⟩)] w fun e w'=>e = .returned (.bool (Re Af es k))/\AC w w':=by
 obtain⟨a,c,rfl,h⟩:=h;by_cases hlt:k<es.length
 ·
  rcases h with h|⟨b,o,rfl,hb,hc⟩
  . exfalso;rw[h] at hlt;simp at hlt
  have AT:=hc k _ (Mh hlt);have HE:Hid (Re Af es k=Af (es.getD k zE)):=AN (by unfold Re;simp[hlt]);clear hc;obtain⟨e,he⟩:∃e,e=es.getD k zE:=⟨_,rfl⟩;rw[<-he] at AT HE;clear he;obtain⟨x0,x1,x2,x3,x4,x5⟩:=e;obtain⟨d0,d1,d2,d3,d4,d5⟩:=qw AT;clear AT;have i1:(0:Int)<=(k:Int):=KAK _;have i2:(k:Int)<(es.length:Int):=by omega
  have z1:b<w.drew.heap.size:=hb;have z2:A<w.drew.heap.size:=yK;have z3:B<w.drew.heap.size:=hBl;go_enter Tryz.func156,Tryz.ntmps156
  go_wp2_with fail
  go_region_held3 (fun w'=>w'.cell? ⟨A,0,none⟩=some (.slice (some ⟨b,o,none⟩) es.length (es.length+c))/\w'.cell? ⟨B,0,none⟩=some (.func (Fn.func 116) #[] #[])/\w'.cell? ⟨b,o+k*6,none⟩=some (.int .i64 x0)/\w'.cell? ⟨b,o+k*6+1,none⟩=some (.int .i64 x1)/\w'.cell? ⟨b,o+k*6+2,none⟩=some (.bool x2)/\w'.cell? ⟨b,o+k*6+3,none⟩=some (.int .i64 x3)/\w'.cell? ⟨b,o+k*6+4,none⟩=some (.int .i64 x4)/\w'.cell? ⟨b,o+k*6+5,none⟩=some (.int .i64 x5))
   (first|go_keep|(go_split_ands;refine⟨?_,?_,?_,?_,?_,?_,?_,?_⟩<;>(rw[kk.cell (by assumption)];assumption)))
   ((go_at_call 116;refine (dH x0 x1 x2 x3 x4 x5 _).mono ?_;rintro e wz ⟨rfl,kk⟩))
  all_goals
   go_wp2;go_ret;exact⟨by rw[HE.out];rfl,((AC.refl w).drew).trans kk⟩
 ·
  have HE:Hid (Re Af es k=false):=AN (by unfold Re;simp[hlt]);have i2:¬((k:Int)<(es.length:Int)):=by omega
  go_enter Tryz.func156,Tryz.ntmps156
  go_wp2_with fail
  go_quiet (fail)
  go_wp2;go_ret;exact⟨by rw[HE.out];rfl,(AC.refl w).drewN _⟩
theorem TD (w:World)(v:Value)(es:List Ev)(h:Yu w v es)(hx:es.length<=12)(A B:Nat)(hA:w.cell? ⟨A,0,none⟩=some v)(yK:A<w.heap.size)(hB:w.cell? ⟨B,0,none⟩=some (.func (Fn.func 116) #[] #[]))(hBl:B<w.heap.size):
  Calls Tryz.prog 155 #[.func (Fn.func 156) #[] #[.pointer (some ⟨A,0,none⟩),.pointer (some ⟨B,0,none⟩)]] w fun e w'=>∃v',e = .returned v'/\A8 w' w.heap.size v' (Bh Af es es.length)/\AC w w':=by
 have hown0:A8 (w.alloc (.cells #[] 2)) w.heap.size (.slice (some ⟨w.heap.size,0,none⟩) 0 0) []:=KAo w #[] 0 (KAM _) (by decide) rfl;obtain⟨i0,hi,hz0,hz1,hz2⟩:=info_parts Tryz.FM;go_enter Tryz.func155,Tryz.ntmps155
 go_wp2;go_loopw [3,6] (fun v i wr=>∃k:Nat,k<=12/\i = .int .i64 k/\A8 wr w.heap.size v (VK Af es k)/\AC w wr) (fun _ i _=>12-(intOf i).toNat)
 case atStart=>exact⟨0,KAb _,rfl,hown0,(AC.refl _).alloc _⟩
 case round=>
  obtain⟨k,hk,rfl,ho,hK⟩:=hrel;clear hown0;by_cases hlt:k<12
  ·
   have hml:=iR Af es k;have hsz:=hK.size;have C:=dI wr v es (h.keep hK) k A B (by rw[hK.cell yK];exact hA) (KAC yK hK.size) (by rw[hK.cell hBl];exact hB) (KAC hBl hK.size);clear h hA hB;cases hb:Re Af es k
   ·
    have HM:Hid (VK Af es (k+1)=VK Af es k):=AN (by rw[VK,hb];rfl);rw[hb] at C;go_wp2_with fail
    refine C.mono ?_;rintro e w1 ⟨rfl,k1⟩;go_wp2;go_roundw;case rel=>exact⟨k+1,by omega,by go_num,by rw[HM.out];exact ho.keep k1,hK.trans k1⟩
    case measure=>simp[intOf];omega
   ·
    have HM:Hid (VK Af es (k+1)=VK Af es k++[(k:Int)]):=AN (by rw[VK,hb];rfl);rw[hb] at C;go_wp2_with fail
    refine C.mono ?_;rintro e w1 ⟨rfl,k1⟩;have ho1:=ho.keep k1;have hK1:=hK.trans k1;have hsz1:=hK1.size;clear ho hK C;go_wp2_with (at_builtin;refine wpList_append_own _ rfl _ _ 25 rfl w.heap.size 2 i0 (.int .i64 0) 1 8 Tryz.underlying25 hi hz0 hz1 hz2 rfl (by decide) _ _ _ rfl (KCH ho1 _) ⟨_,0,none⟩ 1 1 [.int .i64 k] rfl rfl ?c1 ?c2 ?c3 ?c4 ?c5 ?_)
    case c1=>
     intro j u hj
     match j,hj with
     | 0,hj=>simp at hj;subst hj;simp[Addr.add]
    case c2=>intro u hu;simp at hu;subst hu;rfl
    case c3=>unfold maxLen;omega
    case c4=>omega
    case c5=>simp;omega
    intro v' w2 hown' hgrow _;have hK2:AC w w2:=(hK1.alloc _).grown hgrow ho1.ge;clear hgrow;go_wp2;go_roundw;case rel=>exact⟨k+1,by omega,by go_num,by rw[HM.out];exact B8 hown',hK2⟩
    case measure=>simp[intOf];omega
  ·
   obtain rfl:k=12:=by omega
   rw[iQ Af es 12 hx] at ho;go_wp2;go_ret;exact⟨_,rfl,ho,hK⟩
theorem Q9 (w:World)(v:Value)(es:List Ev)(h:Yu w v es)(hx:es.length<=1048576):
  Calls Tryz.prog 115 #[v,(.func (Fn.func 116) #[] #[])] w fun e w'=>∃v',e = .returned v'/\A8 w' w.heap.size v' (AW Af es)/\AC w w':=by
 by_cases hl:12<es.length
 ·
  have HE:Hid (AW Af es=[]):=AN (by unfold AW;rw[KAQ (by omega)]);have l1:(12:Int)<(es.length:Int):=by omega
  have O:∀o1 o2:Obj,A8 (((w.alloc o1).alloc o2).alloc (.cells #[] 2)) w.heap.size (.slice (some ⟨w.heap.size+1+1,0,none⟩) 0 0) []:=fun o1 o2=>by
   have q:A8 (((w.alloc o1).alloc o2).alloc (.cells #[] 2)) ((w.alloc o1).alloc o2).heap.size (.slice (some ⟨((w.alloc o1).alloc o2).heap.size,0,none⟩) 0 0) []:=KAo _ #[] 0 (KAM _) (by decide) rfl;have z:((w.alloc o1).alloc o2).heap.size=w.heap.size+1+1:=by rw[AD,AD]
   rw[z] at q;exact q.BK (by omega)
  obtain⟨a,c,rfl,h⟩:=h;go_enter Tryz.func115,Tryz.ntmps115
  go_wp2;go_ret;refine⟨_,rfl,?_,(((AC.refl w).alloc _).alloc _).alloc _⟩;rw[HE.out];exact O _ _
 ·
  have l1:es.length<=12:=by omega
  have HE:Hid (AW Af es=Bh Af es es.length):=AN (by unfold AW;rw[KAP l1]);clear hl;have C:=fun (o1 o2:Obj)=>TD ((w.alloc o1).alloc o2) v es (h.keep (((AC.refl w).alloc _).alloc _)) l1 w.heap.size (w.heap.size+1)
  obtain⟨a,c,rfl,h⟩:=h;have l2:(es.length:Int)<=12:=by omega
  go_enter Tryz.func115,Tryz.ntmps115
  go_wp2_with fail
  refine (C _ _ ?g1 ?g2 ?g3 ?g4).mono ?_;case g1=>simp
  case g2=>simp only[AD];omega
  case g3=>simp
  case g4=>simp only[AD];omega
  rintro e w1 ⟨v1,rfl,ho,hK⟩;go_wp2;go_ret;refine⟨_,rfl,?_,(((AC.refl w).alloc _).alloc _).trans hK⟩;rw[HE.out];exact ho.BK (by simp only[AD];omega)
theorem Dq (w:World)(v:Value)(es:List Ev)(h:Yu w v es)(hx:es.length<=1048576):
  Calls Tryz.prog 89 #[v] w fun e w'=>∃v',e = .returned v'/\A8 w' w.heap.size v' (AW Af es)/\AC w w':=by
 go_enter Tryz.func89,Tryz.ntmps89
 go_wp2_with fail
 refine (Q9 _ _ _ h hx).mono ?_;rintro e w1 ⟨v1,rfl,ho,hK⟩;go_wp2;go_ret;exact⟨_,rfl,ho,hK⟩
abbrev hdV (t:Nat):Value:= .pointer (some ⟨4,t,none⟩)
theorem Wd (t:Value)(w:World):
  Calls Tryz.prog 30 #[.nilIface,t] w fun e w'=>e = .returned (.bool false)/\AC w w':=by
 go_enter Tryz.func30,Tryz.ntmps30
 go_wp2;go_ret;exact⟨rfl,AC.refl _⟩
theorem Wh (t:Addr)(w:World):(ReflectliteValue.unpack (.iface 62 (.pointer (some t)))).run Tryz.prog w
  = .ok (.agg #[hdV 62,.pointer (some ⟨w.heap.size,0,none⟩),.int .u64 150]) (w.alloc (.cells #[.pointer (some t)] 62)):=by kernel_rfl
theorem as_typeP (a : Addr) (w : World) : (ReflectliteValue.methodAny (ReflectliteValue.valueError "reflectlite.Value.Type" 0) (fun t _ _ _ => ReflectliteType.toType t) #[.agg #[hdV 62, .pointer (some a), .int .u64 150]]).run Tryz.prog w
  = .ok (.iface 138 (.agg #[hdV 62])) w:=by kernel_rfl
theorem as_methodK (h : Value) (w : World) : (Go.method 367 138 (.agg #[h]) "Kind").run Tryz.prog w = .ok (191, h) w := by kernel_rfl
theorem Y5 (w:World):((ReflectliteType.abiMethod fun t=>(fun a:Nat=>Value.int IntKind.u8 (a:Int)) <$> Rtype.kind t) #[hdV 62]).run Tryz.prog w = .ok (.int .u8 22) w:=by kernel_rfl
theorem Y6 (w:World):((ReflectliteType.abiMethod fun t=>(fun a:Nat=>Value.int IntKind.u8 (a:Int)) <$> Rtype.kind t) #[hdV 59]).run Tryz.prog w = .ok (.int .u8 25) w:=by kernel_rfl
theorem wP (z:Sem Value)(f:TypeId->Addr->Nat->Nat->Sem Value)(v:Value):
  ReflectliteValue.method z f #[v]=(do match <-ReflectliteValue.parts v with|none=>z|some (t,a,fl)=>f t a fl (fl % 32)):=rfl
theorem PL (a:Addr)(w:World):(ReflectliteValue.parts (.agg #[hdV 62,.pointer (some a),.int .u64 150])).run Tryz.prog w = .ok (some (62,a,150)) w:=by kernel_rfl
theorem Y4 (a p:Addr)(W:World)(ha:W.cell? a=some (.pointer (some p))):
  (ReflectliteValue.method (ReflectliteValue.valueError "reflectlite.Value.IsNil" 0) ReflectliteValue.isNil #[.agg #[hdV 62, .pointer (some a), .int .u64 150]]).run Tryz.prog W = .ok (.bool false) W := by
 rw[wP];simp only[Sem.run_bind,PL,Result.andThen];simp[ReflectliteValue.isNil,loadVar,isAgg,underlying,Tryz.underlying62,ha,Result.andThen]
theorem as_methodE (h : Value) (w : World) : (Go.method 367 138 (.agg #[h]) "Elem").run Tryz.prog w = .ok (202, .agg #[h]) w := by kernel_rfl
theorem as_methodI (h : Value) (w : World) : (Go.method 367 138 (.agg #[h]) "Implements").run Tryz.prog w = .ok (203, .agg #[h]) w := by kernel_rfl
theorem as_methodA (h : Value) (w : World) : (Go.method 367 138 (.agg #[h]) "AssignableTo").run Tryz.prog w = .ok (200, .agg #[h]) w := by kernel_rfl
theorem Y2 (w:World):(ReflectliteType.method ReflectliteType.elem #[.agg #[hdV 62]]).run Tryz.prog w = .ok (.iface 138 (.agg #[hdV 59])) w:=by kernel_rfl
theorem as_implR (w : World) : (ReflectliteType.relation "Implements" ReflectliteType.implements_ #[.agg #[hdV 59], .iface 138 (.agg #[hdV 57])]).run Tryz.prog w = .ok (.bool true) w := by kernel_rfl
theorem Tu (v:Value)(w:World):(ReflectliteType.typeOf #[.iface 59 v]).run Tryz.prog w = .ok (.iface 138 (.agg #[hdV 59])) w:=by kernel_rfl
theorem as_assignR (w : World) : (ReflectliteType.relation "AssignableTo" ReflectliteType.assignableTo #[.agg #[hdV 59], .iface 138 (.agg #[hdV 59])]).run Tryz.prog w = .ok (.bool true) w := by kernel_rfl
theorem Wj (s:ByteArray)(u:TypeId)(y:Value)(w:World):(ReflectliteValue.unpack (.iface 59 (.agg #[.string s,.iface u y]))).run Tryz.prog w
  = .ok (.agg #[hdV 59,.pointer (some ⟨w.heap.size,0,none⟩),.int .u64 153]) (w.alloc (.cells #[.string s,.iface u y] 59)):=by kernel_rfl
theorem Tt (w:World):(Rtype.elem? 62).run Tryz.prog w = .ok (some 59) w:=by kernel_rfl
theorem oJ (p:Addr)(w:World):(ReflectliteValue.mk 59 p ReflectliteValue.flagAddr).run Tryz.prog w = .ok (.agg #[hdV 59,.pointer (some p),.int .u64 409]) w:=by kernel_rfl
theorem Y3 (a p:Addr)(W:World)(ha:W.cell? a=some (.pointer (some p))):
  (ReflectliteValue.method (ReflectliteValue.valueError "reflectlite.Value.Elem" 0) ReflectliteValue.elem #[.agg #[hdV 62, .pointer (some a), .int .u64 150]]).run Tryz.prog W
   = .ok (.agg #[hdV 59,.pointer (some p),.int .u64 409]) W:=by
 rw[wP];simp only[Sem.run_bind,PL,Result.andThen];simp[ReflectliteValue.elem,loadVar,isAgg,underlying,Tryz.underlying62,ha,Result.andThen,Tt,oJ]
theorem rlsE (v x:Value):ReflectliteValue.set #[v,x]=(do
  let (some (dst,a,fl),some (src,b,_)):=(<-ReflectliteValue.parts v,<-ReflectliteValue.parts x)
   | unsupported (.noEntry "extern/(internal/reflectlite.Value).Set.zeroValue")
  if fl / ReflectliteValue.flagAddr % 2 == 0 then unsupported (.noEntry "extern/(internal/reflectlite.Value).Set.unaddressable")
  let val <-loadVar src b
  if <-Rtype.directlyAssignable dst src then storeVar dst a val
  else if <-Rtype.implements dst src then
   if (<-Rtype.kind src)==20 then
    match val with
    | .nilIface => unsupported (.noEntry "extern/reflectlite: a nil value of one interface type handed on as a value of another")
    |_=>storeVar dst a val
   else storeVar dst a (.iface src val)
  else panicString ("reflectlite.Set: value of type " ++ (← Rtype.spelt src) ++ " is not assignable to type " ++ (← Rtype.spelt dst))
  pure (.tuple #[])):=rfl
theorem Wf (a:Addr)(w:World):(ReflectliteValue.parts (.agg #[hdV 59,.pointer (some a),.int .u64 409])).run Tryz.prog w = .ok (some (59,a,409)) w:=by kernel_rfl
theorem Wg (a:Addr)(w:World):(ReflectliteValue.parts (.agg #[hdV 59,.pointer (some a),.int .u64 153])).run Tryz.prog w = .ok (some (59,a,153)) w:=by kernel_rfl
theorem We (w:World):(Rtype.directlyAssignable 59 59).run Tryz.prog w = .ok true w:=by kernel_rfl
theorem U9:(Tryz.prog.info? 59).map (·.size)=some 2:=by kernel_rfl
theorem oK (T b:Nat)(s:ByteArray)(u tT:TypeId)(y:Value)(old:Array Value)(W:World)(hb:W.heap[b]? = some (.cells #[.string s,.iface u y] 59 (0,0)))(ht:W.heap[T]? = some (.cells old tT (0,0)))(ho:old.size=2):
  (ReflectliteValue.set #[.agg #[hdV 59,.pointer (some ⟨T,0,none⟩),.int .u64 409],.agg #[hdV 59,.pointer (some ⟨b,0,none⟩),.int .u64 153]]).run Tryz.prog W
   = .ok (.tuple #[]) (W.setRow T #[.string s,.iface u y]):=by
 have h1:=run_loadVar_row (P:=Tryz.prog) W b _ 59 _ _ _ hb Tryz.underlying59 rfl U9;have h2:=run_storeVar_row (P:=Tryz.prog) W T tT 59 old #[.string s,.iface u y] ht U9 ho (by simp[Value.oneCell']);rw[rlsE];simp only[Sem.run_bind,Wf,Wg,Result.andThen];simp[ReflectliteValue.flagAddr,h1,h2,Result.andThen,We]
theorem Ki (w:World)(o:Obj){k:Nat}(h:k<w.heap.size):(w.alloc o).heap[k]? = w.heap[k]?:=Below.heap_alloc _ _ _ h
theorem Wc (s:ByteArray)(u:TypeId)(y:Value)(T:Nat)(tT:TypeId)(old:Array Value)(w:World)(hg:w.cell? ⟨1,0,none⟩=some (.iface 138 (.agg #[hdV 57])))
  (ht:w.heap[T]? = some (.cells old tT (0,0))) (ho:old.size=2):
  Calls Tryz.prog 30 #[.iface 59 (.agg #[.string s,.iface u y]),.iface 62 (.pointer (some ⟨T,0,none⟩))] w fun e w'=>e = .returned (.bool true)/\Below T w w':=by
 have hT:T<w.heap.size:=by
  rcases KCQ T w.heap.size with h|h
  . exact h
  . rw[KC3 h] at ht;cases ht
 have hG:1<w.heap.size:=KCg w ⟨1,0,none⟩ hg;have h6:=@KB8 Tryz.prog 51 _ (fun args=>ReflectliteValue.unpack (args.getD 0 (.tuple #[]))) Tryz.func51 (by kernel_rfl) (by kernel_rfl) (by kernel_rfl) (by kernel_rfl)
 have h7 := @run_callFunc_extern Tryz.prog 52 _ (ReflectliteValue.methodAny (ReflectliteValue.valueError "reflectlite.Value.Type" 0) (fun t _ _ _ => ReflectliteType.toType t)) Tryz.func52 (by kernel_rfl) (by kernel_rfl) (by kernel_rfl) (by kernel_rfl)
 have h8 := @run_callFunc_extern Tryz.prog 53 _ (ReflectliteValue.method (ReflectliteValue.valueError "reflectlite.Value.IsNil" 0) ReflectliteValue.isNil) Tryz.func53 (by kernel_rfl) (by kernel_rfl) (by kernel_rfl) (by kernel_rfl)
 have h27:=@KB8 Tryz.prog 191 _ (ReflectliteType.abiMethod fun t=>do pure (.int .u8 (<-Rtype.kind t))) Tryz.func191 (by kernel_rfl) (by kernel_rfl) (by kernel_rfl) (by kernel_rfl);have h37:=@KB8 Tryz.prog 202 _ (ReflectliteType.method ReflectliteType.elem) Tryz.func202 (by kernel_rfl) (by kernel_rfl) (by kernel_rfl) (by kernel_rfl)
 have h38 := @run_callFunc_extern Tryz.prog 203 _ (ReflectliteType.relation "Implements" ReflectliteType.implements_) Tryz.func203 (by kernel_rfl) (by kernel_rfl) (by kernel_rfl) (by kernel_rfl)
 have h10:=@KB8 Tryz.prog 65 _ ReflectliteType.typeOf Tryz.func65 (by kernel_rfl) (by kernel_rfl) (by kernel_rfl) (by kernel_rfl)
 have h35 := @run_callFunc_extern Tryz.prog 200 _ (ReflectliteType.relation "AssignableTo" ReflectliteType.assignableTo) Tryz.func200 (by kernel_rfl) (by kernel_rfl) (by kernel_rfl) (by kernel_rfl)
 have h11 := @run_callFunc_extern Tryz.prog 87 _ (ReflectliteValue.method (ReflectliteValue.valueError "reflectlite.Value.Elem" 0) ReflectliteValue.elem) Tryz.func87 (by kernel_rfl) (by kernel_rfl) (by kernel_rfl) (by kernel_rfl)
 have h12:=@KB8 Tryz.prog 88 _ ReflectliteValue.set Tryz.func88 (by kernel_rfl) (by kernel_rfl) (by kernel_rfl) (by kernel_rfl);have tO:=Tu;have mA:=as_methodA;have a25:=as_assignR;have v25:=Wj s u y;have f6:=Wh;have f7:=as_typeP;have mK:=as_methodK;have mE:=as_methodE;have mI:=as_methodI;have k27:=Y5;have k25:=Y6;have e27:=Y2;have i25:=as_implR;have n8:=Y4 ⟨w.heap.size,0,none⟩ ⟨T,0,none⟩ ((w.alloc (.cells #[.pointer (some ⟨T,0,none⟩)] 62)).alloc (.cells #[hdV 62,.pointer (some ⟨w.heap.size,0,none⟩),.int .u64 150] 90)) (by simp)
 have hg2:((w.alloc (.cells #[.pointer (some ⟨T,0,none⟩)] 62)).alloc (.cells #[hdV 62,.pointer (some ⟨w.heap.size,0,none⟩),.int .u64 150] 90)).cell? ⟨1,0,none⟩=some (.iface 138 (.agg #[hdV 57])):=by
  rw[KDI _ _ ⟨1,0,none⟩ (by simp;omega),KDI _ _ ⟨1,0,none⟩ hG];exact hg
 have el:=Y3 ⟨w.heap.size,0,none⟩ ⟨T,0,none⟩ (((w.alloc (.cells #[.pointer (some ⟨T,0,none⟩)] 62)).alloc (.cells #[hdV 62,.pointer (some ⟨w.heap.size,0,none⟩),.int .u64 150] 90)).alloc (.cells #[hdV 62,.pointer (some ⟨w.heap.size,0,none⟩),.int .u64 150] 90)) (by rw[KDI _ _ ⟨w.heap.size,0,none⟩ (by simp;omega)];simp)
 have st:=oK T (w.heap.size+1+1+1) s u tT y old ((((w.alloc (.cells #[.pointer (some ⟨T,0,none⟩)] 62)).alloc (.cells #[hdV 62,.pointer (some ⟨w.heap.size,0,none⟩),.int .u64 150] 90)).alloc (.cells #[hdV 62,.pointer (some ⟨w.heap.size,0,none⟩),.int .u64 150] 90)).alloc (.cells #[.string s,.iface u y] 59))
  (by rw[show w.heap.size+1+1+1=(((w.alloc (.cells #[.pointer (some ⟨T,0,none⟩)] 62)).alloc (.cells #[hdV 62,.pointer (some ⟨w.heap.size,0,none⟩),.int .u64 150] 90)).alloc (.cells #[hdV 62,.pointer (some ⟨w.heap.size,0,none⟩),.int .u64 150] 90)).heap.size by simp];exact KAX _ _)
  (by rw[Ki _ _ (by simp;omega),Ki _ _ (by simp;omega),Ki _ _ (by simp;omega),Ki _ _ hT];exact ht) ho
 have B4:Below T w (((((w.alloc (.cells #[.pointer (some ⟨T,0,none⟩)] 62)).alloc (.cells #[hdV 62,.pointer (some ⟨w.heap.size,0,none⟩),.int .u64 150] 90)).alloc (.cells #[hdV 62,.pointer (some ⟨w.heap.size,0,none⟩),.int .u64 150] 90)).alloc (.cells #[.string s,.iface u y] 59)).setRow T #[.string s,.iface u y]):=
  below_setRow (((((Below.refl T w).alloc (by omega) _).alloc (by simp;omega) _).alloc (by simp;omega) _).alloc (by simp;omega) _) (KAM T) _
 have HB:=AN B4;clear hg ht ho B4;go_enter Tryz.func30,Tryz.ntmps30
 go_wp2;refine KCh 1 ?_;rw[KCC];go_wp2;go_ret;exact⟨rfl,HB.out⟩
theorem Tz (x y:Int)(w:World):Calls Tryz.prog 111 #[.int .i64 x,.int .i64 y] w fun e w'=>e = .returned (.int .i64 (Ol x y))/\w'=w:=by
 rcases M7 x y with ⟨h,e⟩|⟨h,e⟩|⟨h,e⟩
 ·
  rw[e];clear e;go_enter Tryz.func111,Tryz.ntmps111
  go_wp2;go_ret;exact⟨rfl,rfl⟩
 ·
  rw[e];have h2:¬x<y:=by omega
  clear e;go_enter Tryz.func111,Tryz.ntmps111
  go_wp2;go_ret;exact⟨rfl,rfl⟩
 ·
  rw[e];subst h;clear e;have h2:¬x<x:=by omega
  go_enter Tryz.func111,Tryz.ntmps111
  go_wp2;go_ret;exact⟨rfl,rfl⟩
theorem ZT (w:World)(v1 v2:Value)(xs ys:List Int)(h1:Rd w v1 xs)(h2:Rd w v2 ys)(l1:xs.length<=1048576)(_:ys.length<=1048576):Calls Tryz.prog 82 #[v1,v2] w fun e w'=>e = .returned (.int .i64 (Gd xs ys))/\w'=w:=by
 obtain⟨a1,c1,rfl,h1⟩:=h1;obtain⟨a2,c2,rfl,h2⟩:=h2;have X1:=AN h1;have X2:=AN h2;clear h1 h2;go_enter Tryz.func82,Tryz.ntmps82
 go_wp2;go_loop [5,6,7,8,11] (fun _ _ _ _ i=>∃k:Nat,k<=xs.length/\k<=ys.length/\i = .int .i64 k/\Gd xs ys=Gd (xs.drop k) (ys.drop k)) (fun _ _ _ _ i=>xs.length-(intOf i).toNat)
 case atStart=>exact⟨0,KAb _,KAb _,rfl,rfl⟩
 case round=>
  obtain⟨k,k1,k2,rfl,he⟩:=hrel;have XE:=AN he;clear he;have i1:(0:Int)<=(k:Int):=KAK _;by_cases hlt:k<xs.length
  ·
   rcases X1.out with q|⟨b1,o1,rfl,hb1,d1⟩
   . exfalso;rw[q] at hlt;simp at hlt
   have e1:=d1 k hlt;clear d1;have i2:(k:Int)<(xs.length:Int):=by omega
   by_cases hlt2:k<ys.length
   ·
    rcases X2.out with q|⟨b2,o2,rfl,hb2,d2⟩
    . exfalso;rw[q] at hlt2;simp at hlt2
    have e2:=d2 k hlt2;clear d2;have i3:(k:Int)<(ys.length:Int):=by omega
    have XS:=AN (Wu hlt hlt2);generalize xs.getD k 0=x at e1 XS;generalize ys.getD k 0=y at e2 XS;have C:=Tz x y w;generalize Ol x y=z at C XS;by_cases hz:z=0
    ·
     subst hz;have XN:Hid (Gd xs ys=Gd (xs.drop (k+1)) (ys.drop (k+1))):=AN (by rw[XE.out,XS.out,KAP rfl]);go_wp2_with fail
     refine C.mono ?_;rintro e w' ⟨rfl,rfl⟩;clear C;go_wp2;go_round
     case rel=>exact⟨k+1,by omega,by omega,by go_num,XN.out⟩
     case measure=>simp[intOf];omega
    ·
     have XN:Hid (Gd xs ys=z):=AN (by rw[XE.out,XS.out,KAQ hz]);go_wp2_with fail
     refine C.mono ?_;rintro e w' ⟨rfl,rfl⟩;clear C;go_wp2;go_ret;exact⟨by rw[XN.out];rfl,rfl⟩
   ·
    have XN:Hid (Gd xs ys=1):=AN (by rw[XE.out,Wt hlt (by omega)]);have i3:(ys.length:Int)<=(k:Int):=by omega
    go_wp2;go_ret;exact⟨by rw[XN.out];rfl,rfl⟩
  ·
   have XN:Hid (Gd xs ys=if xs.length<ys.length then -1 else 0):=AN (by rw[XE.out,ZS (by omega) k2 k1]);have i2:(xs.length:Int)<=(k:Int):=by omega
   by_cases hl:xs.length<ys.length
   ·
    rw[KAP hl] at XN;have i3:(xs.length:Int)<(ys.length:Int):=by omega
    go_wp2;go_ret;exact⟨by rw[XN.out];rfl,rfl⟩
   ·
    rw[KAQ hl] at XN;have i3:¬(xs.length:Int)<(ys.length:Int):=by omega
    go_wp2;go_ret;exact⟨by rw[XN.out];rfl,rfl⟩
end Go.Proofs.YtflehmepjhikcaaGreatDoor
