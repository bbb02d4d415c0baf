/- Gathered texts. -/
import Derived.Test.YtflehmepjhikcaaDoorMA
import Derived.BigQuiet
import Derived.Deep.Cut
import Derived.Lib.Hide
import Derived.Lib.Split
import Derived.WalkKit
import Derived.LaidEql
import Derived.Stop.Asserts
import Derived.RowKitTokens
set_option maxRecDepth 100000
set_option maxHeartbeats 8000000
namespace Go.Proofs.YtflehmepjhikcaaDoor
open Go.ChangeShapes Go.WideShapes Go.ChangeAt Go.RowKit
open Go.RowKit Go.Extern.Stop Go.Stop Go.Extern
theorem idx_str (l:List UInt8)(k:Nat)(i:Int)(hi:i=k)(hk:k<l.length)(W:World):(Instr.index 9 (strV l) (.int .i64 i)).run Tryd.prog W = .ok (.int .u8 ((l.getD k 0).toNat:Int)) W:=by
 subst hi;have hs:(⟨l.toArray⟩:ByteArray).size=l.length:=by simp[ByteArray.size]
 rw[run_index_string W 9 _ .i64 k Tryd.underlying9,dif_pos (by rw[hs];omega)]
 have:(⟨l.toArray⟩:ByteArray)[((k:Int)).toNat]'(by rw[hs];omega)=l.getD k 0:=by
  rw[List.getD_eq_getElem?_getD,List.getElem?_eq_getElem hk];rfl
 rw[this]
theorem byte_ix (l:List UInt8)(c:UInt8)(w:World):
  Calls Tryd.prog 72 #[strV l,.int .u8 (c.toNat:Int)] w fun e w'=>e = .returned (.int .i64 (Lib.indexByte l c))∧w'=w:=by
 refine (Tryd.strings_IndexByte ⟨l.toArray⟩ (c.toNat:Int) w).mono ?_;rintro e w' ⟨rfl,rfl⟩;refine⟨?_,rfl⟩;simp
theorem digitNamed_any (c:UInt8)(w:World):
  Calls Tryd.prog 55 #[.int .u8 (c.toNat:Int)] w fun e w'=>e = .returned (.int .i64 (dgN c))∧w'=w:=by
 have C:=byte_ix [48,49,50,51,52,53,54,55,56,57] c w;have H:Hid (dgN c=Lib.indexByte [48,49,50,51,52,53,54,55,56,57] c):=Lib.hid rfl;generalize Lib.indexByte [48,49,50,51,52,53,54,55,56,57] c=d at C H;go_enter Tryd.func55,Tryd.ntmps55
 go_wp2_with fail
 refine C.mono ?_;rintro e w' ⟨rfl,rfl⟩;go_wp2;go_ret;exact⟨by rw[H.out];rfl,rfl⟩
theorem askedNamed_any (c:UInt8)(w:World):
  Calls Tryd.prog 54 #[.int .u8 (c.toNat:Int)] w fun e w'=>e = .returned (.int .i64 (akN c))∧w'=w:=by
 have C:=byte_ix [120,121,122] c w;have CD:=digitNamed_any c w;have H:Hid (akN c=if 0≤Lib.indexByte [120,121,122] c then 100+Lib.indexByte [120,121,122] c else dgN c):=Lib.hid rfl
 have hr:Lib.indexByte [120,121,122] c≤2:=by
  simp only[Lib.indexByte]
  repeat' split
  all_goals first|omega|simp_all
 generalize Lib.indexByte [120,121,122] c=d at C H hr;go_enter Tryd.func54,Tryd.ntmps54
 go_wp2_with fail
 refine C.mono ?_;rintro e w' ⟨rfl,rfl⟩;by_cases h0:0≤d
 ·
  have hw:IntKind.i64.wrap (100+d)=100+d:=by rw[IntKind.wrap_i64];omega
  have HN:Hid (akN c=100+d):=Lib.hid (by rw[H.out,if_pos h0]);clear H;go_wp2;go_ret;exact⟨by rw[HN.out];rfl,rfl⟩
 ·
  have HN:Hid (akN c=dgN c):=Lib.hid (by rw[H.out,if_neg h0]);clear H;go_wp2_with fail
  refine CD.mono ?_;rintro e w' ⟨rfl,rfl⟩;go_wp2;go_ret;exact⟨by rw[HN.out];rfl,rfl⟩
theorem splN_same (s b:List UInt8)(n:Nat):(Lib.splitB ⟨b.toArray⟩ 0 (min n ((⟨s.toArray⟩:ByteArray).size+1)-1) ⟨s.toArray⟩).map (fun x:ByteArray=>x.data.toList)=Lib.splitN s b n:=by
 rw[Lib.splitB_data];rfl
def AtSp (w:World)(g:Nat)(ts:List (List UInt8)):Prop:=∀i,i<ts.length→w.cell? ⟨g,i,none⟩=some (strV (ts.getD i []))
theorem spl_any (s b:List UInt8)(n:Nat)(w:World)(hl:s.length≤1048576)(hb:1≤b.length)(hn:1≤n)(hn6:n≤100)(hm:∃m,w.cell? ⟨4,0,none⟩=some (.int .i64 m)):
  Calls Tryd.prog 53 #[strV s,strV b,.int .i64 n] w fun e w'=>∃c,e = .returned (.slice (some ⟨w.heap.size,0,none⟩) (Lib.splitN s b n).length c)∧AtSp w' w.heap.size (Lib.splitN s b n)∧w.heap.size<w'.heap.size∧Keep w w':=by
 obtain⟨m,hm⟩:=hm;have hsz:(⟨s.toArray⟩:ByteArray).size=s.length:=by simp[ByteArray.size]
 have hbz:(⟨b.toArray⟩:ByteArray).size=b.length:=by simp[ByteArray.size]
 have hs:=splN_same s b n;refine (Tryd.strings_SplitN ⟨s.toArray⟩ ⟨b.toArray⟩ n m w (by omega) hm (by omega) hn (by omega)).mono ?_;rintro e w' ⟨rfl,rfl⟩;generalize Lib.splitB ⟨b.toArray⟩ 0 (min n ((⟨s.toArray⟩:ByteArray).size+1)-1) ⟨s.toArray⟩=xs at hs;rw[←hs];refine⟨_,by rw[List.length_map],fun i hi=>?_,by rw[heap_size];omega,(Keep.refl w).alloc _⟩;rw[List.length_map] at hi;rw[cell_of_row _ w.heap.size i _ _ (0,0) (heap_alloc_new w _)];unfold Lib.cellsOf;rw[List.getElem?_toArray,List.getElem?_append_left (by simpa using hi),List.getElem?_map,List.getElem?_eq_getElem hi,List.getD_eq_getElem?_getD,List.getElem?_map,List.getElem?_eq_getElem hi];rfl
theorem is_typeOf (v:Value)(w:World):(Extern.ReflectliteType.typeOf #[.iface 173 v]).run Tryd.prog w = .ok (.iface 117 (.agg #[.pointer (some ⟨7,173,none⟩)])) w:=by kernel_rfl
def cmpF (t:TypeId):Sem Value:=do
 Extern.Rtype.noPackHeld "Comparable" t
 pure (.bool (←typeInfo t).comparable)
theorem is_comparable (w:World):((Extern.ReflectliteType.method cmpF) #[.agg #[.pointer (some ⟨7,173,none⟩)]]).run Tryd.prog w = .ok (.bool true) w:=by kernel_rfl
theorem is_methodC (v : Value) (w : World) : (Go.method 306 117 v "Comparable").run Tryd.prog w = .ok (141, v) w := by kernel_rfl
theorem is_comp:(Tryd.prog.info? 173).map (·.comparable)=some true:=by kernel_rfl
theorem is_size:(Tryd.prog.info? 194).map (·.size)=some 1:=by kernel_rfl
theorem is_lacks (v:Value)(xT:TypeId)(w:World):(Instr.typeAssert (.iface 78 v) xT 119 true).run Tryd.prog w = .ok (.tuple #[.nilIface,.bool false]) w:=run_typeAssert_lacksB Tryd.underlying119 (by kernel_rfl) (by kernel_rfl) v xT w
theorem is_hasU (v:Value)(xT:TypeId)(w:World):(Instr.typeAssert (.iface 78 v) xT 122 true).run Tryd.prog w = .ok (.tuple #[.iface 78 v,.bool true]) w:=run_typeAssert_hasB Tryd.underlying122 (by kernel_rfl) v xT w
theorem is_methodU (v : Value) (w : World) : (Go.method 306 78 v "Unwrap").run Tryd.prog w = .ok (134, v) w := by kernel_rfl
theorem isNil_any (b:Addr)(w:World):
  Calls Tryd.prog 33 #[.nilIface,erV b] w fun e w'=>e = .returned (.bool false)∧Keep w w':=by
 have hn:=run_eql_iface_nil_left (P:=Tryd.prog) w 173 (.pointer (some b)) Tryd.underlying55;go_enter Tryd.func33,Tryd.ntmps33
 go_wp2;go_ret;exact⟨rfl,Keep.refl _⟩
theorem isWrap_any (s:ByteArray)(b:Addr)(w:World):
  Calls Tryd.prog 33 #[rfV s (erV b),erV b] w fun e w'=>e = .returned (.bool true)∧Keep w w':=by
 obtain⟨i,hi,hcmp⟩:=Option.map_eq_some_iff.1 is_comp;obtain⟨j,hj,hjs⟩:=Option.map_eq_some_iff.1 is_size;have h8:=@run_callFunc_extern Tryd.prog 57 _ Extern.ReflectliteType.typeOf Tryd.func57 (by kernel_rfl) (by kernel_rfl) (by kernel_rfl) (by kernel_rfl);have h32:=@run_callFunc_extern Tryd.prog 141 _ (Extern.ReflectliteType.method cmpF) Tryd.func141 (by kernel_rfl) (by kernel_rfl) (by kernel_rfl) (by kernel_rfl);have tT:=is_typeOf;have cT:=is_comparable;have mR:=is_methodC;have nW:=is_lacks;have uW:=is_hasU;have mU:=is_methodU;have heq:=fun W=>run_eql_iface_ptr_same (P:=Tryd.prog) W b Tryd.underlying55 Tryd.underlying173 hi hcmp hj
 have hty:=fun v W=>run_eql_iface_types (P:=Tryd.prog) 78 173 v (.pointer (some b)) Tryd.underlying55 (by decide) W
 go_enter Tryd.func33,Tryd.ntmps33
 go_wp2;refine wp_loop_rounds 2 ?_;rw[rounds_succ];go_wp2;rw[rounds_succ];go_wp2;go_ret;exact⟨rfl,(Keep.refl w).alloc _⟩
end Go.Proofs.YtflehmepjhikcaaDoor
