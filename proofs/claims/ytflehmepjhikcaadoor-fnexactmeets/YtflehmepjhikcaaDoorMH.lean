/- Gathered texts. -/
import Derived.Test.YtflehmepjhikcaaDoorMA
import Derived.WalkKit
import Derived.LaidEql
import Derived.Stop.Asserts
import Derived.RowKitTokens
import Derived.Laws.Tables
import Derived.Laws.CopyOwn
import Derived.Lib.Hide
set_option maxRecDepth 100000
set_option maxHeartbeats 8000000
namespace Go.Proofs.YtflehmepjhikcaaDoor
open Go.RowKit Go.Extern.Stop Go.Stop Go.Extern
abbrev hdV (t:Nat):Value:= .pointer (some ⟨7,t,none⟩)
theorem asNil_any (t:Value)(w:World):
  Calls Tryd.prog 48 #[.nilIface,t] w fun e w'=>e = .returned (.bool false)∧Keep w w':=by
 go_enter Tryd.func48,Tryd.ntmps48
 go_wp2;go_ret;exact⟨rfl,Keep.refl _⟩
theorem as_valueP (t:Addr)(w:World):(ReflectliteValue.unpack (.iface 81 (.pointer (some t)))).run Tryd.prog w
  = .ok (.agg #[hdV 81,.pointer (some ⟨w.heap.size,0,none⟩),.int .u64 150]) (w.alloc (.cells #[.pointer (some t)] 81)):=by kernel_rfl
theorem as_typeP (a : Addr) (w : World) : (ReflectliteValue.methodAny (ReflectliteValue.valueError "reflectlite.Value.Type" 0) (fun t _ _ _ => ReflectliteType.toType t) #[.agg #[hdV 81, .pointer (some a), .int .u64 150]]).run Tryd.prog w
  = .ok (.iface 117 (.agg #[hdV 81])) w:=by kernel_rfl
theorem as_methodK (h : Value) (w : World) : (Go.method 306 117 (.agg #[h]) "Kind").run Tryd.prog w = .ok (130, h) w := by kernel_rfl
theorem as_kindP (w:World):((ReflectliteType.abiMethod fun t=>(fun a:Nat=>Value.int IntKind.u8 (a:Int)) <$> Rtype.kind t) #[hdV 81]).run Tryd.prog w = .ok (.int .u8 22) w:=by kernel_rfl
theorem as_kindR (w:World):((ReflectliteType.abiMethod fun t=>(fun a:Nat=>Value.int IntKind.u8 (a:Int)) <$> Rtype.kind t) #[hdV 78]).run Tryd.prog w = .ok (.int .u8 25) w:=by kernel_rfl
theorem rlmE (z:Sem Value)(f:TypeId→Addr→Nat→Nat→Sem Value)(v:Value):
  ReflectliteValue.method z f #[v]=(do match ←ReflectliteValue.parts v with|none=>z|some (t,a,fl)=>f t a fl (fl % 32)):=rfl
theorem as_partsP (a:Addr)(w:World):(ReflectliteValue.parts (.agg #[hdV 81,.pointer (some a),.int .u64 150])).run Tryd.prog w = .ok (some (81,a,150)) w:=by kernel_rfl
theorem as_isNil (a p:Addr)(W:World)(ha:W.cell? a=some (.pointer (some p))):
  (ReflectliteValue.method (ReflectliteValue.valueError "reflectlite.Value.IsNil" 0) ReflectliteValue.isNil #[.agg #[hdV 81, .pointer (some a), .int .u64 150]]).run Tryd.prog W = .ok (.bool false) W := by
 rw[rlmE];simp only[Sem.run_bind,as_partsP,Result.andThen];simp[ReflectliteValue.isNil,loadVar,isAgg,underlying,Tryd.underlying81,ha,Result.andThen]
theorem as_methodE (h : Value) (w : World) : (Go.method 306 117 (.agg #[h]) "Elem").run Tryd.prog w = .ok (142, .agg #[h]) w := by kernel_rfl
theorem as_methodI (h : Value) (w : World) : (Go.method 306 117 (.agg #[h]) "Implements").run Tryd.prog w = .ok (143, .agg #[h]) w := by kernel_rfl
theorem as_methodA (h : Value) (w : World) : (Go.method 306 117 (.agg #[h]) "AssignableTo").run Tryd.prog w = .ok (140, .agg #[h]) w := by kernel_rfl
theorem as_elemP (w:World):(ReflectliteType.method ReflectliteType.elem #[.agg #[hdV 81]]).run Tryd.prog w = .ok (.iface 117 (.agg #[hdV 78])) w:=by kernel_rfl
theorem as_implR (w : World) : (ReflectliteType.relation "Implements" ReflectliteType.implements_ #[.agg #[hdV 78], .iface 117 (.agg #[hdV 55])]).run Tryd.prog w = .ok (.bool true) w := by kernel_rfl
theorem as_typeOfR (v:Value)(w:World):(ReflectliteType.typeOf #[.iface 78 v]).run Tryd.prog w = .ok (.iface 117 (.agg #[hdV 78])) w:=by kernel_rfl
theorem as_assignR (w : World) : (ReflectliteType.relation "AssignableTo" ReflectliteType.assignableTo #[.agg #[hdV 78], .iface 117 (.agg #[hdV 78])]).run Tryd.prog w = .ok (.bool true) w := by kernel_rfl
theorem as_valueR (s:ByteArray)(u:TypeId)(y:Value)(w:World):(ReflectliteValue.unpack (.iface 78 (.agg #[.string s,.iface u y]))).run Tryd.prog w
  = .ok (.agg #[hdV 78,.pointer (some ⟨w.heap.size,0,none⟩),.int .u64 153]) (w.alloc (.cells #[.string s,.iface u y] 78)):=by kernel_rfl
theorem as_elemOfP (w:World):(Rtype.elem? 81).run Tryd.prog w = .ok (some 78) w:=by kernel_rfl
theorem as_mkR (p:Addr)(w:World):(ReflectliteValue.mk 78 p ReflectliteValue.flagAddr).run Tryd.prog w = .ok (.agg #[hdV 78,.pointer (some p),.int .u64 409]) w:=by kernel_rfl
theorem as_elemV (a p:Addr)(W:World)(ha:W.cell? a=some (.pointer (some p))):
  (ReflectliteValue.method (ReflectliteValue.valueError "reflectlite.Value.Elem" 0) ReflectliteValue.elem #[.agg #[hdV 81, .pointer (some a), .int .u64 150]]).run Tryd.prog W
   = .ok (.agg #[hdV 78,.pointer (some p),.int .u64 409]) W:=by
 rw[rlmE];simp only[Sem.run_bind,as_partsP,Result.andThen];simp[ReflectliteValue.elem,loadVar,isAgg,underlying,Tryd.underlying81,ha,Result.andThen,as_elemOfP,as_mkR]
theorem rlsE (v x:Value):ReflectliteValue.set #[v,x]=(do
  let (some (dst,a,fl),some (src,b,_)):=(←ReflectliteValue.parts v,←ReflectliteValue.parts x)
   | unsupported (.noEntry "extern/(internal/reflectlite.Value).Set.zeroValue")
  if fl / ReflectliteValue.flagAddr % 2 == 0 then unsupported (.noEntry "extern/(internal/reflectlite.Value).Set.unaddressable")
  let val ←loadVar src b
  if ←Rtype.directlyAssignable dst src then storeVar dst a val
  else if ←Rtype.implements dst src then
   if (←Rtype.kind src)==20 then
    match val with
    | .nilIface => unsupported (.noEntry "extern/reflectlite: a nil value of one interface type handed on as a value of another")
    |_=>storeVar dst a val
   else storeVar dst a (.iface src val)
  else panicString ("reflectlite.Set: value of type " ++ (← Rtype.spelt src) ++ " is not assignable to type " ++ (← Rtype.spelt dst))
  pure (.tuple #[])):=rfl
theorem as_partsD (a:Addr)(w:World):(ReflectliteValue.parts (.agg #[hdV 78,.pointer (some a),.int .u64 409])).run Tryd.prog w = .ok (some (78,a,409)) w:=by kernel_rfl
theorem as_partsS (a:Addr)(w:World):(ReflectliteValue.parts (.agg #[hdV 78,.pointer (some a),.int .u64 153])).run Tryd.prog w = .ok (some (78,a,153)) w:=by kernel_rfl
theorem as_direct (w:World):(Rtype.directlyAssignable 78 78).run Tryd.prog w = .ok true w:=by kernel_rfl
theorem as_size:(Tryd.prog.info? 78).map (·.size)=some 2:=by kernel_rfl
theorem as_set (T b:Nat)(s:ByteArray)(u tT:TypeId)(y:Value)(old:Array Value)(W:World)(hb:W.heap[b]? = some (.cells #[.string s,.iface u y] 78 (0,0)))(ht:W.heap[T]? = some (.cells old tT (0,0)))(ho:old.size=2):
  (ReflectliteValue.set #[.agg #[hdV 78,.pointer (some ⟨T,0,none⟩),.int .u64 409],.agg #[hdV 78,.pointer (some ⟨b,0,none⟩),.int .u64 153]]).run Tryd.prog W
   = .ok (.tuple #[]) (W.setRow T #[.string s,.iface u y]):=by
 have h1:=run_loadVar_row (P:=Tryd.prog) W b _ 78 _ _ _ hb Tryd.underlying78 rfl as_size;have h2:=run_storeVar_row (P:=Tryd.prog) W T tT 78 old #[.string s,.iface u y] ht as_size ho (by simp[Value.oneCell']);rw[rlsE];simp only[Sem.run_bind,as_partsD,as_partsS,Result.andThen];simp[ReflectliteValue.flagAddr,h1,h2,Result.andThen,as_direct]
theorem heap_old (w:World)(o:Obj){k:Nat}(h:k<w.heap.size):(w.alloc o).heap[k]? = w.heap[k]?:=Below.heap_alloc _ _ _ h
theorem asHit_any (s:ByteArray)(u:TypeId)(y:Value)(T:Nat)(tT:TypeId)(old:Array Value)(w:World)(hg:w.cell? ⟨1,0,none⟩=some (.iface 117 (.agg #[hdV 55])))
  (ht:w.heap[T]? = some (.cells old tT (0,0))) (ho:old.size=2):
  Calls Tryd.prog 48 #[.iface 78 (.agg #[.string s,.iface u y]),.iface 81 (.pointer (some ⟨T,0,none⟩))] w fun e w'=>e = .returned (.bool true)∧Below T w w':=by
 have hT:T<w.heap.size:=by
  rcases Nat.lt_or_ge T w.heap.size with h|h
  · exact h
  · rw[Array.getElem?_eq_none h] at ht;cases ht
 have hG:1<w.heap.size:=World.block_lt_of_cell? w ⟨1,0,none⟩ hg;have h6:=@run_callFunc_extern Tryd.prog 67 _ (fun args=>ReflectliteValue.unpack (args.getD 0 (.tuple #[]))) Tryd.func67 (by kernel_rfl) (by kernel_rfl) (by kernel_rfl) (by kernel_rfl)
 have h7 := @run_callFunc_extern Tryd.prog 68 _ (ReflectliteValue.methodAny (ReflectliteValue.valueError "reflectlite.Value.Type" 0) (fun t _ _ _ => ReflectliteType.toType t)) Tryd.func68 (by kernel_rfl) (by kernel_rfl) (by kernel_rfl) (by kernel_rfl)
 have h8 := @run_callFunc_extern Tryd.prog 69 _ (ReflectliteValue.method (ReflectliteValue.valueError "reflectlite.Value.IsNil" 0) ReflectliteValue.isNil) Tryd.func69 (by kernel_rfl) (by kernel_rfl) (by kernel_rfl) (by kernel_rfl)
 have h27:=@run_callFunc_extern Tryd.prog 130 _ (ReflectliteType.abiMethod fun t=>do pure (.int .u8 (←Rtype.kind t))) Tryd.func130 (by kernel_rfl) (by kernel_rfl) (by kernel_rfl) (by kernel_rfl);have h37:=@run_callFunc_extern Tryd.prog 142 _ (ReflectliteType.method ReflectliteType.elem) Tryd.func142 (by kernel_rfl) (by kernel_rfl) (by kernel_rfl) (by kernel_rfl)
 have h38 := @run_callFunc_extern Tryd.prog 143 _ (ReflectliteType.relation "Implements" ReflectliteType.implements_) Tryd.func143 (by kernel_rfl) (by kernel_rfl) (by kernel_rfl) (by kernel_rfl)
 have h10:=@run_callFunc_extern Tryd.prog 57 _ ReflectliteType.typeOf Tryd.func57 (by kernel_rfl) (by kernel_rfl) (by kernel_rfl) (by kernel_rfl)
 have h35 := @run_callFunc_extern Tryd.prog 140 _ (ReflectliteType.relation "AssignableTo" ReflectliteType.assignableTo) Tryd.func140 (by kernel_rfl) (by kernel_rfl) (by kernel_rfl) (by kernel_rfl)
 have h11 := @run_callFunc_extern Tryd.prog 80 _ (ReflectliteValue.method (ReflectliteValue.valueError "reflectlite.Value.Elem" 0) ReflectliteValue.elem) Tryd.func80 (by kernel_rfl) (by kernel_rfl) (by kernel_rfl) (by kernel_rfl)
 have h12:=@run_callFunc_extern Tryd.prog 81 _ ReflectliteValue.set Tryd.func81 (by kernel_rfl) (by kernel_rfl) (by kernel_rfl) (by kernel_rfl);have tO:=as_typeOfR;have mA:=as_methodA;have a25:=as_assignR;have v25:=as_valueR s u y;have f6:=as_valueP;have f7:=as_typeP;have mK:=as_methodK;have mE:=as_methodE;have mI:=as_methodI;have k27:=as_kindP;have k25:=as_kindR;have e27:=as_elemP;have i25:=as_implR;have n8:=as_isNil ⟨w.heap.size,0,none⟩ ⟨T,0,none⟩ ((w.alloc (.cells #[.pointer (some ⟨T,0,none⟩)] 81)).alloc (.cells #[hdV 81,.pointer (some ⟨w.heap.size,0,none⟩),.int .u64 150] 106)) (by simp)
 have hg2:((w.alloc (.cells #[.pointer (some ⟨T,0,none⟩)] 81)).alloc (.cells #[hdV 81,.pointer (some ⟨w.heap.size,0,none⟩),.int .u64 150] 106)).cell? ⟨1,0,none⟩=some (.iface 117 (.agg #[hdV 55])):=by
  rw[World.cell?_alloc_lt _ _ ⟨1,0,none⟩ (by simp;omega),World.cell?_alloc_lt _ _ ⟨1,0,none⟩ hG];exact hg
 have el:=as_elemV ⟨w.heap.size,0,none⟩ ⟨T,0,none⟩ (((w.alloc (.cells #[.pointer (some ⟨T,0,none⟩)] 81)).alloc (.cells #[hdV 81,.pointer (some ⟨w.heap.size,0,none⟩),.int .u64 150] 106)).alloc (.cells #[hdV 81,.pointer (some ⟨w.heap.size,0,none⟩),.int .u64 150] 106)) (by rw[World.cell?_alloc_lt _ _ ⟨w.heap.size,0,none⟩ (by simp;omega)];simp)
 have st:=as_set T (w.heap.size+1+1+1) s u tT y old ((((w.alloc (.cells #[.pointer (some ⟨T,0,none⟩)] 81)).alloc (.cells #[hdV 81,.pointer (some ⟨w.heap.size,0,none⟩),.int .u64 150] 106)).alloc (.cells #[hdV 81,.pointer (some ⟨w.heap.size,0,none⟩),.int .u64 150] 106)).alloc (.cells #[.string s,.iface u y] 78))
  (by rw[show w.heap.size+1+1+1=(((w.alloc (.cells #[.pointer (some ⟨T,0,none⟩)] 81)).alloc (.cells #[hdV 81,.pointer (some ⟨w.heap.size,0,none⟩),.int .u64 150] 106)).alloc (.cells #[hdV 81,.pointer (some ⟨w.heap.size,0,none⟩),.int .u64 150] 106)).heap.size by simp];exact heap_alloc_new _ _)
  (by rw[heap_old _ _ (by simp;omega),heap_old _ _ (by simp;omega),heap_old _ _ (by simp;omega),heap_old _ _ hT];exact ht) ho
 have B4:Below T w (((((w.alloc (.cells #[.pointer (some ⟨T,0,none⟩)] 81)).alloc (.cells #[hdV 81,.pointer (some ⟨w.heap.size,0,none⟩),.int .u64 150] 106)).alloc (.cells #[hdV 81,.pointer (some ⟨w.heap.size,0,none⟩),.int .u64 150] 106)).alloc (.cells #[.string s,.iface u y] 78)).setRow T #[.string s,.iface u y]):=
  below_setRow (((((Below.refl T w).alloc (by omega) _).alloc (by simp;omega) _).alloc (by simp;omega) _).alloc (by simp;omega) _) (Nat.le_refl T) _
 have HB:=Lib.hid B4;clear hg ht ho B4;go_enter Tryd.func48,Tryd.ntmps48
 go_wp2;refine wp_loop_rounds 1 ?_;rw[rounds_succ];go_wp2;go_ret;exact⟨rfl,HB.out⟩
end Go.Proofs.YtflehmepjhikcaaDoor
