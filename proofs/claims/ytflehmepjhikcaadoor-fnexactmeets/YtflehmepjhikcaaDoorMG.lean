/- Gathered texts. -/
import Derived.Test.YtflehmepjhikcaaDoorRows
import Derived.LaidLaws
import Derived.LaidHandle
import Derived.Stop.LaidErr
import Derived.Test.YtflehmepjhikcaaDoorMA
import Derived.OpenShut
set_option maxRecDepth 100000
set_option maxHeartbeats 8000000
namespace Go.Proofs.YtflehmepjhikcaaDoor
open Go.ChangeShapes Go.WideShapes Go.ChangeAt Go.RowKit
open Go.RowKit
theorem han_rt : (Tryd.prog.cutTypes.find? (·.1 == "internal/reflectlite.rtype")).map (·.2) = some 117 := by kernel_rfl
theorem han_row:((List.range 206).filter fun t=>Tryd.prog.rowNamed t [101,114,114,111,114])=[55]:=by kernel_rfl
theorem han_size:Tryd.prog.types.size=206:=by kernel_rfl
theorem han_cell {W : World} (h : handlesMet Tryd.prog [("errors.errorType", Rows.laid_errors_errorType)] W) : W.cell? ⟨1, 0, none⟩ = some (.iface 117 (.agg #[.pointer (some ⟨7, 55, none⟩)])) := by
 obtain⟨name,u,ty,e1,e2,e3,e4,e5⟩:=h _ (List.mem_singleton.2 rfl);have en:name=[101,114,114,111,114]:=(Option.some.inj e1).symm;subst en;obtain rfl:=Option.some.inj (han_rt.symm.trans e2);have hm:ty∈(List.range 206).filter fun t=>Tryd.prog.rowNamed t [101,114,114,111,114]:=List.mem_filter.2 ⟨List.mem_range.2 (by rw[←han_size];exact e3),e4⟩
 rw[han_row] at hm;obtain rfl:=List.mem_singleton.1 hm;have hh:typeHandle Tryd.prog 55 = .pointer (some ⟨7,55,none⟩):=by kernel_rfl
 rw[hh] at e5
 have et : Tryd.prog.globalNamed "errors.errorType" = some 1 := by kernel_rfl
 simpa using World.var?_cell et e5 0
section
section
variable {H:Type} {enc:TypeId×Value→H} {w:World} {base:Nat} {held:Bool}
theorem open_nums {r:Reach}{b0:Nat}{v:Value}{d:DataW H}{p:List MemPlace}(hv:Value.okWide Tryd.prog w r b0 25 v)(h:DataW.Trod enc Tryd.prog w base (fun _=>true) held 25 v d p):∃f:List Int,Rd w v f∧f.length≤maxLen:=by
 obtain⟨a0,len0,cap0,rfl⟩:=okWide_slice Tryd.underlying25 hv;obtain⟨fuel,hf⟩:=h;rcases open_ints Tryd.underlying25 Tryd.underlying2 (by kernel_rfl) hf with ⟨hcs,_⟩|⟨x,l,c,zs,hcs,_,hl,hm,hz,_,hcell,hwz⟩
 ·
  simp[Value.cells] at hcs;obtain⟨rfl,rfl,rfl⟩:=hcs;exact⟨[],⟨none,0,rfl,.inl rfl⟩,by simp⟩
 ·
  simp[Value.cells] at hcs;obtain⟨rfl,rfl,rfl⟩:=hcs;obtain⟨f,hfl,hr⟩:=rd_of_row (w:=w) (a:=some x) (len:=len0) (cap:=cap0) (ys:=zs) (.inr ⟨x,rfl,hl,hm,by simpa using hz,hcell,hwz⟩);exact⟨f,hr,by omega⟩
end
end
structure ErrW (w:World)(a b c:Addr):Prop where
 no:NoAsk w a
 nx:w.cell? ⟨2,0,none⟩=some (erV b)
 un:w.cell? ⟨3,0,none⟩=some (erV c)
theorem cell_keep {w w':World}{b o:Nat}{v:Value}(h:w.cell? ⟨b,o,none⟩=some v)(k:Keep w w'):w'.cell? ⟨b,o,none⟩=some v:=(k.cell (World.block_lt_of_cell? w ⟨b,o,none⟩ h)).trans h
theorem ErrW.keep {w w':World}{a b c:Addr}(h:ErrW w a b c)(k:Keep w w'):ErrW w' a b c:=⟨h.no.keep k,cell_keep h.nx k,cell_keep h.un k⟩
def RefO (t:Bool)(v:Value):Prop:=(t=true∧v = .nilIface)∨(t=false∧∃s b,v=rfV s (erV b))
theorem RefO.no {v:Value}(h:RefO false v):∃s b,v=rfV s (erV b):=h.elim (fun q=>by cases q.1) (fun q=>q.2)
theorem RefO.yes {v:Value}(h:RefO true v):v = .nilIface:=h.elim (fun q=>q.2) (fun q=>by cases q.1)
end Go.Proofs.YtflehmepjhikcaaDoor
