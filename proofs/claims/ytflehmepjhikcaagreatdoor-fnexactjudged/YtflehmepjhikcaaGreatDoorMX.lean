/- Gathered texts. -/
import Derived.Test.YtflehmepjhikcaaGreatDoorMA
import Derived.OpenShut
import Derived.Lib.SmallJoins
set_option maxRecDepth 100000
set_option maxHeartbeats 8000000
namespace Go.Proofs.YtflehmepjhikcaaGreatDoor
open Go.ChangeShapes Go.WideShapes Go.ChangeAt Go.RowKit
section
section
variable {H:Type} {enc:TypeId×Value->H} {w:World} {base:Nat} {held:Bool}
theorem P0 {n:Nat}{v:Value}{y:DataW H×List MemPlace}(h:DataW.trod enc Tryz.prog w base (fun _=>true) held n 25 [v]=some y):∃f:List Int,Rd w v f/\f.length<=maxLen:=by
 obtain⟨d,p⟩:=y;rcases open_ints Tryz.underlying25 Tryz.underlying2 (by kernel_rfl) h with ⟨hcs,_⟩|⟨x,l,c,zs,hcs,_,hl,hm,hz,_,hcell,hwz⟩
 ·
  simp at hcs;subst hcs;exact⟨[],⟨none,0,rfl,.inl rfl⟩,by simp⟩
 ·
  simp at hcs;subst hcs;obtain⟨f,hfl,hr⟩:=YH (w:=w) (a:=some x) (len:=l) (cap:=c) (ys:=zs) (.inr ⟨x,rfl,hl,hm,by simpa using hz,hcell,hwz⟩);exact⟨f,hr,by omega⟩
end
end
section
section
variable {H:Type} {enc:TypeId×Value->H} {w:World} {base:Nat} {held:Bool}
theorem bg {r:Reach}{b0:Nat}{v:Value}{d:DataW H}{p:List MemPlace}(hv:Value.okWide Tryz.prog w r b0 39 v)(h:DataW.Trod enc Tryz.prog w base (fun _=>true) held 39 v d p):
  ∃(vF vR:Value) (f rows:List Int),v = .agg #[vF,vR]/\Rd w vF f/\Rd w vR rows/\f.length<=maxLen/\rows.length<=maxLen:=by
 obtain⟨c0,c1,y0,y1,n,rfl,_,_,e0,e1⟩:=Joins.open_agg2 Tryz.underlying39 (by kernel_rfl) (by kernel_rfl) hv h;obtain⟨f,hf,lf⟩:=P0 e0;obtain⟨rows,hr,lr⟩:=P0 e1;exact⟨c0,c1,f,rows,rfl,hf,hr,lf,lr⟩
end
end
end Go.Proofs.YtflehmepjhikcaaGreatDoor
