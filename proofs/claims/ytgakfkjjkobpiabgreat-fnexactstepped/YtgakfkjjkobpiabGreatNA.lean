/- Gathered texts. -/
import Derived.Test.YtgakfkjjkobpiabGreatMA
import Derived.OpenShut
import Derived.Lib.SmallJoins
set_option maxRecDepth 100000
set_option maxHeartbeats 8000000
namespace Go.Proofs.YtgakfkjjkobpiabGreat
open Go.ChangeShapes Go.WideShapes Go.ChangeAt Go.RowKit
section
section
variable {H:Type} {enc:TypeId×Value→H} {w:World} {base:Nat} {held:Bool}
theorem open_num1 {n:Nat}{v:Value}{y:DataW H×List MemPlace}(h:DataW.trod enc Tryz.prog w base (fun _=>true) held n 23 [v]=some y):∃f:List Int,Rd w v f∧f.length≤maxLen:=by
 obtain⟨d,p⟩:=y;rcases open_ints Tryz.underlying23 Tryz.underlying2 (by kernel_rfl) h with ⟨hcs,_⟩|⟨x,l,c,zs,hcs,_,hl,hm,hz,_,hcell,hwz⟩
 ·
  simp at hcs;subst hcs;exact⟨[],⟨none,0,rfl,.inl rfl⟩,by simp⟩
 ·
  simp at hcs;subst hcs;obtain⟨f,hfl,hr⟩:=rd_of_row (w:=w) (a:=some x) (len:=l) (cap:=c) (ys:=zs) (.inr ⟨x,rfl,hl,hm,by simpa using hz,hcell,hwz⟩);exact⟨f,hr,by omega⟩
end
end
end Go.Proofs.YtgakfkjjkobpiabGreat
