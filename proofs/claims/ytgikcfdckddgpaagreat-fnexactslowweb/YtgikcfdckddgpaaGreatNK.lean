/- Gathered texts. -/
import Derived.Test.YtgikcfdckddgpaaGreatMF
set_option maxRecDepth 100000
set_option maxHeartbeats 8000000
namespace Go.Proofs.YtgikcfdckddgpaaGreat
open Go.ChangeShapes Go.WideShapes Go.ChangeAt Go.RowKit
theorem row_only {w w':World}{base lo hi:Nat}{v:Value}{zs:List Int}(h:Row w base v zs)(k:Only lo hi w w')(hb:hi≤base):Row w' base v zs:=by
 rcases h with h|⟨g,cap,hv,hg,hr⟩
 · exact .inl h
 ·
  have hlt:=hr.lt;obtain⟨cur,e,hh,ht⟩:=hr;exact .inr ⟨g,cap,hv,hg,cur,e,(k.block g hlt (.inr (Nat.le_trans hb hg))).trans hh,ht⟩
theorem cell_only {w w':World}{lo hi X i:Nat}(k:Only lo hi w w')(hlt:X<w.heap.size)(hb:hi≤X):w'.cell? ⟨X,i,none⟩=w.cell? ⟨X,i,none⟩:=by
 have e:=k.block X hlt (.inr hb);simp only[World.cell?,e]
end Go.Proofs.YtgikcfdckddgpaaGreat
