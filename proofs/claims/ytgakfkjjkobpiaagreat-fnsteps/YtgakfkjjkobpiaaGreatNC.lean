/- Gathered texts. -/
import Derived.Test.YtgakfkjjkobpiaaGreatMD
set_option maxRecDepth 100000
set_option maxHeartbeats 8000000
namespace Go.Proofs.YtgakfkjjkobpiaaGreat

theorem Ue {AA:List (List Dd)}(h3:AA.length<=3)(b:Bd):(Ae AA b).Pairwise (fun x y=>x<y):=by
 have hr:∀f:Nat->Bool,((List.range AA.length).filter f).Pairwise (fun x y=>x<y):=fun f=>List.Pairwise.filter f List.pairwise_lt_range
 unfold Ae;rw[List.pairwise_append];refine⟨?_,?_,?_⟩
 ·
  rw[List.pairwise_map];exact (hr _).imp (fun h=>by omega)
 ·
  rw[List.pairwise_map];exact (hr _).imp (fun h=>by omega)
 ·
  intro x hx y hy;obtain⟨c,hc,rfl⟩:=List.mem_map.1 hx;obtain⟨d,_,rfl⟩:=List.mem_map.1 hy;have:=List.mem_range.1 (List.mem_filter.1 hc).1;omega
theorem Ui {l:List Int}(h:l.Pairwise (fun x y=>x<y)):∀i,i+1<l.length->l.getD i 0<l.getD (i+1) 0:=fun i hi=>by
 rw[List.getD_eq_getElem?_getD,List.getD_eq_getElem?_getD,List.getElem?_eq_getElem hi,List.getElem?_eq_getElem (by omega:i<l.length)];exact List.pairwise_iff_getElem.1 h i (i+1) (by omega) hi (by omega)
theorem fH (n:Int)(l:List Int):UH n l=Dx l n:=by
 rw[Bool.eq_iff_iff];unfold UH;rw[decide_eq_true_eq];exact⟨JW,GX⟩
end Go.Proofs.YtgakfkjjkobpiaaGreat
