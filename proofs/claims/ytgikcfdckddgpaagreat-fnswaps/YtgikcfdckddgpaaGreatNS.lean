/- Gathered texts. -/
import Derived.Test.YtgikcfdckddgpaaGreatMO
set_option maxRecDepth 100000
set_option maxHeartbeats 8000000
namespace Go.Proofs.YtgikcfdckddgpaaGreat
open Go.ChangeShapes Go.WideShapes Go.ChangeAt Go.RowKit
theorem drawStrictWeb_any (w:World)(a:Option Addr)(cap:Nat)(zs:List Int)(hb:RdB w w.heap.size a zs):
  Calls Tryz.prog 38 #[.slice a zs.length cap] w fun e w'=>∃v vF vR dss f r bs N,e = .returned (.tuple #[v,.agg #[vF,vR]])∧RdXN w' bs N v dss∧(dss.length≤6∧∀i,i<dss.length→(dss.getD i []).length≤7)∧Own w' N vF f∧Own w' N vR r∧(f.length≤13∧r.length≤36)∧(w.heap.size<bs∧bs≤N)∧Keep w w':=by
 have k0:Keep w (w.alloc (taleC nilV nilV)):=(Keep.refl w).alloc _;have s0:(w.alloc (taleC nilV nilV)).heap.size=w.heap.size+1:=heap_size _ _;have H0:(w.alloc (taleC nilV nilV)).heap[w.heap.size]? = some (taleC nilV nilV):=heap_alloc_new w _;have hb0:RdB (w.alloc (taleC nilV nilV)) (w.alloc (taleC nilV nilV)).heap.size a zs:=RdB.up hb k0;go_enter Tryz.func38,Tryz.ntmps38
 go_wp2_with fail
 refine (drawTaleOk_any _ a cap zs hb0).mono ?_;rintro e w2 ⟨v,vF,vR,dss,f,r,bs,N,rfl,hR,hs,hF,hO,hl,hbs,k2⟩;have H2:=blk_kept H0 k2.grownBy (by simp);have K2:=k0.trans k2;rw[s0] at hbs;obtain⟨aF,cF,rfl⟩:=hF.shp;obtain⟨aR,cR,rfl⟩:=hO.shp;have S6:StT w2 w2 w.heap.size nilV nilV:=⟨H2,grown_drewN w2 0 _⟩;obtain⟨r0,r1⟩:=S6.cells;have g0:=S6.free 0;have g1:=S6.free 1;have hZ:=(S6.set0 (.slice aF f.length cF)).set1 (.slice aR r.length cR);have HR:=Lib.hid (hR.kept hZ.2 (by intro g hg;simp at hg;omega));have HF:=Lib.hid (own_kept hF hZ.2 (by intro g hg;simp at hg;omega));have HO:=Lib.hid (own_kept hO hZ.2 (by intro g hg;simp at hg;omega));have HK:=Lib.hid (K2.grown hZ.2 (by intro g hg;simp at hg;omega));have HS:=Lib.hid hs;have HL:=Lib.hid hl;have HB:=Lib.hid hbs;have HZ:=Lib.hid hZ.1;clear hR hs hF hO k2 H0 H2 K2 k0 s0 hb0 hl hbs hZ S6;go_wp2;refine bodyPost_ret (results_tmp_row (by rfl) _ _ w.heap.size _ _ (0,0) _ v rfl HZ.out rfl Tryz.underlying27 rfl (by kernel_rfl)) rfl ?_;exact⟨v,_,_,dss,f,r,bs,N,rfl,HR.out,HS.out,HF.out,HO.out,HL.out,⟨by have:=HB.out.1;omega,HB.out.2⟩,HK.out⟩
end Go.Proofs.YtgikcfdckddgpaaGreat
