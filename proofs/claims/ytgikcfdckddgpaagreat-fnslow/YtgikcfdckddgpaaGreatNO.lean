/- Gathered texts. -/
import Derived.Test.YtgikcfdckddgpaaGreatNN
import Derived.Test.YtgikcfdckddgpaaGreatMK
import Derived.Test.YtgikcfdckddgpaaGreatMQ
import Derived.Outline
import Derived.RegionTactic
import Derived.BigQuiet
set_option maxRecDepth 100000
set_option maxHeartbeats 8000000
namespace Go.Proofs.YtgikcfdckddgpaaGreat
open Go.ChangeShapes Go.WideShapes Go.ChangeAt Go.RowKit
theorem liftS_bad {zs cl:List Int}(h:¬(webB zs=true∧cl.length=zs.length)):liftL zs cl=[]:=by unfold liftL;rw[if_neg h]
theorem liftS_ok {zs cl:List Int}(h:webB zs=true∧cl.length=zs.length):liftL zs cl=cl.map (fun c=>liftR zs cl c zs.length):=by unfold liftL;rw[if_pos h]
theorem specLifted_any (w:World)(v1 v2:Value)(xs ys:List Int)(h1:Rd w v1 xs)(h2:Rd w v2 ys)(n1:xs.length≤1048576)(_n2:ys.length≤1048576):
  Calls Tryz.prog 25 #[v1,v2] w fun e w'=>∃v',e = .returned v'∧Row w' w.heap.size v' (liftL xs ys)∧Keep w w':=by
 have r1:=h1;have r2:=h2;obtain⟨a1,c1,rfl,_⟩:=h1;obtain⟨a2,c2,rfl,_⟩:=h2;cases ha:webB xs
 ·
  go_enter Tryz.func25,Tryz.ntmps25
  go_wp2_with fail
  refine (specWebOk_any _ _ _ r1 n1).mono ?_;rintro e w' ⟨rfl,rfl⟩;go_wp2;go_ret;exact⟨_,rfl,by rw[liftS_bad (by simp[ha])];exact row_empty _ _,(Keep.refl _).alloc _⟩
 ·
  by_cases hl:ys.length=xs.length
  ·
   have hlb:((ys.length:Int) != (xs.length:Int))=false:=by simp[hl]
   have HL:Hid (ys.length=xs.length):=hl;have HA:Hid (webB xs=true):=ha;clear hl;go_enter Tryz.func25,Tryz.ntmps25
   go_wp2_with fail
   refine (specWebOk_any _ _ _ r1 n1).mono ?_;rintro e w' ⟨rfl,rfl⟩;go_wp2_with fail
   refine (l3Lift_any _ _ _ _ _ r1 r2 (web_iff.1 HA.out) HL.out).mono ?_;rintro e w1 ⟨vm,rfl,hm,k1⟩;go_wp2;go_ret;exact⟨_,rfl,by rw[liftS_ok ⟨HA.out,HL.out⟩];exact hm,k1⟩
  ·
   have hlb:((ys.length:Int) != (xs.length:Int))=true:=by simp;omega
   have HL:Hid (¬ys.length=xs.length):=hl;clear hl;go_enter Tryz.func25,Tryz.ntmps25
   go_wp2_with fail
   refine (specWebOk_any _ _ _ r1 n1).mono ?_;rintro e w' ⟨rfl,rfl⟩;go_wp2;go_ret;exact⟨_,rfl,by rw[liftS_bad (fun h=>HL.out h.2)];exact row_empty _ _,(Keep.refl _).alloc _⟩
end Go.Proofs.YtgikcfdckddgpaaGreat
