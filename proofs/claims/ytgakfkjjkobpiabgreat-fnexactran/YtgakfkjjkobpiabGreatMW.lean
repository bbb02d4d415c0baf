/- Gathered texts. -/
import Derived.Test.YtgakfkjjkobpiabGreatMG
import Derived.Outline
import Derived.RegionTactic
import Derived.Deep.QuietTactic
import Derived.BigQuiet
set_option maxRecDepth 100000
set_option maxHeartbeats 8000000
namespace Go.Proofs.YtgakfkjjkobpiabGreat
open Go.ChangeShapes Go.WideShapes Go.ChangeAt Go.RowKit
def marks (k:Int):Nat→List Int
 | 0=>[]
 |n+1=>marks k n++[k+n]
theorem marks_len (k:Int)(n:Nat):(marks k n).length=n:=by
 induction n with
 |zero=>rfl
 |succ n ih=>simp[marks,ih]
theorem marked_len (zs:List Int)(k:Int)(j:Nat)(hj:j≤zs.length):(marks k j++zs.drop j).length=zs.length:=by
 rw[List.length_append,marks_len,List.length_drop];omega
theorem set_mark (zs:List Int)(k:Int)(j:Nat)(hj:j<zs.length):(marks k j++zs.drop j).set j (k+j)=marks k (j+1)++zs.drop (j+1):=by
 rw[List.set_append_right _ _ (by rw[marks_len];exact Nat.le_refl _),marks_len,Nat.sub_self,List.drop_eq_getElem_cons hj,List.set_cons_zero];show _=(marks k j++[k+(j:Int)])++_;rw[List.append_assoc];rfl
theorem mark_row (w:World)(base:Nat)(v:Value)(k:Int)(zs:List Int)(h:Row w base v zs)(hn:zs.length≤1048576)(h0:1≤k)(h1:k≤16777216):
  Calls Tryz.prog 21 #[v,.int .i64 k] w fun e w'=>e = .returned (.int .i64 (k+zs.length))∧Row w' base v (marks k zs.length)∧w.grownBy w' v.ownBlock:=by
 rcases h with ⟨rfl,rfl⟩|⟨g,cap,rfl,hb,hr⟩
 ·
  go_enter Tryz.func21,Tryz.ntmps21
  go_wp2;refine wp_loop_rounds 1 ?_;rw[rounds_succ];go_wp2;go_ret;exact⟨by simp,.inl ⟨rfl,rfl⟩,World.grownBy.refl _ _⟩
 ·
  go_enter Tryz.func21,Tryz.ntmps21
  go_wp2;go_loopw [1,5] (fun q i wr=>∃j:Nat,j≤zs.length∧i = .int .i64 j∧q = .int .i64 (k+j)∧RowAt wr g (marks k j++zs.drop j)∧w.grownBy wr (some g)) (fun _ i _=>zs.length-(intOf i).toNat)
  case atStart=>exact⟨0,Nat.zero_le _,rfl,by simp,hr,World.grownBy.refl _ _⟩
  case round=>
   obtain⟨j,hj,rfl,rfl,ho,hg⟩:=hrel;clear hr;by_cases hlt:j<zs.length
   ·
    have d1:=ho.cell (j:=j) (by rw[marked_len zs k j hj];exact hlt);have d2:=ho.free j;have hs:=ho.set j (k+j);rw[set_mark zs k j hlt] at hs;generalize (marks k j++zs.drop j).getD j 0=u at d1;have HG:=grown_trans hg (grown_set wr g j (.int .i64 (k+j)));go_wp2;go_roundw;case rel=>exact⟨j+1,by omega,by go_num,by go_num,hs,HG⟩
    case measure=>simp[intOf];omega
   ·
    have:j=zs.length:=by omega
    subst this;go_wp2;go_ret;refine⟨rfl,row_new ?_ hb (by rw[marks_len]),hg⟩
    simpa using ho
end Go.Proofs.YtgakfkjjkobpiabGreat
