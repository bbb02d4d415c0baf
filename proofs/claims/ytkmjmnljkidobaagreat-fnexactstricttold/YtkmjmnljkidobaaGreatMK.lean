/- Gathered texts. -/
import Derived.Test.YtkmjmnljkidobaaGreatMA
import Derived.Outline
import Derived.RegionTactic
import Derived.Deep.QuietTactic
import Derived.BigQuiet
import Derived.Deep.Cut
import Derived.Deep.RegionHeld3
set_option maxRecDepth 100000
set_option maxHeartbeats 8000000
namespace Go.Proofs.YtkmjmnljkidobaaGreat
open Go.ChangeShapes Go.WideShapes Go.ChangeAt Go.RowKit
theorem take_eq_step {xs ys:List Int}{k:Nat}(hx:k<xs.length)(hy:k<ys.length)(h:xs.take k=ys.take k)(e:xs.getD k 0=ys.getD k 0):xs.take (k+1)=ys.take (k+1):=by
 rw[take_snoc xs k hx,take_snoc ys k hy,h,e]
theorem ne_of_getD {xs ys:List Int}{k:Nat}(h:xs.getD k 0≠ys.getD k 0):xs≠ys:=by
 intro e;subst e;exact h rfl
theorem eq_any (w:World)(v1 v2:Value)(xs ys:List Int)(h1:Rd w v1 xs)(h2:Rd w v2 ys)(hx:xs.length≤1048576):
  Calls Tryz.prog 57 #[v1,v2] w fun e w'=>e = .returned (.bool (decide (xs=ys)))∧Keep w w':=by
 obtain⟨a1,c1,rfl,h1⟩:=h1;obtain⟨a2,c2,rfl,h2⟩:=h2;by_cases hl:xs.length=ys.length
 ·
  have hlb:((xs.length:Int) != (ys.length:Int))=false:=by simp[hl]
  have hl1:xs.length≤ys.length:=by omega
  have hl2:ys.length≤xs.length:=by omega
  clear hl;go_enter Tryz.func57,Tryz.ntmps57
  go_wp2;go_loopw [5] (fun i wr=>∃k:Nat,k≤xs.length∧i = .int .i64 k∧xs.take k=ys.take k∧Keep w wr) (fun i _=>xs.length-(intOf i).toNat)
  case atStart=>exact⟨0,Nat.zero_le _,rfl,by simp,Keep.refl _⟩
  case round=>
   obtain⟨k,hk,rfl,ht,hK⟩:=hrel;by_cases hlt:k<xs.length
   ·
    rcases h1 with h|⟨b1,o1,rfl,hb1,hc1⟩
    · subst h;simp at hlt
    rcases h2 with h|⟨b2,o2,rfl,hb2,hc2⟩
    · exfalso;rw[h] at hl1;simp only[List.length_nil] at hl1;omega
    have hy2:k<ys.length:=by omega
    have d1:=(hK.cell hb1).trans (hc1 k hlt);have d2:=(hK.cell hb2).trans (hc2 k hy2);clear hc1 hc2;obtain⟨p,hp⟩:∃p,p=xs.getD k 0:=⟨_,rfl⟩;obtain⟨q,hq⟩:∃q,q=ys.getD k 0:=⟨_,rfl⟩;rw[←hp] at d1;rw[←hq] at d2;have HP:Hid (p=xs.getD k 0):=hp;have HQ:Hid (q=ys.getD k 0):=hq;have HT:Hid (xs.take k=ys.take k):=ht;clear hp hq ht;by_cases he:p=q
    ·
     have hne:(p != q)=false:=by simp[he]
     have HE:Hid (p=q):=he;clear he;go_wp2;go_quiet (fail)
     go_wp2;go_roundw;case rel=>exact⟨k+1,by omega,by go_num,take_eq_step hlt hy2 HT.out (by rw[←HP.out,←HQ.out];exact HE.out),hK.drewN _⟩
     case measure=>simp[intOf];omega
    ·
     have hne:(p != q)=true:=by simp[he]
     have HE:Hid (p≠q):=he;clear he;go_wp2;go_quiet (fail)
     go_wp2;go_ret;refine⟨ret_bool ?_,?_⟩
     ·
      have:=ne_of_getD (xs:=xs) (ys:=ys) (k:=k) (by rw[←HP.out,←HQ.out];exact HE.out);simp[this]
     · exact hK.drewN _
   ·
    go_wp2;go_ret;refine⟨ret_bool ?_,hK⟩;rw[List.take_of_length_le (by omega),List.take_of_length_le (by omega)] at ht;simp[ht]
 ·
  have hlb:((xs.length:Int) != (ys.length:Int))=true:=by simp;omega
  have HL:Hid (¬xs.length=ys.length):=hl;clear hl;go_enter Tryz.func57,Tryz.ntmps57
  go_wp2;go_ret;refine⟨ret_bool ?_,Keep.refl _⟩;have:xs≠ys:=fun e=>HL.out (by rw[e])
  simp[this]
theorem eqI_same (w:World)(v1 v2:Value)(xs:List Int)(h1:Rd w v1 xs)(h2:Rd w v2 xs)(hx:xs.length≤1048576):
  Calls Tryz.prog 57 #[v1,v2] w fun e w'=>e = .returned (.bool true)∧Keep w w':=by
 have h:=eq_any w v1 v2 xs xs h1 h2 hx;rw[show decide (xs=xs)=true by simp] at h;exact h
theorem eqII_same (w:World)(v1 v2:Value)(xs:List (List Int))(h1:RdL w v1 xs)(h2:RdL w v2 xs)(hx:xs.length≤1048576)(hm:∀i,i<xs.length→(xs.getD i []).length≤1048576):
  Calls Tryz.prog 27 #[v1,v2] w fun e w'=>e = .returned (.bool true)∧Keep w w':=by
 obtain⟨a1,c1,rfl,h1⟩:=h1;obtain⟨a2,c2,rfl,h2⟩:=h2;go_enter Tryz.func27,Tryz.ntmps27
 go_wp2;go_loopw [5] (fun i wr=>∃k:Nat,k≤xs.length∧i = .int .i64 k∧Keep w wr) (fun i _=>xs.length-(intOf i).toNat)
 case atStart=>exact⟨0,Nat.zero_le _,rfl,Keep.refl _⟩
 case round=>
  obtain⟨k,hk,rfl,hK⟩:=hrel;by_cases hlt:k<xs.length
  ·
   rcases h1 with h|⟨b1,o1,rfl,hb1,hc1⟩
   · exfalso;rw[h] at hlt;simp at hlt
   rcases h2 with h|⟨b2,o2,rfl,hb2,hc2⟩
   · exfalso;rw[h] at hlt;simp at hlt
   obtain⟨u1,e1,r1⟩:=hc1 k hlt;obtain⟨u2,e2,r2⟩:=hc2 k hlt;have d1:=(hK.cell hb1).trans e1;have d2:=(hK.cell hb2).trans e2;have r1:=r1.keep hK;have r2:=r2.keep hK;have hmk:=hm k hlt;clear hc1 hc2 e1 e2;generalize xs.getD k []=p at r1 r2 hmk;have i1:(0:Int)≤(k:Int):=Int.natCast_nonneg _;have i2:(k:Int)<(xs.length:Int):=by omega
   have z1:b1<wr.drew.heap.size:=Nat.lt_of_lt_of_le hb1 hK.size;have z2:b2<wr.drew.heap.size:=Nat.lt_of_lt_of_le hb2 hK.size;go_wp2_with fail
   go_region_held3 (fun w'=>w'.cell? ⟨b1,o1+k,none⟩=some u1∧w'.cell? ⟨b2,o2+k,none⟩=some u2)
    (first|go_keep|(go_split_ands;refine⟨?_,?_⟩<;>(rw[kk.cell (by assumption)];assumption)))
    ((go_at_call 57;refine (eqI_same _ _ _ p (r1.keep ((Keep.refl wr).drew)) (r2.keep ((Keep.refl wr).drew)) hmk).mono ?_;rintro e wz ⟨rfl,kk⟩))
   all_goals
    go_wp2;go_roundw;case rel=>exact⟨k+1,by omega,by go_num,hK.drew.trans kk⟩
    case measure=>simp[intOf];omega
  ·
   obtain rfl:k=xs.length:=by omega
   go_wp2;go_ret;exact⟨rfl,hK⟩
end Go.Proofs.YtkmjmnljkidobaaGreat
