/- Gathered texts. -/
import Derived.Test.YtgikcfdckddgpaaGreatML
set_option maxRecDepth 100000
set_option maxHeartbeats 8000000
namespace Go.Proofs.YtgikcfdckddgpaaGreat
open Go.ChangeShapes Go.WideShapes Go.ChangeAt Go.RowKit
theorem inL_iff {a b:List Int}(h:inL a b=true):a.length=b.length∧∀i,i<a.length→notI (a.getD i 0) (b.getD i 0)=0:=by
 unfold inL at h;rw[Bool.and_eq_true,decide_eq_true_eq,List.all_eq_true] at h;exact⟨h.1,fun i hi=>beq_iff_eq.1 (h.2 i (List.mem_range.2 hi))⟩
theorem within_yes (w:World)(v1 v2:Value)(xs ys:List Int)(h1:Rd w v1 xs)(h2:Rd w v2 ys)(hx:xs.length≤1048576)(hin:inL xs ys=true):
  Calls Tryz.prog 32 #[v1,v2] w fun e w'=>e = .returned (.bool true)∧Keep w w':=by
 obtain⟨a1,c1,rfl,h1⟩:=h1;obtain⟨a2,c2,rfl,h2⟩:=h2;obtain⟨hl,hall⟩:=inL_iff hin;have hlb:((xs.length:Int) != (ys.length:Int))=false:=by simp[hl]
 have hl1:xs.length≤ys.length:=by omega
 have hl2:ys.length≤xs.length:=by omega
 have HA:Hid (∀i,i<xs.length→notI (xs.getD i 0) (ys.getD i 0)=0):=hall;clear hl hall hin;go_enter Tryz.func32,Tryz.ntmps32
 go_wp2;go_loopw [5] (fun i wr=>∃k:Nat,k≤xs.length∧i = .int .i64 k∧Keep w wr) (fun i _=>xs.length-(intOf i).toNat)
 case atStart=>exact⟨0,Nat.zero_le _,rfl,Keep.refl _⟩
 case round=>
  obtain⟨k,hk,rfl,hK⟩:=hrel;by_cases hlt:k<xs.length
  ·
   rcases h1 with h|⟨b1,o1,rfl,hb1,hc1⟩
   · exfalso;rw[h] at hlt;simp at hlt
   rcases h2 with h|⟨b2,o2,rfl,hb2,hc2⟩
   · exfalso;rw[h] at hl1;simp only[List.length_nil] at hl1;omega
   have hy2:k<ys.length:=by omega
   have d1:=(hK.cell hb1).trans (hc1 k hlt);have d2:=(hK.cell hb2).trans (hc2 k hy2)
   have hne:(bits .andNot .i64 (xs.getD k 0) (ys.getD k 0) != 0)=false:=by
    have:=HA.out k hlt;unfold notI at this;rw[this];rfl
   clear hc1 hc2;generalize xs.getD k 0=p at *;generalize ys.getD k 0=q at *;go_wp2;go_quiet (fail)
   go_wp2;go_roundw;case rel=>exact⟨k+1,by omega,by go_num,hK.drewN _⟩
   case measure=>simp[intOf];omega
  ·
   go_wp2;go_ret;exact⟨rfl,hK⟩
end Go.Proofs.YtgikcfdckddgpaaGreat
