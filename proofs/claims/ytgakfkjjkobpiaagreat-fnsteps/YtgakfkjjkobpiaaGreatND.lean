/- Gathered texts. -/
import Derived.Test.YtgakfkjjkobpiaaGreatMG
import Derived.Outline
import Derived.RegionTactic
import Derived.Deep.QuietTactic
import Derived.BigQuiet
set_option maxRecDepth 100000
set_option maxHeartbeats 8000000
namespace Go.Proofs.YtgakfkjjkobpiaaGreat
open Go.ChangeShapes Go.WideShapes Go.ChangeAt Go.RowKit
theorem Uj (w:World)(v:Value)(zs:List Int)(h:Rd w v zs)(hn:zs.length<=1048576)(hr:∀i,i+1<zs.length->zs.getD i 0<zs.getD (i+1) 0):
  Calls Tryz.prog 27 #[v] w fun e w'=>e = .returned (.bool true)/\AC w w':=by
 obtain⟨a,c,rfl,h⟩:=h;go_enter Tryz.func27,Tryz.ntmps27
 go_wp2;go_loopw [3] (fun i wr=>∃k:Nat,(k<=zs.length\/k=0)/\i = .int .i64 (k+1)/\AC w wr) (fun i _=>zs.length+1-(intOf i).toNat)
 case atStart=>exact⟨0,.inr rfl,rfl,AC.refl _⟩
 case round=>
  obtain⟨k,hk,rfl,hK⟩:=hrel;by_cases hlt:k+1<zs.length
  ·
   rcases h with h|⟨b,o,rfl,hb,hc⟩
   . exfalso;rw[h] at hlt;simp at hlt
   have d1:=(hK.cell hb).trans (hc k (by omega));have d2:=(hK.cell hb).trans (hc (k+1) hlt);have hp:=hr k hlt;generalize zs.getD k 0=p at *;generalize zs.getD (k+1) 0=q at *;have hlt':(k:Int)+1<zs.length:=by omega
   have et:((k:Int)+1).toNat=k+1:=by omega
   clear hc hr hk;go_wp2;go_quiet (fail)
   go_wp2;go_roundw;case rel=>exact⟨k+1,by omega,by go_num,hK.drewN _⟩
   case measure=>simp[intOf];omega
  ·
   have hlt':¬(k:Int)+1<zs.length:=by omega
   clear hk;go_wp2;go_ret;exact⟨rfl,hK⟩
theorem WL (w:World)(v:Value)(n:Int)(zs:List Int)(h:Rd w v zs)(hn:zs.length<=1048576):
  Calls Tryz.prog 28 #[v,.int .i64 n] w fun e w'=>e = .returned (.bool (UH n zs))/\w'=w:=by
 obtain⟨a,c,rfl,h⟩:=h;go_enter Tryz.func28,Tryz.ntmps28
 go_wp2;go_loop [5] (fun i=>∃k:Nat,k<=zs.length/\i = .int .i64 k/\¬n∈zs.take k) (fun i=>zs.length-(intOf i).toNat)
 case atStart=>exact⟨0,Nat.zero_le _,rfl,by simp⟩
 case round=>
  obtain⟨k,hk,rfl,hno⟩:=hrel;have HN:Hid (¬n∈zs.take k):=hno;clear hno;by_cases hlt:k<zs.length
  ·
   rcases h with h|⟨b,o,rfl,hb,hc⟩
   . exfalso;rw[h] at hlt;simp at hlt
   have d1:=hc k hlt;obtain⟨p,hp⟩:∃p,p=zs.getD k 0:=⟨_,rfl⟩;have HP:Hid (p=zs.getD k 0):=hp
   have HM:Hid (zs.getD k 0∈zs):=by
    show zs.getD k 0∈zs;rw[List.getD_eq_getElem?_getD,List.getElem?_eq_getElem hlt];exact List.getElem_mem hlt
   rw[<-hp] at d1;clear hc hp;by_cases he:p=n
   ·
    have hb:(p==n)=true:=by simp[he]
    have HE:Hid (p=n):=he;clear he;go_wp2;go_ret;refine⟨Br ?_,rfl⟩;have:n∈zs:=by rw[<-HE.out,HP.out];exact HM.out
    simp[UH,this]
   ·
    have hb:(p==n)=false:=by simp[he]
    have HE:Hid (¬p=n):=he;clear he;go_wp2;go_round
    case rel=>
     refine⟨k+1,by omega,by go_num,?_⟩;rw[J4 zs k hlt,List.mem_append,List.mem_singleton,<-HP.out];rintro (h|h)
     . exact HN.out h
     . exact HE.out h.symm
    case measure=>simp[intOf];omega
  ·
   go_wp2;go_ret;refine⟨Br ?_,rfl⟩;have:=HN.out;rw[List.take_of_length_le (by omega)] at this;simp[UH,this]
end Go.Proofs.YtgakfkjjkobpiaaGreat
