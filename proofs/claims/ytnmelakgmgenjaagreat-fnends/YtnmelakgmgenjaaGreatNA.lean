/- Gathered texts. -/
import Derived.Test.YtnmelakgmgenjaaGreatMG
import Derived.Deep.RegionHeld3
import Derived.Deep.Cut
import Derived.Test.YtnmelakgmgenjaaGreatMN
import Derived.Lib.Hide
set_option maxRecDepth 100000
set_option maxHeartbeats 8000000
namespace Go.Proofs.YtnmelakgmgenjaaGreat
open Go.ChangeShapes Go.WideShapes Go.ChangeAt Go.RowKit
theorem QT (w:World)(v1 v2:Value)(xs:List Int)(h1:Rd w v1 xs)(h2:Rd w v2 xs)(hx:xs.length<=1048576):
  Calls Tryz.prog 38 #[v1,v2] w fun e w'=>e = .returned (.bool true)/\AC w w':=by
 have:=ZS w v1 v2 xs xs h1 h2 hx
 simpa using this
theorem NJ (w:World)(v1 v2:Value)(Aq:List (List Int))(h1:RJ w v1 Aq)(h2:RJ w v2 Aq)(hx:Aq.length<=1048576)(hm:∀i,i<Aq.length->(Aq.getD i []).length<=1048576):
  Calls Tryz.prog 11 #[v1,v2] w fun e w'=>e = .returned (.bool true)/\AC w w':=by
 obtain⟨a1,c1,rfl,h1⟩:=h1;obtain⟨a2,c2,rfl,h2⟩:=h2;have e0:((Aq.length:Int) != (Aq.length:Int))=false:=by simp
 go_enter Tryz.func11,Tryz.ntmps11
 go_wp2;go_loopw [5] (fun i wr=>∃k:Nat,k<=Aq.length/\i = .int .i64 k/\AC w wr) (fun i _=>Aq.length-(intOf i).toNat)
 case atStart=>exact⟨0,Nat.zero_le _,rfl,AC.refl _⟩
 case round=>
  obtain⟨k,hk,rfl,hK⟩:=hrel;by_cases hlt:k<Aq.length
  ·
   rcases h1 with h|⟨b1,o1,rfl,hb1,hc1⟩
   . exfalso;rw[h] at hlt;simp at hlt
   rcases h2 with h|⟨b2,o2,rfl,hb2,hc2⟩
   . exfalso;rw[h] at hlt;simp at hlt
   obtain⟨u1,e1,r1⟩:=hc1 k hlt;obtain⟨u2,e2,r2⟩:=hc2 k hlt;have hmk:=hm k hlt;clear hc1 hc2 hm;generalize Aq.getD k []=zs at r1 r2 hmk;have R1:=r1.keep (hK.trans (AC.refl wr).drew);have R2:=r2.keep (hK.trans (AC.refl wr).drew);have C:=QT wr.drew u1 u2 zs R1 R2 hmk;obtain⟨ai,ci,rfl,-⟩:=r1;obtain⟨aj,cj,rfl,-⟩:=r2;have d1:=(hK.cell hb1).trans e1;have d2:=(hK.cell hb2).trans e2;have hbw1:b1<wr.drew.heap.size:=Nat.lt_of_lt_of_le hb1 hK.size;have hbw2:b2<wr.drew.heap.size:=Nat.lt_of_lt_of_le hb2 hK.size;have i1:(0:Int)<=(k:Int):=Int.natCast_nonneg _;have i2:(k:Int)<(Aq.length:Int):=by omega
   clear e1 e2 R1 R2;go_wp2
   go_region_held3 (fun w'=>w'.cell? ⟨b1,o1+k,none⟩=some (.slice ai zs.length ci)/\w'.cell? ⟨b2,o2+k,none⟩=some (.slice aj zs.length cj))
    (first|go_keep|(go_split_ands;refine⟨?_,?_⟩<;>(rw[kk.cell (by assumption)];assumption)))
    ((go_at_call 38;refine C.mono ?_;rintro e wz ⟨rfl,kk⟩))
   all_goals
    have KZ:=(hK.trans (AC.refl wr).drew).trans kk;clear C d1 d2 kk;go_wp2;go_roundw;case rel=>exact⟨k+1,by omega,by go_num,KZ⟩
    case measure=>simp[intOf];omega
  ·
   obtain rfl:k=Aq.length:=by omega
   go_wp2;go_ret;exact⟨rfl,hK⟩
theorem PR (w:World)(B:Nat)(a:Option Addr)(cap:Nat)(zs:List Int)(hb:Q4 w B a zs)(hl:zs.length<=4096)(s n:Int)(s0:0<=s)(s1:s<=1000)(h0:0<n)(h1:n<=200000000000000):
  Calls Tryz.prog 20 #[.slice a zs.length cap,.int .i64 s,.int .i64 n] w fun e w'=>∃m:Int,e = .returned (.int .i64 m)/\0<=m/\m<n/\w'=w:=by
 go_enter Tryz.func20,Tryz.ntmps20
 go_wp2;go_loopw [7,8] (fun x i wr=>∃(k:Nat) (y:Int),k<=zs.length/\x = .int .i64 y/\0<=y/\y<=8000000/\i = .int .i64 k/\wr=w) (fun _ i _=>zs.length-(intOf i).toNat)
 case atStart=>exact⟨0,_,Nat.zero_le _,rfl,by omega,by omega,rfl,rfl⟩
 case round=>
  obtain⟨k,y,hk,rfl,y0,y1,rfl,rfl⟩:=hrel;by_cases hlt:k<zs.length
  ·
   rcases hb.2 with h|⟨b,off,rfl,hbB,hbs,hc⟩
   . exfalso;rw[h] at hlt;simp at hlt
   obtain⟨c1,z0,z1⟩:=hc k hlt;clear hc hb;generalize zs.getD k 0=z at c1 z0 z1;have i1:(0:Int)<=(k:Int):=Int.natCast_nonneg _;have i2:(k:Int)<(zs.length:Int):=by omega
   have e1:(y*251+z+s).tmod 1000003=(y*251+z+s) % 1000003:=Int.tmod_eq_emod_of_nonneg (by omega);have e2:0<=(y*251+z+s) % 1000003:=Int.emod_nonneg _ (by omega);have e3:(y*251+z+s) % 1000003<1000003:=Int.emod_lt_of_pos _ (by omega);go_wp2;go_roundw;case rel=>exact⟨k+1,_,by omega,rfl,by omega,by omega,by go_num,trivial⟩
   case measure=>simp[intOf];omega
  ·
   obtain rfl:k=zs.length:=by omega
   have e1:y.tmod n=y % n:=Int.tmod_eq_emod_of_nonneg y0;have e2:0<=y % n:=Int.emod_nonneg _ (by omega);have e3:y % n<n:=Int.emod_lt_of_pos _ h0;go_wp2;go_ret;exact⟨_,rfl,by omega,by omega,rfl⟩
end Go.Proofs.YtnmelakgmgenjaaGreat
