/- Gathered texts. -/
import Derived.Test.YtgakfkjjkobpiaaGreatMN
import Derived.Lib.Hide
set_option maxRecDepth 100000
set_option maxHeartbeats 8000000
namespace Go.Proofs.YtgakfkjjkobpiaaGreat
open Go.ChangeShapes Go.WideShapes Go.ChangeAt Go.RowKit
theorem Np (w:World)(B:Nat)(a:Option Addr)(cap:Nat)(zs:List Int)(hb:Ms w B a zs)(hl:zs.length<=4096)(s n:Int)(s0:0<=s)(s1:s<=1000)(h0:0<n)(h1:n<=200000000000000):
  Calls Tryz.prog 32 #[.slice a zs.length cap,.int .i64 s,.int .i64 n] w fun e w'=>∃m:Int,e = .returned (.int .i64 m)/\0<=m/\m<n/\w'=w:=by
 go_enter Tryz.func32,Tryz.ntmps32
 go_wp2;go_loopw [7,8] (fun x i wr=>∃(k:Nat) (y:Int),k<=zs.length/\x = .int .i64 y/\0<=y/\y<=8000000/\i = .int .i64 k/\wr=w) (fun _ i _=>zs.length-(intOf i).toNat)
 case atStart=>exact⟨0,_,Nat.zero_le _,rfl,by omega,by omega,rfl,rfl⟩
 case round=>
  obtain⟨k,y,hk,rfl,y0,y1,rfl,rfl⟩:=hrel;by_cases hlt:k<zs.length
  ·
   rcases hb.2 with h|⟨b,off,rfl,yQ,hbs,hc⟩
   . exfalso;rw[h] at hlt;simp at hlt
   obtain⟨c1,z0,z1⟩:=hc k hlt;clear hc hb;generalize zs.getD k 0=z at c1 z0 z1;have i1:(0:Int)<=(k:Int):=Int.natCast_nonneg _;have i2:(k:Int)<(zs.length:Int):=by omega
   have e1:(y*251+z+s).tmod 1000003=(y*251+z+s) % 1000003:=Int.tmod_eq_emod_of_nonneg (by omega);have e2:0<=(y*251+z+s) % 1000003:=Int.emod_nonneg _ (by omega);have e3:(y*251+z+s) % 1000003<1000003:=Int.emod_lt_of_pos _ (by omega);go_wp2;go_roundw;case rel=>exact⟨k+1,_,by omega,rfl,by omega,by omega,by go_num,trivial⟩
   case measure=>simp[intOf];omega
  ·
   obtain rfl:k=zs.length:=by omega
   have e1:y.tmod n=y % n:=Int.tmod_eq_emod_of_nonneg y0;have e2:0<=y % n:=Int.emod_nonneg _ (by omega);have e3:y % n<n:=Int.emod_lt_of_pos _ h0;go_wp2;go_ret;exact⟨_,rfl,by omega,by omega,rfl⟩
end Go.Proofs.YtgakfkjjkobpiaaGreat
