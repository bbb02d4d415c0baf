/- Gathered texts. -/
import Derived.Outline
import Derived.RegionTactic
import Derived.Deep.QuietTactic
import Derived.BigQuiet
import Derived.Test.YtflehmepjhikcaaGreatDoorMD
import Derived.Lib.Hide
set_option maxRecDepth 100000
set_option maxHeartbeats 8000000
namespace Go.Proofs.YtflehmepjhikcaaGreatDoor
open Go.ChangeShapes Go.WideShapes Go.ChangeAt Go.RowKit
theorem RZ {xs ys:List Int}{k:Nat}(hx:k<xs.length)(hy:k<ys.length)(h:xs.take k=ys.take k)(e:xs.getD k 0=ys.getD k 0):xs.take (k+1)=ys.take (k+1):=by
 rw[FY xs k hx,FY ys k hy,h,e]
theorem Ud {xs ys:List Int}{k:Nat}(h:xs.getD k 0≠ys.getD k 0):xs≠ys:=by
 intro e;subst e;exact h rfl
theorem Za (w:World)(v1 v2:Value)(xs ys:List Int)(h1:Rd w v1 xs)(h2:Rd w v2 ys)(hx:xs.length<=1048576):
  Calls Tryz.prog 44 #[v1,v2] w fun e w'=>e = .returned (.bool (decide (xs=ys)))/\AC w w':=by
 obtain⟨a1,c1,rfl,h1⟩:=h1;obtain⟨a2,c2,rfl,h2⟩:=h2;by_cases hl:xs.length=ys.length
 ·
  have hlb:((xs.length:Int) != (ys.length:Int))=false:=by simp[hl]
  have hl1:xs.length<=ys.length:=by omega
  have hl2:ys.length<=xs.length:=by omega
  clear hl;go_enter Tryz.func44,Tryz.ntmps44
  go_wp2;go_loopw [5] (fun i wr=>∃k:Nat,k<=xs.length/\i = .int .i64 k/\xs.take k=ys.take k/\AC w wr) (fun i _=>xs.length-(intOf i).toNat)
  case atStart=>exact⟨0,KAb _,rfl,by simp,AC.refl _⟩
  case round=>
   obtain⟨k,hk,rfl,ht,hK⟩:=hrel;by_cases hlt:k<xs.length
   ·
    rcases h1 with h|⟨b1,o1,rfl,hb1,hc1⟩
    . subst h;simp at hlt
    rcases h2 with h|⟨b2,o2,rfl,hb2,hc2⟩
    . exfalso;rw[h] at hl1;simp only[KCG] at hl1;omega
    have hy2:k<ys.length:=by omega
    have d1:=(hK.cell hb1).trans (hc1 k hlt);have d2:=(hK.cell hb2).trans (hc2 k hy2);clear hc1 hc2;obtain⟨p,hp⟩:∃p,p=xs.getD k 0:=⟨_,rfl⟩;obtain⟨q,hq⟩:∃q,q=ys.getD k 0:=⟨_,rfl⟩;rw[<-hp] at d1;rw[<-hq] at d2;have HP:Hid (p=xs.getD k 0):=hp;have HQ:Hid (q=ys.getD k 0):=hq;have HT:Hid (xs.take k=ys.take k):=ht;clear hp hq ht;by_cases he:p=q
    ·
     have hne:(p != q)=false:=by simp[he]
     have HE:Hid (p=q):=he;clear he;go_wp2;go_quiet (fail)
     go_wp2;go_roundw;case rel=>exact⟨k+1,by omega,by go_num,RZ hlt hy2 HT.out (by rw[<-HP.out,<-HQ.out];exact HE.out),hK.drewN _⟩
     case measure=>simp[intOf];omega
    ·
     have hne:(p != q)=true:=by simp[he]
     have HE:Hid (p≠q):=he;clear he;go_wp2;go_quiet (fail)
     go_wp2;go_ret;refine⟨BE ?_,?_⟩
     ·
      have:=Ud (xs:=xs) (ys:=ys) (k:=k) (by rw[<-HP.out,<-HQ.out];exact HE.out);simp[this]
     . exact hK.drewN _
   ·
    go_wp2;go_ret;refine⟨BE ?_,hK⟩;rw[List.take_of_length_le (by omega),List.take_of_length_le (by omega)] at ht;simp[ht]
 ·
  have hlb:((xs.length:Int) != (ys.length:Int))=true:=by simp;omega
  have HL:Hid (¬xs.length=ys.length):=hl;clear hl;go_enter Tryz.func44,Tryz.ntmps44
  go_wp2;go_ret;refine⟨BE ?_,AC.refl _⟩;have:xs≠ys:=fun e=>HL.out (by rw[e])
  simp[this]
theorem Wo {w w1:World}{x0 x1 y0 y1:Value}{t t':TypeId}(k:AC ((w.alloc (.cells #[x0,x1] t)).alloc (.cells #[y0,y1] t')) w1):
  (w1.cell? ⟨w.heap.size,0,none⟩=some x0/\w1.cell? ⟨w.heap.size,1,none⟩=some x1)/\(w1.cell? ⟨w.heap.size+1,0,none⟩=some y0/\w1.cell? ⟨w.heap.size+1,1,none⟩=some y1):=by
 have h0:∀i:Nat,w1.cell? ⟨w.heap.size,i,none⟩=(#[x0,x1])[i]?:=fun i=>by
  rw[k.cell (by simp only[AD];omega),(((AC.refl (w.alloc _)).alloc _)).cell (by simp only[AD];omega)];exact AO (AC.refl _) i
 have h1:∀i:Nat,w1.cell? ⟨w.heap.size+1,i,none⟩=(#[y0,y1])[i]?:=fun i=>by
  have:=AO k i;rw[AD] at this;exact this
 exact⟨⟨h0 0,h0 1⟩,⟨h1 0,h1 1⟩⟩
theorem W4 (w:World)(vF vR uF uR:Value)(f rows g rows':List Int)(hf:Rd w vF f)(hr:Rd w vR rows)(kf:Rd w uF g)(kr:Rd w uR rows')(lf:f.length<=1048576)(lr:rows.length<=1048576):
  Calls Tryz.prog 20 #[.agg #[vF,vR],.agg #[uF,uR]] w fun e w'=>e = .returned (.bool (decide (f=g)&&decide (rows=rows')))/\AC w w':=by
 have CF:=fun (W:World) (kW:AC w W)=>Za W vF uF f g (hf.keep kW) (kf.keep kW) lf
 have CR:=fun (W:World) (kW:AC w W)=>Za W vR uR rows rows' (hr.keep kW) (kr.keep kW) lr
 obtain⟨aF,cF,rfl,-⟩:=hf;obtain⟨aR,cR,rfl,-⟩:=hr;obtain⟨bF,dF,rfl,-⟩:=kf;obtain⟨bR,dR,rfl,-⟩:=kr;generalize decide (f=g)=P at CF ⊢;generalize decide (rows=rows')=Q at CR ⊢;go_enter Tryz.func20,Tryz.ntmps20
 go_wp2_with fail
 refine (CF _ (((AC.refl w).alloc _).alloc _)).mono ?_;rintro e w1 ⟨rfl,k1⟩;obtain⟨⟨c0,c1⟩,⟨c2,c3⟩⟩:=Wo k1;have K1:=(((AC.refl w).alloc _).alloc _).trans k1;cases P
 ·
  go_wp2;go_ret;exact⟨rfl,K1⟩
 ·
  go_wp2_with fail
  refine (CR _ K1).mono ?_;rintro e w2 ⟨rfl,k2⟩;cases Q
  ·
   go_wp2;go_ret;exact⟨rfl,K1.trans k2⟩
  ·
   go_wp2;go_ret;exact⟨rfl,K1.trans k2⟩
theorem UF (w:World)(vF vR uF uR:Value)(f rows:List Int)(hf:Rd w vF f)(hr:Rd w vR rows)(kf:Rd w uF f)(kr:Rd w uR rows)(lf:f.length<=1048576)(lr:rows.length<=1048576):
  Calls Tryz.prog 20 #[.agg #[vF,vR],.agg #[uF,uR]] w fun e w'=>e = .returned (.bool true)/\AC w w':=by
 have h:=W4 w vF vR uF uR f rows f rows hf hr kf kr lf lr;have e:(decide (f=f)&&decide (rows=rows))=true:=by simp
 rw[e] at h;exact h
end Go.Proofs.YtflehmepjhikcaaGreatDoor
