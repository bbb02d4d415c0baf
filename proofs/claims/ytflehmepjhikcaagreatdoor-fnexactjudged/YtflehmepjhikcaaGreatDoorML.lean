/- Gathered texts. -/
import Derived.Test.YtflehmepjhikcaaGreatDoorMK
import Derived.Deep.Cut
import Derived.Laws.Tables
set_option maxRecDepth 100000
set_option maxHeartbeats 8000000
namespace Go.Proofs.YtflehmepjhikcaaGreatDoor
open Go.ChangeShapes Go.WideShapes Go.ChangeAt Go.RowKit
abbrev Pe:=@List.getElem_cons_zero
abbrev KAF:=@List.getElem_toArray
abbrev KAr:=@wpList_load_row
abbrev KCE:=@List.replicate_succ'
def gI (n:Nat):Bd:={ AM:=[0,0,0],AQ:=[0,1,2],AJ:=[],AK:=List.replicate n 0,sn:=[],fr:=[],rws:=[[0],[1],[2]] }
def mG:BI->Option Nat
 | .bd=>some 12
 | .AM=>some 2
 | .AQ=>some 3
 | .AK=>some 6
 | .rws=>some 10
 | .rw 0=>some 7
 | .rw 1=>some 8
 | .rw 2=>some 9
 |_=>none
theorem jH:∀a b i,mG a=some i->mG b=some i->a=b:=by
 intro a b i h1 h2;unfold mG at h1 h2;split at h1<;>split at h2<;>first|rfl|(simp only[KAg] at h1 h2;omega)|(cases h2;done)|(cases h1;done)
theorem qD {w:World}{m D bs N:Nat}{B:Nat->Bool}{R:Nat->Rw}{AA:List (List Dd)}{n:Nat}{x12 x13 x14 x17 x18 x19 x20 x21:Value}(HM:Mk w m (Dw [2,3,6,7,8,9,10,12] B) R true x12 bs N AA)
  (b2:B 2=true) (b3:B 3=true) (b6:B 6=true) (b7:B 7=true) (b8:B 8=true) (b9:B 9=true) (b10:B 10=true) (b12:B 12=true)
  (r2:R 2=Bk [0,0,0] x13) (r3:R 3=Bk [0,1,2] x14) (r6:R 6=Bk (List.replicate n 0) x17) (r7:R 7=Bk [0] x18) (r8:R 8=Bk [1] x19) (r9:R 9=Bk [2] x20) (r10:R 10=Em 25 [x18,x19,x20] x21)
  (r12:R 12=Hi D ⟨x12,x13,x14,AF,x17,AF,AF,x21⟩):AU w m D ⟨x12,x13,x14,AF,x17,AF,AF,x21⟩ [] [x18,x19,x20] bs N AA (gI n):=by
 have H1:∀a i,BW [] [x18,x19,x20] a->mG a=some i->Dw [2,3,6,7,8,9,10,12] B i/\Ay D ⟨x12,x13,x14,AF,x17,AF,AF,x21⟩ [] [x18,x19,x20] (gI n) a=R i:=by
  intro a i _ hi;unfold mG at hi;split at hi<;>simp at hi<;>subst hi
  . exact⟨⟨by decide,b12⟩,r12.symm⟩
  . exact⟨⟨by decide,b2⟩,r2.symm⟩
  . exact⟨⟨by decide,b3⟩,r3.symm⟩
  . exact⟨⟨by decide,b6⟩,r6.symm⟩
  . exact⟨⟨by decide,b10⟩,r10.symm⟩
  . exact⟨⟨by decide,b7⟩,r7.symm⟩
  . exact⟨⟨by decide,b8⟩,r8.symm⟩
  . exact⟨⟨by decide,b9⟩,r9.symm⟩
 have H2:∀a,BW [] [x18,x19,x20] a->mG a=none->(Ay D ⟨x12,x13,x14,AF,x17,AF,AF,x21⟩ [] [x18,x19,x20] (gI n) a).own w m/\(Ay D ⟨x12,x13,x14,AF,x17,AF,AF,x21⟩ [] [x18,x19,x20] (gI n) a).v.ownBlock=none:=by
  intro a ha hn
  match a,ha,hn with
  | .AJ,_,_=>exact⟨Ig _ _ _ _,rfl⟩
  | .sn,_,_=>exact⟨Ig _ _ _ _,rfl⟩
  | .fr,_,_=>exact⟨Ig _ _ _ _,rfl⟩
  | .nt c,ha,_=>exact absurd (show c<0 from ha) (by omega)
  | .rw 0,_,hn=>cases hn
  | .rw 1,_,hn=>cases hn
  | .rw 2,_,hn=>cases hn
  | .rw (p+3),ha,_=>exact absurd (show p+3<3 from ha) (by omega)
 refine⟨HM.Ag.via mG jH H1 H2,rfl,rfl,(HM.work rfl).1,(HM.work rfl).2.1,fun a ha k hk=>?_⟩
 cases e:mG a with
 |none=>rw[(H2 a ha e).2] at hk;cases hk
 |some i=>rw[(H1 a i ha e).2] at hk;exact HM.out rfl i (H1 a i ha e).1 k hk
theorem US (w:World)(v:Value)(AA:List (List Dd))(h:Fw w v AA)(hb:AL AA=true):
  Calls Tryz.prog 56 #[v] w fun e w'=>∃bv nv rv bs N,e = .returned (BV.agg bv)/\BT w' w.heap.size bv nv rv bs N AA (C5 AA)/\w.heap.size<=bs/\AC w w':=by
 obtain⟨u1,u2⟩:=BM hb;have CE:=fun (W:World) (kW:AC w W)=>EN W v AA (h.keep kW) u1 u2
 have e1:AB AA=BB AA AA.length:=by rw[AB,KAP hb]
 have h9:=BO AA;rw[<-e1] at CE;have hok:=AI u2;clear u2;have h0:=h;obtain⟨a0,c0,rfl,-⟩:=h0;have hll:∀i,i<AA.length->(AA.getD i []).length<=1048576:=fun i hi=>by have hq:=hok.out i hi;unfold GQ at hq;rw[KAO,KAN] at hq;omega
 generalize hes:AB AA=es at *;clear e1;go_enter Tryz.func56,Tryz.ntmps56
 go_wp2_with fail
 refine (CE _ ((AC.refl w).alloc _)).mono ?_;rintro e w1 ⟨v1,rfl,o1,k1⟩;have hR0:=DM k1;have K1:=((AC.refl w).alloc _).trans k1;have s1:=IL k1;clear k1 CE;go_wp2_with fail
 refine (Cn _ _ _ o1.rd (by omega)).mono ?_;rintro e w2 ⟨v2,rfl,o2,k2⟩;have hR2:=(KAW k2 w.heap.size s1).trans hR0;have K2:=K1.trans k2;have s2:=k2.size;obtain⟨a2,c2,rfl,-⟩:=o2.rd;generalize hrs:AW Af es=rs at *;have HRS:=AI hrs;clear hrs;go_upto_region 2 with fail
 go_cut [4] from 11 (fun s4 wx=>∃D bv rv bs N,s4 = .pointer (some ⟨D,0,none⟩)/\AU wx w2.heap.size D bv [] rv bs N AA (gI AA.length)/\w2.heap.size<=bs/\AC w2 wx)
 case first=>
  refine Bv (by kernel_rfl) (fun listed a wq=>∃(B:Nat->Bool) (R:Nat->Rw) (bs N D:Nat) (x4 x11 x12 x13 x14 x15 x16 x17 x18 x19 x20 x21 x22:Value),listed=#[B 0,B 1,B 2,B 3,B 4,B 5,B 6,B 7,B 8,B 9,B 10,B 11,B 12,B 13]/\a=⟨#[.slice a0 AA.length c0,undef,.pointer (some ⟨w.heap.size,0,none⟩),.int .i64 (rs.length:Int),x4,undef,undef,.slice a0 AA.length c0,v1,.slice a2 rs.length c2,.int .i64 (rs.length:Int),x11,x12,x13,x14,x15,x16,x17,x18,x19,x20,x21,x22,undef,undef,undef,undef,undef,undef,undef,undef,undef,undef,undef,undef,undef,undef,undef,undef,undef,undef,undef,undef,undef,undef,undef,undef,undef,undef,undef,undef],[]⟩ /\
  Hid (Mk wq w2.heap.size (Dw [2,3,6,7,8,9,10,12] B) R (B 1) x12 bs N AA/\AC w2 wq/\(B 0=true->x11 = .slice a0 AA.length c0)/\(B 1=true->∃a c,x12 = .slice a AA.length c)/\(B 2=true->(∃g,x13 = .slice (some ⟨g,0,none⟩) 3 3)/\R 2=Bk [0,0,0] x13)/\(B 3=true->(∃g,x14 = .slice (some ⟨g,0,none⟩) 3 3)/\R 3=Bk [0,1,2] x14)/\(B 4=true->x15 = .slice a0 AA.length c0)/\(B 5=true->x16 = .int .i64 (AA.length:Int))/\(B 6=true->(∃g,x17 = .slice (some ⟨g,0,none⟩) AA.length AA.length)/\R 6=Bk (List.replicate AA.length 0) x17)/\(B 7=true->(∃g,x18 = .slice (some ⟨g,0,none⟩) 1 1)/\R 7=Bk [0] x18)/\(B 8=true->(∃g,x19 = .slice (some ⟨g,0,none⟩) 1 1)/\R 8=Bk [1] x19)/\(B 9=true->(∃g,x20 = .slice (some ⟨g,0,none⟩) 1 1)/\R 9=Bk [2] x20)/\(B 10=true->(B 7=true/\B 8=true/\B 9=true)/\(∃g,x21 = .slice (some ⟨g,0,none⟩) 3 3)/\R 10=Em 25 [x18,x19,x20] x21)/\(B 11=true->(B 1=true/\B 2=true/\B 3=true/\B 6=true/\B 10=true)/\x22 = .agg #[x12,x13,x14,AF,x17,AF,AF,x21])/\(B 12=true->x4 = .pointer (some ⟨D,0,none⟩)/\(R 12).v = .slice (some ⟨D,0,none⟩) 1 1/\(B 13=false->R 12=⟨103,8,.slice (some ⟨D,0,none⟩) 1 1,1,[AF,AF,AF,AF,AF,AF,AF,AF]⟩))/\(B 13=true->B 11=true/\B 12=true)/\(B 13=true->R 12=Hi D ⟨x12,x13,x14,AF,x17,AF,AF,x21⟩))) ?_ ?_ ?_
  . exact⟨fun _=>false,fun _=>⟨0,0,AF,0,[]⟩,0,0,0,undef,undef,undef,undef,undef,undef,undef,undef,undef,undef,undef,undef,undef,rfl,rfl,AI ⟨Mk.start _ _ _ _ _ _ _ _,(AC.refl w2).drew,(fun q=>by cases q),(fun q=>by cases q),(fun q=>by cases q),(fun q=>by cases q),(fun q=>by cases q),(fun q=>by cases q),(fun q=>by cases q),(fun q=>by cases q),(fun q=>by cases q),(fun q=>by cases q),(fun q=>by cases q),(fun q=>by cases q),(fun q=>by cases q),(fun q=>by cases q),(fun q=>by cases q)⟩⟩
  ·
   rintro listed a w3 ⟨B,R,bs,N,D,x4,x11,x12,x13,x14,x15,x16,x17,x18,x19,x20,x21,x22,rfl,rfl,HJ⟩ i hi;have hlt:=(AE hi).1;have hcs:i=0\/i=1\/i=2\/i=3\/i=4\/i=5\/i=6\/i=7\/i=8\/i=9\/i=10\/i=11\/i=12\/i=13:=by simp at hlt;omega
   rcases hcs with rfl|rfl|rfl|rfl|rfl|rfl|rfl|rfl|rfl|rfl|rfl|rfl|rfl|rfl
   ·
    have hbi:B 0=false:=by simpa using (AE hi).2.1
    have HI:=HJ.out;obtain⟨HM,HK,F0,F1,F2,F3,F4,F5,F6,F7,F8,F9,F10,F11,F12,F13,F14⟩:=HI;have hsz:=HK.size;clear HM HK F0 F1 F2 F3 F4 F5 F6 F7 F8 F9 F10 F11 F12 F13 F14;refine AG rfl rfl (fun K hK=>?_);simp only[KAF,Pe];go_simp;refine hK.out _ _ ?_;obtain⟨HM,HK,F0,F1,F2,F3,F4,F5,F6,F7,F8,F9,F10,F11,F12,F13,F14⟩:=HJ.out;exact⟨AY B 0,R,bs,N,D,_,_,_,_,_,_,_,_,_,_,_,_,_,rfl,rfl,AI ⟨HM.pass (by decide),HK,(fun _=>rfl),F1,F2,F3,F4,F5,F6,F7,F8,F9,F10,F11,F12,F13,F14⟩⟩
   ·
    have hbi:B 1=false:=by simpa using (AE hi).2.1
    have hdp:=(AE hi).2.2 _ rfl;simp[Region.binds] at hdp;have HI:=HJ.out;obtain⟨HM,HK,F0,F1,F2,F3,F4,F5,F6,F7,F8,F9,F10,F11,F12,F13,F14⟩:=HI;have hsz:=HK.size;have Ex:=AI (F0 hdp);rw[Ex.out];clear HM HK F0 F1 F2 F3 F4 F5 F6 F7 F8 F9 F10 F11 F12 F13 F14;refine AG rfl rfl (fun K hK=>?_);simp only[KAF,KAB,Pe];go_simp;refine (Nk _ _ _ (h.keep (K2.trans HJ.out.2.1)) (by omega) hll).mono ?_;rintro e wz ⟨vz,rfl,hx,kk⟩;go_wp2_with fail
    refine hK.out _ _ ?_;obtain⟨HM,HK,F0,F1,F2,F3,F4,F5,F6,F7,F8,F9,F10,F11,F12,F13,F14⟩:=HJ.out;have ex:=Ex.out;subst ex;rw[hbi] at HM;obtain⟨az,cz,ez,-⟩:=id hx;exact⟨AY B 1,R,_,_,D,_,_,_,_,_,_,_,_,_,_,_,_,_,rfl,rfl,AI ⟨HM.copied (by decide) kk hx hsz,HK.trans kk,F0,(fun _=>⟨az,cz,ez⟩),F2,F3,F4,F5,F6,F7,F8,F9,F10,(fun q=>absurd (F11 q).1.1 (by rw[hbi];simp)),F12,F13,(fun q=>absurd (F11 (F13 q).1).1.1 (by rw[hbi];simp))⟩⟩
   ·
    have hbi:B 2=false:=by simpa using (AE hi).2.1
    have HI:=HJ.out;obtain⟨HM,HK,F0,F1,F2,F3,F4,F5,F6,F7,F8,F9,F10,F11,F12,F13,F14⟩:=HI;have hsz:=HK.size;clear HM HK F0 F1 F2 F3 F4 F5 F6 F7 F8 F9 F10 F11 F12 F13 F14;refine AG rfl rfl (fun K hK=>?_);simp only[KAF,KAB,Pe];refine LQ _ _ rfl 3 rfl rfl (by omega) w2.heap.size hsz ?_;intro wz oz kz;simp only[Act.put,KAS,KAa,KAc];refine hK.out _ _ ?_;obtain⟨HM,HK,F0,F1,F2,F3,F4,F5,F6,F7,F8,F9,F10,F11,F12,F13,F14⟩:=HJ.out;exact⟨AY B 2,JR R 2 (Bk [0,0,0] _),bs,N,D,_,_,_,_,_,_,_,_,_,_,_,_,_,rfl,rfl,AI ⟨HM.add hbi kz oz (fun b hb=>GN hb),HK.trans kz,F0,F1,(fun _=>⟨⟨_,rfl⟩,rfl⟩),F3,F4,F5,F6,F7,F8,F9,F10,(fun q=>absurd (F11 q).1.2.1 (by rw[hbi];simp)),F12,F13,(fun q=>absurd (F11 (F13 q).1).1.2.1 (by rw[hbi];simp))⟩⟩
   ·
    have hbi:B 3=false:=by simpa using (AE hi).2.1
    have HI:=HJ.out;obtain⟨HM,HK,F0,F1,F2,F3,F4,F5,F6,F7,F8,F9,F10,F11,F12,F13,F14⟩:=HI;have hsz:=HK.size;clear HM HK F0 F1 F2 F3 F4 F5 F6 F7 F8 F9 F10 F11 F12 F13 F14;refine AG rfl rfl (fun K hK=>?_);simp only[KAF,KAB,Pe];go_simp;refine hK.out _ _ ?_;obtain⟨HM,HK,F0,F1,F2,F3,F4,F5,F6,F7,F8,F9,F10,F11,F12,F13,F14⟩:=HJ.out;exact⟨AY B 3,_,bs,N,D,_,_,_,_,_,_,_,_,_,_,_,_,_,rfl,rfl,AI ⟨HM.add hbi ((AC.refl w3).alloc _) (LC w3 hsz 2 #[.int .i64 0,.int .i64 1,.int .i64 2] (by unfold maxLen;simp)) (fun b hb=>GN hb),HK.alloc _,F0,F1,F2,(fun _=>⟨⟨_,rfl⟩,rfl⟩),F4,F5,F6,F7,F8,F9,F10,(fun q=>absurd (F11 q).1.2.2.1 (by rw[hbi];simp)),F12,F13,(fun q=>absurd (F11 (F13 q).1).1.2.2.1 (by rw[hbi];simp))⟩⟩
   ·
    have hbi:B 4=false:=by simpa using (AE hi).2.1
    have HI:=HJ.out;obtain⟨HM,HK,F0,F1,F2,F3,F4,F5,F6,F7,F8,F9,F10,F11,F12,F13,F14⟩:=HI;have hsz:=HK.size;clear HM HK F0 F1 F2 F3 F4 F5 F6 F7 F8 F9 F10 F11 F12 F13 F14;refine AG rfl rfl (fun K hK=>?_);simp only[KAF,KAB,Pe];go_simp;refine hK.out _ _ ?_;obtain⟨HM,HK,F0,F1,F2,F3,F4,F5,F6,F7,F8,F9,F10,F11,F12,F13,F14⟩:=HJ.out;exact⟨AY B 4,R,bs,N,D,_,_,_,_,_,_,_,_,_,_,_,_,_,rfl,rfl,AI ⟨HM.pass (by decide),HK,F0,F1,F2,F3,(fun _=>rfl),F5,F6,F7,F8,F9,F10,F11,F12,F13,F14⟩⟩
   ·
    have hbi:B 5=false:=by simpa using (AE hi).2.1
    have hdp:=(AE hi).2.2 _ rfl;simp[Region.binds] at hdp;have HI:=HJ.out;obtain⟨HM,HK,F0,F1,F2,F3,F4,F5,F6,F7,F8,F9,F10,F11,F12,F13,F14⟩:=HI;have hsz:=HK.size;have Ex:=AI (F4 hdp);rw[Ex.out];clear HM HK F0 F1 F2 F3 F4 F5 F6 F7 F8 F9 F10 F11 F12 F13 F14;refine AG rfl rfl (fun K hK=>?_);simp only[KAF,KAB,Pe];go_simp;refine hK.out _ _ ?_;obtain⟨HM,HK,F0,F1,F2,F3,F4,F5,F6,F7,F8,F9,F10,F11,F12,F13,F14⟩:=HJ.out;have ex:=Ex.out;subst ex;exact⟨AY B 5,R,bs,N,D,_,_,_,_,_,_,_,_,_,_,_,_,_,rfl,rfl,AI ⟨HM.pass (by decide),HK,F0,F1,F2,F3,F4,(fun _=>rfl),F6,F7,F8,F9,F10,F11,F12,F13,F14⟩⟩
   ·
    have hbi:B 6=false:=by simpa using (AE hi).2.1
    have hdp:=(AE hi).2.2 _ rfl;simp[Region.binds] at hdp;have HI:=HJ.out;obtain⟨HM,HK,F0,F1,F2,F3,F4,F5,F6,F7,F8,F9,F10,F11,F12,F13,F14⟩:=HI;have hsz:=HK.size;have Ex:=AI (F5 hdp);rw[Ex.out];clear HM HK F0 F1 F2 F3 F4 F5 F6 F7 F8 F9 F10 F11 F12 F13 F14;refine AG rfl rfl (fun K hK=>?_);simp only[KAF,KAB,Pe];refine LQ _ _ rfl AA.length rfl rfl (by omega) w2.heap.size hsz ?_;intro wz oz kz;simp only[Act.put,KAS,KAa,KAc];refine hK.out _ _ ?_;obtain⟨HM,HK,F0,F1,F2,F3,F4,F5,F6,F7,F8,F9,F10,F11,F12,F13,F14⟩:=HJ.out;have ex:=Ex.out;subst ex;exact⟨AY B 6,JR R 6 (Bk (List.replicate AA.length 0) _),bs,N,D,_,_,_,_,_,_,_,_,_,_,_,_,_,rfl,rfl,AI ⟨HM.add hbi kz oz (fun b hb=>GN hb),HK.trans kz,F0,F1,F2,F3,F4,F5,(fun _=>⟨⟨_,rfl⟩,rfl⟩),F7,F8,F9,F10,(fun q=>absurd (F11 q).1.2.2.2.1 (by rw[hbi];simp)),F12,F13,(fun q=>absurd (F11 (F13 q).1).1.2.2.2.1 (by rw[hbi];simp))⟩⟩
   ·
    have hbi:B 7=false:=by simpa using (AE hi).2.1
    have HI:=HJ.out;obtain⟨HM,HK,F0,F1,F2,F3,F4,F5,F6,F7,F8,F9,F10,F11,F12,F13,F14⟩:=HI;have hsz:=HK.size;clear HM HK F0 F1 F2 F3 F4 F5 F6 F7 F8 F9 F10 F11 F12 F13 F14;refine AG rfl rfl (fun K hK=>?_);simp only[KAF,KAB,Pe];go_simp;refine hK.out _ _ ?_;obtain⟨HM,HK,F0,F1,F2,F3,F4,F5,F6,F7,F8,F9,F10,F11,F12,F13,F14⟩:=HJ.out;exact⟨AY B 7,_,bs,N,D,_,_,_,_,_,_,_,_,_,_,_,_,_,rfl,rfl,AI ⟨HM.add hbi ((AC.refl w3).alloc _) (LC w3 hsz 2 #[.int .i64 0] (by unfold maxLen;simp)) (fun b hb=>GN hb),HK.alloc _,F0,F1,F2,F3,F4,F5,F6,(fun _=>⟨⟨_,rfl⟩,rfl⟩),F8,F9,(fun q=>absurd (F10 q).1.1 (by rw[hbi];simp)),F11,F12,F13,F14⟩⟩
   ·
    have hbi:B 8=false:=by simpa using (AE hi).2.1
    have HI:=HJ.out;obtain⟨HM,HK,F0,F1,F2,F3,F4,F5,F6,F7,F8,F9,F10,F11,F12,F13,F14⟩:=HI;have hsz:=HK.size;clear HM HK F0 F1 F2 F3 F4 F5 F6 F7 F8 F9 F10 F11 F12 F13 F14;refine AG rfl rfl (fun K hK=>?_);simp only[KAF,KAB,Pe];go_simp;refine hK.out _ _ ?_;obtain⟨HM,HK,F0,F1,F2,F3,F4,F5,F6,F7,F8,F9,F10,F11,F12,F13,F14⟩:=HJ.out;exact⟨AY B 8,_,bs,N,D,_,_,_,_,_,_,_,_,_,_,_,_,_,rfl,rfl,AI ⟨HM.add hbi ((AC.refl w3).alloc _) (LC w3 hsz 2 #[.int .i64 1] (by unfold maxLen;simp)) (fun b hb=>GN hb),HK.alloc _,F0,F1,F2,F3,F4,F5,F6,F7,(fun _=>⟨⟨_,rfl⟩,rfl⟩),F9,(fun q=>absurd (F10 q).1.2.1 (by rw[hbi];simp)),F11,F12,F13,F14⟩⟩
   ·
    have hbi:B 9=false:=by simpa using (AE hi).2.1
    have HI:=HJ.out;obtain⟨HM,HK,F0,F1,F2,F3,F4,F5,F6,F7,F8,F9,F10,F11,F12,F13,F14⟩:=HI;have hsz:=HK.size;clear HM HK F0 F1 F2 F3 F4 F5 F6 F7 F8 F9 F10 F11 F12 F13 F14;refine AG rfl rfl (fun K hK=>?_);simp only[KAF,KAB,Pe];go_simp;refine hK.out _ _ ?_;obtain⟨HM,HK,F0,F1,F2,F3,F4,F5,F6,F7,F8,F9,F10,F11,F12,F13,F14⟩:=HJ.out;exact⟨AY B 9,_,bs,N,D,_,_,_,_,_,_,_,_,_,_,_,_,_,rfl,rfl,AI ⟨HM.add hbi ((AC.refl w3).alloc _) (LC w3 hsz 2 #[.int .i64 2] (by unfold maxLen;simp)) (fun b hb=>GN hb),HK.alloc _,F0,F1,F2,F3,F4,F5,F6,F7,F8,(fun _=>⟨⟨_,rfl⟩,rfl⟩),(fun q=>absurd (F10 q).1.2.2 (by rw[hbi];simp)),F11,F12,F13,F14⟩⟩
   ·
    have hbi:B 10=false:=by simpa using (AE hi).2.1
    have hdp:=(AE hi).2.2 _ rfl;simp[Region.binds] at hdp;have HI:=HJ.out;obtain⟨HM,HK,F0,F1,F2,F3,F4,F5,F6,F7,F8,F9,F10,F11,F12,F13,F14⟩:=HI;have hsz:=HK.size;obtain⟨d7,d8,d9⟩:=hdp;obtain⟨⟨g7,e7⟩,-⟩:=F7 d7;have E7:=AI (e7);rw[E7.out];clear e7;obtain⟨⟨g8,e8⟩,-⟩:=F8 d8;have E8:=AI (e8);rw[E8.out];clear e8;obtain⟨⟨g9,e9⟩,-⟩:=F9 d9;have E9:=AI (e9);rw[E9.out];clear e9;clear HM HK F0 F1 F2 F3 F4 F5 F6 F7 F8 F9 F10 F11 F12 F13 F14;refine AG rfl rfl (fun K hK=>?_);simp only[KAF,KAB,Pe];go_simp;refine hK.out _ _ ?_;obtain⟨HM,HK,F0,F1,F2,F3,F4,F5,F6,F7,F8,F9,F10,F11,F12,F13,F14⟩:=HJ.out;have e7:=E7.out;subst e7;have e8:=E8.out;subst e8;have e9:=E9.out;subst e9;exact⟨AY B 10,_,bs,N,D,_,_,_,_,_,_,_,_,_,_,_,_,_,rfl,rfl,AI ⟨HM.add hbi ((AC.refl w3).alloc _) (LC w3 hsz 25 #[.slice (some ⟨g7,0,none⟩) 1 1,.slice (some ⟨g8,0,none⟩) 1 1,.slice (some ⟨g9,0,none⟩) 1 1] (by unfold maxLen;simp)) (fun b hb=>GN hb),HK.alloc _,F0,F1,F2,F3,F4,F5,F6,F7,F8,F9,(fun _=>⟨⟨d7,d8,d9⟩,⟨_,rfl⟩,rfl⟩),(fun q=>absurd (F11 q).1.2.2.2.2 (by rw[hbi];simp)),F12,F13,(fun q=>absurd (F11 (F13 q).1).1.2.2.2.2 (by rw[hbi];simp))⟩⟩
   ·
    have hbi:B 11=false:=by simpa using (AE hi).2.1
    have hdp:=(AE hi).2.2 _ rfl;simp[Region.binds] at hdp;have HI:=HJ.out;obtain⟨HM,HK,F0,F1,F2,F3,F4,F5,F6,F7,F8,F9,F10,F11,F12,F13,F14⟩:=HI;have hsz:=HK.size;obtain⟨d1,d2,d3,d6,d10⟩:=hdp;obtain⟨a1,c1,e1⟩:=F1 d1;have E1:=AI (e1);rw[E1.out];clear e1;obtain⟨⟨g2,e2⟩,-⟩:=F2 d2;have E2:=AI (e2);rw[E2.out];clear e2;obtain⟨⟨g3,e3⟩,-⟩:=F3 d3;have E3:=AI (e3);rw[E3.out];clear e3;obtain⟨⟨g6,e6⟩,-⟩:=F6 d6;have E6:=AI (e6);rw[E6.out];clear e6;obtain⟨-,⟨g10,e10⟩,-⟩:=F10 d10;have E10:=AI (e10);rw[E10.out];clear e10;clear HM HK F0 F1 F2 F3 F4 F5 F6 F7 F8 F9 F10 F11 F12 F13 F14;refine AG rfl rfl (fun K hK=>?_);simp only[KAF,KAB,Pe];go_simp;refine hK.out _ _ ?_;obtain⟨HM,HK,F0,F1,F2,F3,F4,F5,F6,F7,F8,F9,F10,F11,F12,F13,F14⟩:=HJ.out;have e1:=E1.out;subst e1;have e2:=E2.out;subst e2;have e3:=E3.out;subst e3;have e6:=E6.out;subst e6;have e10:=E10.out;subst e10;exact⟨AY B 11,R,bs,N,D,_,_,_,_,_,_,_,_,_,_,_,_,_,rfl,rfl,AI ⟨HM.pass (by decide),HK,F0,F1,F2,F3,F4,F5,F6,F7,F8,F9,F10,(fun _=>⟨⟨d1,d2,d3,d6,d10⟩,rfl⟩),F12,(fun q=>absurd (F13 q).1 (by rw[hbi];simp)),F14⟩⟩
   ·
    have hbi:B 12=false:=by simpa using (AE hi).2.1
    have HI:=HJ.out;obtain⟨HM,HK,F0,F1,F2,F3,F4,F5,F6,F7,F8,F9,F10,F11,F12,F13,F14⟩:=HI;have hsz:=HK.size;clear HM HK F0 F1 F2 F3 F4 F5 F6 F7 F8 F9 F10 F11 F12 F13 F14;refine AG rfl rfl (fun K hK=>?_);simp only[KAF,KAB,Pe];go_simp;refine hK.out _ _ ?_;obtain⟨HM,HK,F0,F1,F2,F3,F4,F5,F6,F7,F8,F9,F10,F11,F12,F13,F14⟩:=HJ.out;exact⟨AY B 12,_,bs,N,w3.heap.size,_,_,_,_,_,_,_,_,_,_,_,_,_,rfl,rfl,AI ⟨HM.add hbi ((AC.refl w3).alloc _) (VD w3 hsz) (fun b hb=>GN hb),HK.alloc _,F0,F1,F2,F3,F4,F5,F6,F7,F8,F9,F10,F11,(fun _=>⟨rfl,rfl,fun _=>rfl⟩),(fun q=>absurd (F13 q).2 (by rw[hbi];simp)),(fun q=>absurd (F13 q).2 (by rw[hbi];simp))⟩⟩
   ·
    have hbi:B 13=false:=by simpa using (AE hi).2.1
    have hdp:=(AE hi).2.2 _ rfl;simp[Region.binds] at hdp;have HI:=HJ.out;obtain⟨HM,HK,F0,F1,F2,F3,F4,F5,F6,F7,F8,F9,F10,F11,F12,F13,F14⟩:=HI;have hsz:=HK.size;have d11:B 11=true:=by exact hdp.2.1
    have d12:B 12=true:=by exact hdp.1
    obtain⟨⟨d1,d2,d3,d6,d10⟩,e22⟩:=F11 d11;obtain⟨e4,er,ez⟩:=F12 d12;have o12:=HM.Ag.own 12 ⟨by decide,d12⟩;rw[ez hbi] at o12;obtain⟨⟨old,hz,hos⟩,ho⟩:=VE o12 (v:=⟨x12,x13,x14,AF,x17,AF,AF,x21⟩);obtain⟨a1,c1,e1⟩:=F1 d1;obtain⟨⟨g2,e2⟩,-⟩:=F2 d2;obtain⟨⟨g3,e3⟩,-⟩:=F3 d3;obtain⟨⟨g6,e6⟩,-⟩:=F6 d6;obtain⟨-,⟨g10,e10⟩,-⟩:=F10 d10;have hone:(BV.arr ⟨x12,x13,x14,AF,x17,AF,AF,x21⟩).all (·.oneCell')=true:=by rw[e1,e2,e3,e6,e10];simp[Value.oneCell']
    clear e1 e2 e3 e6 e10;have Ep:=AI (e22);rw[Ep.out];have Eq:=AI (e4);rw[Eq.out];clear e22 e4;clear HM HK F0 F1 F2 F3 F4 F5 F6 F7 F8 F9 F10 F11 F12 F13 F14;refine AG rfl rfl (fun K hK=>?_);simp only[KAF,KAB,Pe];refine wp_store_row 103 _ _ rfl D _ rfl rfl 103 old hz AR hos hone ?_;refine hK.out _ _ ?_;obtain⟨HM,HK,F0,F1,F2,F3,F4,F5,F6,F7,F8,F9,F10,F11,F12,F13,F14⟩:=HJ.out;have ep:=Ep.out;subst ep;have eq:=Eq.out;subst eq;exact⟨AY B 13,_,bs,N,D,_,_,_,_,_,_,_,_,_,_,_,_,_,rfl,rfl,AI ⟨HM.turn (by decide) ⟨by decide,d12⟩ (r:=Hi D ⟨x12,x13,x14,AF,x17,AF,AF,x21⟩) (by rw[er];exact As _ _ _) (by rw[er]) ho,HK.grown (As _ D _) (fun b hb=>by have:=(HM.Ag.lt ⟨by decide,d12⟩ D (by rw[er];rfl)).1;have:=KAI hb;omega),F0,F1,F2,F3,F4,F5,F6,F7,F8,F9,F10,F11,(fun _=>⟨rfl,rfl,fun q=>by cases q⟩),(fun _=>⟨d11,d12⟩),(fun _=>rfl)⟩⟩
  ·
   rintro listed a w3 ⟨B,R,bs,N,D,x4,x11,x12,x13,x14,x15,x16,x17,x18,x19,x20,x21,x22,rfl,rfl,HJ⟩ hr;have b0:B 0=true:=by simpa using Bi hr 0 _ rfl (by simp[Region.binds])
   have b1:B 1=true:=by simpa using Bi hr 1 _ rfl (by simp[Region.binds,b0])
   have b2:B 2=true:=by simpa using Bi hr 2 _ rfl (by simp[Region.binds])
   have b3:B 3=true:=by simpa using Bi hr 3 _ rfl (by simp[Region.binds])
   have b4:B 4=true:=by simpa using Bi hr 4 _ rfl (by simp[Region.binds])
   have b5:B 5=true:=by simpa using Bi hr 5 _ rfl (by simp[Region.binds,b4])
   have b6:B 6=true:=by simpa using Bi hr 6 _ rfl (by simp[Region.binds,b5])
   have b7:B 7=true:=by simpa using Bi hr 7 _ rfl (by simp[Region.binds])
   have b8:B 8=true:=by simpa using Bi hr 8 _ rfl (by simp[Region.binds])
   have b9:B 9=true:=by simpa using Bi hr 9 _ rfl (by simp[Region.binds])
   have b10:B 10=true:=by simpa using Bi hr 10 _ rfl (by simp[Region.binds,b7,b8,b9])
   have b11:B 11=true:=by simpa using Bi hr 11 _ rfl (by simp[Region.binds,b1,b2,b3,b6,b10])
   have b12:B 12=true:=by simpa using Bi hr 12 _ rfl (by simp[Region.binds])
   have b13:B 13=true:=by simpa using Bi hr 13 _ rfl (by simp[Region.binds,b0,b1,b2,b3,b4,b5,b6,b7,b8,b9,b10,b11,b12])
   obtain⟨HM,HK,F0,F1,F2,F3,F4,F5,F6,F7,F8,F9,F10,F11,F12,F13,F14⟩:=HJ.out;clear HJ hr;have HB:=qD (n:=AA.length) (by rw[b1] at HM;exact HM) b2 b3 b6 b7 b8 b9 b10 b12 (F2 b2).2 (F3 b3).2 (F6 b6).2 (F7 b7).2 (F8 b8).2 (F9 b9).2 (F10 b10).2.2 (F14 b13);have HW:=((by rw[b1] at HM;exact HM):Mk w3 w2.heap.size _ R true x12 bs N AA).work rfl;have e4:=(F12 b12).1;clear HM F0 F1 F2 F3 F4 F5 F6 F7 F8 F9 F10 F11 F12 F13 F14;subst e4;go_wp2;go_meet;case rel=>exact⟨D,_,_,bs,N,rfl,HB,HW.2.2,HK⟩
 case rest=>
  obtain⟨D,bv,rv,bs,N,rfl,H,hbs,kc⟩:=hcut;have hRc:=(KAW kc w.heap.size (by omega)).trans hR2;obtain⟨j0,hj,hy0,hy1,hy2⟩:=KA3 Tryz.Ql;obtain⟨i0,hi,hz0,hz1,hz2⟩:=KA3 Tryz.FM
  have rs12:rs.length<=12:=by
   rw[<-HRS.out];unfold AW;rw[KAP (by omega)];have:=E0 Af es es.length;omega
  go_wp2;go_loopw [5] (fun i wr=>∃(k:Nat) (bv':BV) (nv':List Value),k<=AA.length/\i = .int .i64 k/\AU wr w2.heap.size D bv' nv' rv bs N AA { gI AA.length with AJ:=List.replicate k [] }/\AC w2 wr) (fun i _=>AA.length-(intOf i).toNat)
  case atStart=>exact⟨0,bv,[],KAb _,rfl,H,kc⟩
  case round=>
   obtain⟨k,bv',nv',hk,rfl,Hr,kr⟩:=hrel;clear H kc hRc;by_cases hlt:k<AA.length
   ·
    obtain⟨aN,cN',eN,-⟩:=Hr.hN;simp only[KBZ] at eN;have d3:=Hr.cells.2.2.2.1;have hln:nv'.length=k:=by have:=Hr.ln;simpa using this
    have HR0:wr.ownsRow w2.heap.size 151 1 (.slice aN k cN') k nv':=by
     have o:wr.ownsRow w2.heap.size 151 1 bv'.N nv'.length nv':=Hr.Ag.own .AJ trivial;rw[eN,hln] at o;exact o
    rw[eN] at d3;have hbase:=Hr.base;have sr:=kr.size;have oA:B5 cN 155 3 (wr.alloc (.cells #[] 155)) w2.heap.size (.slice (some ⟨wr.heap.size,0,none⟩) 0 0) []:=KAo wr #[] 0 sr (by decide) rfl;have kA:AC wr (wr.alloc (.cells #[] 155)):=(AC.refl wr).alloc _;have kA2:AC (wr.alloc (.cells #[] 155)) ((wr.alloc (.cells #[] 155)).alloc (.cells #[.slice (some ⟨wr.heap.size,0,none⟩) 0 0] 151)):=(AC.refl _).alloc _;have kB:=kA.trans kA2;have oB:B5 cN 155 3 ((wr.alloc (.cells #[] 155)).alloc (.cells #[.slice (some ⟨wr.heap.size,0,none⟩) 0 0] 151)) w2.heap.size (.slice (some ⟨wr.heap.size,0,none⟩) 0 0) []:=KAs oA kA2.grownBy (.inr (by simp[Value.ownBlock]));have HR:=KAs HR0 kB.grownBy (by cases (Value.slice aN k cN').ownBlock<;>simp);have HH:=AI Hr;have HoB:=AI oB;have HkB:=AI kB;have lK:=AI eN;have lM:=AI hln;have fD:=Hr.free 3;have dB:((wr.alloc (.cells #[] 155)).alloc (.cells #[.slice (some ⟨wr.heap.size,0,none⟩) 0 0] 151)).heap.size=wr.heap.size+1+1:=by rw[AD,AD]
    have HdB:=AI dB;clear Hr oA kA kA2 kB oB HR0 eN hln dB;go_wp2_with (at_builtin;refine KAe _ rfl _ _ 101 rfl w2.heap.size 151 j0 (.slice none 0 0) 1 24 Tryz.underlying101 hj hy0 hy1 hy2 rfl (by decide) _ _ _ rfl HR ⟨_,0,none⟩ 1 1 [.slice (some ⟨wr.heap.size,0,none⟩) 0 0] rfl rfl ?e1 ?e2 ?e3 ?e4 ?e5 ?_)
    case e2=>rfl
    case e3=>unfold maxLen;omega
    case e4=>omega
    case e5=>omega
    intro v' w7 hown7 hgrow7 _ hblk7
    have ho7:(Em 151 (nv'++[Value.slice (some ⟨wr.heap.size,0,none⟩) 0 0]) v').own w7 w2.heap.size:=by
     show w7.ownsRow w2.heap.size 151 1 v' (nv'++[Value.slice (some ⟨wr.heap.size,0,none⟩) 0 0]).length (nv'++[Value.slice (some ⟨wr.heap.size,0,none⟩) 0 0]);rw[KAJ,lM.out];exact hown7
    obtain⟨H8,c8,f8⟩:=HH.out.TC HkB.out (fun q hq=>GN hq) HoB.out (by rw[lK.out];exact hgrow7) (by rw[lK.out];rcases hblk7 with e|e;exact .inl e;exact .inr (.inl (by rw[HdB.out];exact e))) ho7;have K7:AC w2 w7:=(kr.trans HkB.out).grown hgrow7 (fun q hq=>(KAY HR q hq).1);have K8:AC w2 (w7.setCell ⟨D,3,none⟩ v'):=K7.grown (Ad w7 D 3 v') (fun q hq=>by have:=KAI hq;omega);obtain⟨a8,c8',e8,-⟩:=Bu ho7
    have H9:AU (w7.setCell ⟨D,3,none⟩ v') w2.heap.size D { bv' with N:=v' } (nv'++[Value.slice (some ⟨wr.heap.size,0,none⟩) 0 0]) rv bs N AA { gI AA.length with AJ:=List.replicate (k+1) [] }:=by
     rw[KCE];exact H8
    have HH9:=AI H9;have HK8:=AI K8;clear H8 H9 K8 K7 hown7 hgrow7 hblk7 HR ho7 fD;replace e8:v' = .slice a8 (k+1) c8':=by rw[e8,KAJ,lM.out];rfl
    subst e8;go_wp2;go_roundw;case rel=>exact⟨k+1,_,_,by omega,by go_num,HH9.out,HK8.out⟩
    case measure=>simp[intOf];omega
   ·
    obtain rfl:k=AA.length:=by omega
    clear hlt hk;go_wp2;go_loopw [6] (fun i wq=>∃(k:Nat) (bv':BV),k<=rs.length/\i = .int .i64 k/\AU wq w2.heap.size D bv' nv' rv bs N AA { gI AA.length with AJ:=List.replicate AA.length [],sn:=List.replicate k (-1),fr:=List.replicate k (-1) }/\AC w2 wq) (fun i _=>rs.length-(intOf i).toNat)
    case atStart=>exact⟨0,bv',KAb _,rfl,Hr,kr⟩
    case round=>
     clear Hr kr;obtain⟨k,bv',hk,rfl,Hr,kr⟩:=hrel;by_cases hlt:k<rs.length
     ·
      have oS:=Hr.oS;obtain⟨aS,cS,eS,-⟩:=oS.rd;simp only[KBZ] at eS;have d5:=Hr.cells.2.2.2.2.2.1;have d6:=Hr.cells.2.2.2.2.2.2.1;have oF:=Hr.oF;obtain⟨aF,cF,eF,-⟩:=oF.rd;simp only[KBZ] at eF;have f5:=Hr.free 5;have hbase:=Hr.base;have sr:=kr.size
      have HS0:wr.ownsRow w2.heap.size 2 1 (.slice aS k cS) k ((List.replicate k (-1:Int)).map (Value.int .i64)):=by
       have o:wr.ownsRow w2.heap.size 2 1 bv'.S (List.replicate k (-1:Int)).length ((List.replicate k (-1:Int)).map (Value.int .i64)):=oS;rw[eS,KBZ] at o;exact o
      have kA:AC wr (wr.alloc (.cells #[.int .i64 (-1)] 2)):=(AC.refl wr).alloc _;have HS:=KAs HS0 kA.grownBy (by cases (Value.slice aS k cS).ownBlock<;>simp);rw[eS] at d5;have HH:=AI Hr;have nQ:=AI kA;have zH:=AI eS;have xh:=AI eF;clear Hr kA HS0 eS eF oS oF d6;go_wp2_with (at_builtin;refine KAe _ rfl _ _ 25 rfl w2.heap.size 2 i0 (.int .i64 0) 1 8 Tryz.underlying25 hi hz0 hz1 hz2 rfl (by decide) _ _ _ rfl HS ⟨_,0,none⟩ 1 1 [.int .i64 (-1)] rfl rfl ?b1 ?b2 ?b3 ?b4 ?b5 ?_)
      case b2=>rfl
      case b3=>unfold maxLen;omega
      case b4=>omega
      case b5=>omega
      intro v' w7 hown7 hgrow7 _ hblk7
      have ho7:A8 w7 w2.heap.size v' (List.replicate (k+1) (-1)):=by
       unfold A8;rw[KCE]
       simpa using hown7
      have kw:AU (wr.alloc (.cells #[.int .i64 (-1)] 2)) w2.heap.size D bv' nv' rv bs N AA _:=HH.out.keep nQ.out;obtain⟨H8,c8,f8⟩:=kw.VY (by rw[zH.out];exact hgrow7) (by rw[zH.out];rcases hblk7 with e|e;exact .inl e;exact .inr (.inl (by rw[AD];exact e))) ho7;have K7:AC w2 w7:=(kr.trans nQ.out).grown hgrow7 (fun q hq=>(KAY HS q hq).1);have K8:AC w2 (w7.setCell ⟨D,5,none⟩ v'):=K7.grown (Ad w7 D 5 v') (fun q hq=>by have:=KAI hq;omega);obtain⟨a8,c8',e8,-⟩:=ho7.rd;rw[KBZ] at e8;clear hown7 hgrow7 hblk7 HS ho7 f5 d5 HH nQ kw zH kr K7;subst e8;obtain⟨wS,hwS⟩:∃W:World,W=w7.setCell ⟨D,5,none⟩ (.slice a8 (k+1) c8'):=⟨_,rfl⟩;rw[<-hwS] at H8 K8;have HwS:=AI hwS;clear hwS;have d6:=H8.cells.2.2.2.2.2.2.1;have f6:=H8.free 6;have oF:=H8.oF
      have HF0:wS.ownsRow w2.heap.size 2 1 (.slice aF k cF) k ((List.replicate k (-1:Int)).map (Value.int .i64)):=by
       have o:wS.ownsRow w2.heap.size 2 1 bv'.F (List.replicate k (-1:Int)).length ((List.replicate k (-1:Int)).map (Value.int .i64)):=oF;rw[xh.out,KBZ] at o;exact o
      have kA:AC wS (wS.alloc (.cells #[.int .i64 (-1)] 2)):=(AC.refl wS).alloc _;have HF:=KAs HF0 kA.grownBy (by cases (Value.slice aF k cF).ownBlock<;>simp);have sr:=K8.size;simp only[xh.out] at d6;have HH:=AI H8;have nQ:=AI kA;clear H8 kA HF0 oF;go_upto_region 11 with fail
      rw[<-HwS.out];clear c8 f8 HwS;go_wp2_with (at_builtin;refine KAe _ rfl _ _ 25 rfl w2.heap.size 2 i0 (.int .i64 0) 1 8 Tryz.underlying25 hi hz0 hz1 hz2 rfl (by decide) _ _ _ rfl HF ⟨_,0,none⟩ 1 1 [.int .i64 (-1)] rfl rfl ?g1 ?g2 ?g3 ?g4 ?g5 ?_)
      case g2=>rfl
      case g3=>unfold maxLen;omega
      case g4=>omega
      case g5=>omega
      intro v9 w9 hown9 hgrow9 _ hblk9
      have ho9:A8 w9 w2.heap.size v9 (List.replicate (k+1) (-1)):=by
       unfold A8;rw[KCE]
       simpa using hown9
      have kw:AU (wS.alloc (.cells #[.int .i64 (-1)] 2)) w2.heap.size D _ nv' rv bs N AA _:=HH.out.keep nQ.out;obtain⟨H9,c9,f9⟩:=kw.VX (by simp only[xh.out];exact hgrow9) (by simp only[xh.out];rcases hblk9 with e|e;exact .inl e;exact .inr (.inl (by rw[AD];exact e))) ho9;have K9:AC w2 w9:=(K8.trans nQ.out).grown hgrow9 (fun q hq=>(KAY HF q hq).1);have K10:AC w2 (w9.setCell ⟨D,6,none⟩ v9):=K9.grown (Ad w9 D 6 v9) (fun q hq=>by have:=KAI hq;omega);obtain⟨a9,c9',e9,-⟩:=ho9.rd;rw[KBZ] at e9;have HH9:=AI H9;have HK9:=AI K10;clear hown9 hgrow9 hblk9 HF ho9 f6 d6 HH nQ kw K9 K10 H9;subst e9;go_wp2;go_roundw;case rel=>exact⟨k+1,_,by omega,by go_num,HH9.out,HK9.out⟩
      case measure=>simp[intOf];omega
     ·
      obtain rfl:k=rs.length:=by omega
      have mH:=(KAW kr w.heap.size (by omega)).trans hR2;have xY:Hid (C5 AA={ gI AA.length with AJ:=List.replicate AA.length [],sn:=List.replicate rs.length (-1),fr:=List.replicate rs.length (-1) }):=AI (by unfold C5 gI;rw[hes,HRS.out]);have Hn:AU wr w2.heap.size D bv' nv' rv bs N AA (C5 AA):=by rw[xY.out];exact Hr
      have hM:w2.heap.size<=bs:=hbs;clear Hr xY hk;generalize hNM:C5 AA=nb at *;have xY:=AI hNM;clear hNM;have JU:=Hn.MA;obtain⟨aW,aP,aL,aN,aX,aT,aF,aR,cW,cP,cL,cN',cX,cT,cF,cR,rfl⟩:=Hn.rd.shapes;simp only[BV.arr] at JU;have HK:=AI (K2.trans kr);have HG:=AI (As wr w.heap.size #[.slice aW AA.length cW,.slice aP nb.AM.length cP,.slice aL nb.AQ.length cL,.slice aN nb.AJ.length cN',.slice aX nb.AK.length cX,.slice aT nb.sn.length cT,.slice aF nb.fr.length cF,.slice aR nb.rws.length cR]);have HZ:=AI (KBs wr w.heap.size _ #[.slice aW AA.length cW,.slice aP nb.AM.length cP,.slice aL nb.AQ.length cL,.slice aN nb.AJ.length cN',.slice aX nb.AK.length cX,.slice aT nb.sn.length cT,.slice aF nb.fr.length cF,.slice aR nb.rws.length cR] _ _ mH);have pK:∀q,some w.heap.size=some q->q<w2.heap.size/\(q<bs\/N<=q):=fun q hq=>by have:=KAI hq;omega
      have HO:=AI (((Hn.far HG.out pK).val).BK (show w.heap.size<=w2.heap.size by omega));go_wp2_with (first|refine KAr rfl 103 _ rfl D rfl 103 _ (0,0) _ JU Tryz.underlying103 rfl AR ?_|refine wpList_store_row rfl 103 _ _ rfl w.heap.size _ rfl rfl 103 _ mH AR rfl (by simp[Value.oneCell']) ?_)
      refine KA7 (Aw (by rfl) _ _ w.heap.size _ _ (0,0) _ rfl HZ.out Tryz.underlying103 rfl AR) rfl ?_;exact⟨⟨.slice aW AA.length cW,.slice aP nb.AM.length cP,.slice aL nb.AQ.length cL,.slice aN nb.AJ.length cN',.slice aX nb.AK.length cX,.slice aT nb.sn.length cT,.slice aF nb.fr.length cF,.slice aR nb.rws.length cR⟩,nv',rv,bs,N,rfl,by rw[xY.out];exact HO.out,by omega,HK.out.grown HG.out (fun q hq=>by have:=KAI hq;omega)⟩
end Go.Proofs.YtflehmepjhikcaaGreatDoor
