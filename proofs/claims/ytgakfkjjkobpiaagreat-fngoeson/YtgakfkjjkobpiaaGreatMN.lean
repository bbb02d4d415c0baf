/- Gathered texts. -/
import Derived.Test.YtgakfkjjkobpiaaGreatML
import Derived.Deep.Cut
import Derived.Laws.Tables
import Derived.Outline
import Derived.RegionTactic
import Derived.Deep.QuietTactic
import Derived.BigQuiet
import Derived.Lib.Hide
set_option maxRecDepth 100000
set_option maxHeartbeats 8000000
namespace Go.Proofs.YtgakfkjjkobpiaaGreat
open Go.ChangeShapes Go.WideShapes Go.ChangeAt Go.RowKit
def Xt (n:Nat):Bd:={ AM:=[0,0,0],AQ:=[0,1,2],AH:=[],AL:=List.replicate n 0,sn:=[],fr:=[],rws:=[[0],[1],[2]] }
def Zw:BI->Option Nat
 | .bd=>some 12
 | .AM=>some 2
 | .AQ=>some 3
 | .AL=>some 6
 | .rws=>some 10
 | .rw 0=>some 7
 | .rw 1=>some 8
 | .rw 2=>some 9
 |_=>none
theorem Yu:∀a b i,Zw a=some i->Zw b=some i->a=b:=by
 intro a b i h1 h2;unfold Zw at h1 h2;split at h1<;>split at h2<;>first|rfl|(simp only[Option.some.injEq] at h1 h2;omega)|(cases h2;done)|(cases h1;done)
theorem fZ {w:World}{m D bs N:Nat}{B:Nat->Bool}{R:Nat->Rw}{AA:List (List Dd)}{n:Nat}{x12 x13 x14 x17 x18 x19 x20 x21:Value}(HM:Mk w m (Cq [2,3,6,7,8,9,10,12] B) R true x12 bs N AA)
  (b2:B 2=true) (b3:B 3=true) (b6:B 6=true) (b7:B 7=true) (b8:B 8=true) (b9:B 9=true) (b10:B 10=true) (b12:B 12=true)
  (r2:R 2=Bp [0,0,0] x13) (r3:R 3=Bp [0,1,2] x14) (r6:R 6=Bp (List.replicate n 0) x17) (r7:R 7=Bp [0] x18) (r8:R 8=Bp [1] x19) (r9:R 9=Bp [2] x20) (r10:R 10=EH 26 [x18,x19,x20] x21)
  (r12:R 12=Gs D ⟨x12,x13,x14,AE,x17,AE,AE,x21⟩):AR w m D ⟨x12,x13,x14,AE,x17,AE,AE,x21⟩ [] [x18,x19,x20] bs N AA (Xt n):=by
 have H1:∀a i,BN [] [x18,x19,x20] a->Zw a=some i->Cq [2,3,6,7,8,9,10,12] B i/\Ax D ⟨x12,x13,x14,AE,x17,AE,AE,x21⟩ [] [x18,x19,x20] (Xt n) a=R i:=by
  intro a i _ hi;unfold Zw at hi;split at hi<;>simp at hi<;>subst hi
  . exact⟨⟨by decide,b12⟩,r12.symm⟩
  . exact⟨⟨by decide,b2⟩,r2.symm⟩
  . exact⟨⟨by decide,b3⟩,r3.symm⟩
  . exact⟨⟨by decide,b6⟩,r6.symm⟩
  . exact⟨⟨by decide,b10⟩,r10.symm⟩
  . exact⟨⟨by decide,b7⟩,r7.symm⟩
  . exact⟨⟨by decide,b8⟩,r8.symm⟩
  . exact⟨⟨by decide,b9⟩,r9.symm⟩
 have H2:∀a,BN [] [x18,x19,x20] a->Zw a=none->(Ax D ⟨x12,x13,x14,AE,x17,AE,AE,x21⟩ [] [x18,x19,x20] (Xt n) a).own w m/\(Ax D ⟨x12,x13,x14,AE,x17,AE,AE,x21⟩ [] [x18,x19,x20] (Xt n) a).v.ownBlock=none:=by
  intro a ha hn
  match a,ha,hn with
  | .AH,_,_=>exact⟨Ho _ _ _ _,rfl⟩
  | .sn,_,_=>exact⟨Ho _ _ _ _,rfl⟩
  | .fr,_,_=>exact⟨Ho _ _ _ _,rfl⟩
  | .nt c,ha,_=>exact absurd (show c<0 from ha) (by omega)
  | .rw 0,_,hn=>cases hn
  | .rw 1,_,hn=>cases hn
  | .rw 2,_,hn=>cases hn
  | .rw (p+3),ha,_=>exact absurd (show p+3<3 from ha) (by omega)
 refine⟨HM.Al.via Zw Yu H1 H2,rfl,rfl,(HM.work rfl).1,(HM.work rfl).2.1,fun a ha k hk=>?_⟩
 cases e:Zw a with
 |none=>rw[(H2 a ha e).2] at hk;cases hk
 |some i=>rw[(H1 a i ha e).2] at hk;exact HM.out rfl i (H1 a i ha e).1 k hk
theorem Iv (w:World)(v:Value)(AA:List (List Dd))(h:Ic w v AA)(hb:AW AA=true):
  Calls Tryz.prog 47 #[v] w fun e w'=>∃bv nv rv bs N,e = .returned (BV.agg bv)/\BA w' w.heap.size bv nv rv bs N AA (Bq AA)/\w.heap.size<=bs/\AC w w':=by
 obtain⟨u1,u2⟩:=As hb;have CE:=fun (W:World) (kW:AC w W)=>GZ W v AA (h.keep kW) u1 u2
 have e1:AB AA=Az AA AA.length:=by rw[AB,if_pos hb]
 have h9:=Di AA;rw[<-e1] at CE;have hok:=Lib.hid u2;clear u2;have h0:=h;obtain⟨a0,c0,rfl,-⟩:=h0;have hll:∀i,i<AA.length->(AA.getD i []).length<=1048576:=fun i hi=>by have hq:=hok.out i hi;unfold Ft at hq;rw[Bool.and_eq_true,decide_eq_true_eq] at hq;omega
 generalize hes:AB AA=es at *;clear e1;go_enter Tryz.func47,Tryz.ntmps47
 go_wp2_with fail
 refine (CE _ ((AC.refl w).alloc _)).mono ?_;rintro e w1 ⟨v1,rfl,o1,k1⟩;have hR0:=Ce k1;have K1:=((AC.refl w).alloc _).trans k1;have s1:=Fy k1;clear k1 CE;go_wp2_with fail
 refine (Ec _ _ _ o1.rd (by omega)).mono ?_;rintro e w2 ⟨v2,rfl,o2,k2⟩;have hR2:=(Below.block k2 w.heap.size s1).trans hR0;have K2:=K1.trans k2;have s2:=k2.size;obtain⟨a2,c2,rfl,-⟩:=o2.rd;generalize hrs:AX Aj es=rs at *;have wL:=Lib.hid hrs;clear hrs;go_upto_region 2 with fail
 go_cut [4] from 11 (fun s4 wx=>∃D bv rv bs N,s4 = .pointer (some ⟨D,0,none⟩)/\AR wx w2.heap.size D bv [] rv bs N AA (Xt AA.length)/\w2.heap.size<=bs/\AC w2 wx)
 case first=>
  refine Bk (by kernel_rfl) (fun listed a wq=>∃(B:Nat->Bool) (R:Nat->Rw) (bs N D:Nat) (x4 x11 x12 x13 x14 x15 x16 x17 x18 x19 x20 x21 x22:Value),listed=#[B 0,B 1,B 2,B 3,B 4,B 5,B 6,B 7,B 8,B 9,B 10,B 11,B 12,B 13]/\a=⟨#[.slice a0 AA.length c0,undef,.pointer (some ⟨w.heap.size,0,none⟩),.int .i64 (rs.length:Int),x4,undef,undef,.slice a0 AA.length c0,v1,.slice a2 rs.length c2,.int .i64 (rs.length:Int),x11,x12,x13,x14,x15,x16,x17,x18,x19,x20,x21,x22,undef,undef,undef,undef,undef,undef,undef,undef,undef,undef,undef,undef,undef,undef,undef,undef,undef,undef,undef,undef,undef,undef,undef,undef,undef,undef,undef,undef],[]⟩ /\
  Hid (Mk wq w2.heap.size (Cq [2,3,6,7,8,9,10,12] B) R (B 1) x12 bs N AA/\AC w2 wq/\(B 0=true->x11 = .slice a0 AA.length c0)/\(B 1=true->∃a c,x12 = .slice a AA.length c)/\(B 2=true->(∃g,x13 = .slice (some ⟨g,0,none⟩) 3 3)/\R 2=Bp [0,0,0] x13)/\(B 3=true->(∃g,x14 = .slice (some ⟨g,0,none⟩) 3 3)/\R 3=Bp [0,1,2] x14)/\(B 4=true->x15 = .slice a0 AA.length c0)/\(B 5=true->x16 = .int .i64 (AA.length:Int))/\(B 6=true->(∃g,x17 = .slice (some ⟨g,0,none⟩) AA.length AA.length)/\R 6=Bp (List.replicate AA.length 0) x17)/\(B 7=true->(∃g,x18 = .slice (some ⟨g,0,none⟩) 1 1)/\R 7=Bp [0] x18)/\(B 8=true->(∃g,x19 = .slice (some ⟨g,0,none⟩) 1 1)/\R 8=Bp [1] x19)/\(B 9=true->(∃g,x20 = .slice (some ⟨g,0,none⟩) 1 1)/\R 9=Bp [2] x20)/\(B 10=true->(B 7=true/\B 8=true/\B 9=true)/\(∃g,x21 = .slice (some ⟨g,0,none⟩) 3 3)/\R 10=EH 26 [x18,x19,x20] x21)/\(B 11=true->(B 1=true/\B 2=true/\B 3=true/\B 6=true/\B 10=true)/\x22 = .agg #[x12,x13,x14,AE,x17,AE,AE,x21])/\(B 12=true->x4 = .pointer (some ⟨D,0,none⟩)/\(R 12).v = .slice (some ⟨D,0,none⟩) 1 1/\(B 13=false->R 12=⟨30,8,.slice (some ⟨D,0,none⟩) 1 1,1,[AE,AE,AE,AE,AE,AE,AE,AE]⟩))/\(B 13=true->B 11=true/\B 12=true)/\(B 13=true->R 12=Gs D ⟨x12,x13,x14,AE,x17,AE,AE,x21⟩))) ?_ ?_ ?_
  . exact⟨fun _=>false,fun _=>⟨0,0,AE,0,[]⟩,0,0,0,undef,undef,undef,undef,undef,undef,undef,undef,undef,undef,undef,undef,undef,rfl,rfl,Lib.hid ⟨Mk.start _ _ _ _ _ _ _ _,(AC.refl w2).drew,(fun q=>by cases q),(fun q=>by cases q),(fun q=>by cases q),(fun q=>by cases q),(fun q=>by cases q),(fun q=>by cases q),(fun q=>by cases q),(fun q=>by cases q),(fun q=>by cases q),(fun q=>by cases q),(fun q=>by cases q),(fun q=>by cases q),(fun q=>by cases q),(fun q=>by cases q),(fun q=>by cases q)⟩⟩
  ·
   rintro listed a w3 ⟨B,R,bs,N,D,x4,x11,x12,x13,x14,x15,x16,x17,x18,x19,x20,x21,x22,rfl,rfl,HJ⟩ i hi;have hlt:=(AG hi).1;have hcs:i=0\/i=1\/i=2\/i=3\/i=4\/i=5\/i=6\/i=7\/i=8\/i=9\/i=10\/i=11\/i=12\/i=13:=by simp at hlt;omega
   rcases hcs with rfl|rfl|rfl|rfl|rfl|rfl|rfl|rfl|rfl|rfl|rfl|rfl|rfl|rfl
   ·
    have hbi:B 0=false:=by simpa using (AG hi).2.1
    have HI:=HJ.out;obtain⟨HM,HK,F0,F1,F2,F3,F4,F5,F6,F7,F8,F9,F10,F11,F12,F13,F14⟩:=HI;have hsz:=HK.size;clear HM HK F0 F1 F2 F3 F4 F5 F6 F7 F8 F9 F10 F11 F12 F13 F14;refine AJ rfl rfl (fun K hK=>?_);simp only[List.getElem_toArray,List.getElem_cons_zero];go_simp;refine hK.out _ _ ?_;obtain⟨HM,HK,F0,F1,F2,F3,F4,F5,F6,F7,F8,F9,F10,F11,F12,F13,F14⟩:=HJ.out;exact⟨AY B 0,R,bs,N,D,_,_,_,_,_,_,_,_,_,_,_,_,_,rfl,rfl,Lib.hid ⟨HM.pass (by decide),HK,(fun _=>rfl),F1,F2,F3,F4,F5,F6,F7,F8,F9,F10,F11,F12,F13,F14⟩⟩
   ·
    have hbi:B 1=false:=by simpa using (AG hi).2.1
    have hdp:=(AG hi).2.2 _ rfl;simp[Region.binds] at hdp;have HI:=HJ.out;obtain⟨HM,HK,F0,F1,F2,F3,F4,F5,F6,F7,F8,F9,F10,F11,F12,F13,F14⟩:=HI;have hsz:=HK.size;have Ex:=Lib.hid (F0 hdp);rw[Ex.out];clear HM HK F0 F1 F2 F3 F4 F5 F6 F7 F8 F9 F10 F11 F12 F13 F14;refine AJ rfl rfl (fun K hK=>?_);simp only[List.getElem_toArray,List.getElem_cons_succ,List.getElem_cons_zero];go_simp;refine (MB _ _ _ (h.keep (K2.trans HJ.out.2.1)) (by omega) hll).mono ?_;rintro e wz ⟨vz,rfl,hx,kk⟩;go_wp2_with fail
    refine hK.out _ _ ?_;obtain⟨HM,HK,F0,F1,F2,F3,F4,F5,F6,F7,F8,F9,F10,F11,F12,F13,F14⟩:=HJ.out;have ex:=Ex.out;subst ex;rw[hbi] at HM;obtain⟨az,cz,ez,-⟩:=id hx;exact⟨AY B 1,R,_,_,D,_,_,_,_,_,_,_,_,_,_,_,_,_,rfl,rfl,Lib.hid ⟨HM.copied (by decide) kk hx hsz,HK.trans kk,F0,(fun _=>⟨az,cz,ez⟩),F2,F3,F4,F5,F6,F7,F8,F9,F10,(fun q=>absurd (F11 q).1.1 (by rw[hbi];simp)),F12,F13,(fun q=>absurd (F11 (F13 q).1).1.1 (by rw[hbi];simp))⟩⟩
   ·
    have hbi:B 2=false:=by simpa using (AG hi).2.1
    have HI:=HJ.out;obtain⟨HM,HK,F0,F1,F2,F3,F4,F5,F6,F7,F8,F9,F10,F11,F12,F13,F14⟩:=HI;have hsz:=HK.size;clear HM HK F0 F1 F2 F3 F4 F5 F6 F7 F8 F9 F10 F11 F12 F13 F14;refine AJ rfl rfl (fun K hK=>?_);simp only[List.getElem_toArray,List.getElem_cons_succ,List.getElem_cons_zero];refine Ji _ _ rfl 3 rfl rfl (by omega) w2.heap.size hsz ?_;intro wz oz kz;simp only[Act.put,List.setIfInBounds_toArray,List.set_cons_zero,List.set_cons_succ];refine hK.out _ _ ?_;obtain⟨HM,HK,F0,F1,F2,F3,F4,F5,F6,F7,F8,F9,F10,F11,F12,F13,F14⟩:=HJ.out;exact⟨AY B 2,Hy R 2 (Bp [0,0,0] _),bs,N,D,_,_,_,_,_,_,_,_,_,_,_,_,_,rfl,rfl,Lib.hid ⟨HM.add hbi kz oz (fun b hb=>Fp hb),HK.trans kz,F0,F1,(fun _=>⟨⟨_,rfl⟩,rfl⟩),F3,F4,F5,F6,F7,F8,F9,F10,(fun q=>absurd (F11 q).1.2.1 (by rw[hbi];simp)),F12,F13,(fun q=>absurd (F11 (F13 q).1).1.2.1 (by rw[hbi];simp))⟩⟩
   ·
    have hbi:B 3=false:=by simpa using (AG hi).2.1
    have HI:=HJ.out;obtain⟨HM,HK,F0,F1,F2,F3,F4,F5,F6,F7,F8,F9,F10,F11,F12,F13,F14⟩:=HI;have hsz:=HK.size;clear HM HK F0 F1 F2 F3 F4 F5 F6 F7 F8 F9 F10 F11 F12 F13 F14;refine AJ rfl rfl (fun K hK=>?_);simp only[List.getElem_toArray,List.getElem_cons_succ,List.getElem_cons_zero];go_simp;refine hK.out _ _ ?_;obtain⟨HM,HK,F0,F1,F2,F3,F4,F5,F6,F7,F8,F9,F10,F11,F12,F13,F14⟩:=HJ.out;exact⟨AY B 3,_,bs,N,D,_,_,_,_,_,_,_,_,_,_,_,_,_,rfl,rfl,Lib.hid ⟨HM.add hbi ((AC.refl w3).alloc _) (Ja w3 hsz 2 #[.int .i64 0,.int .i64 1,.int .i64 2] (by unfold maxLen;simp)) (fun b hb=>Fp hb),HK.alloc _,F0,F1,F2,(fun _=>⟨⟨_,rfl⟩,rfl⟩),F4,F5,F6,F7,F8,F9,F10,(fun q=>absurd (F11 q).1.2.2.1 (by rw[hbi];simp)),F12,F13,(fun q=>absurd (F11 (F13 q).1).1.2.2.1 (by rw[hbi];simp))⟩⟩
   ·
    have hbi:B 4=false:=by simpa using (AG hi).2.1
    have HI:=HJ.out;obtain⟨HM,HK,F0,F1,F2,F3,F4,F5,F6,F7,F8,F9,F10,F11,F12,F13,F14⟩:=HI;have hsz:=HK.size;clear HM HK F0 F1 F2 F3 F4 F5 F6 F7 F8 F9 F10 F11 F12 F13 F14;refine AJ rfl rfl (fun K hK=>?_);simp only[List.getElem_toArray,List.getElem_cons_succ,List.getElem_cons_zero];go_simp;refine hK.out _ _ ?_;obtain⟨HM,HK,F0,F1,F2,F3,F4,F5,F6,F7,F8,F9,F10,F11,F12,F13,F14⟩:=HJ.out;exact⟨AY B 4,R,bs,N,D,_,_,_,_,_,_,_,_,_,_,_,_,_,rfl,rfl,Lib.hid ⟨HM.pass (by decide),HK,F0,F1,F2,F3,(fun _=>rfl),F5,F6,F7,F8,F9,F10,F11,F12,F13,F14⟩⟩
   ·
    have hbi:B 5=false:=by simpa using (AG hi).2.1
    have hdp:=(AG hi).2.2 _ rfl;simp[Region.binds] at hdp;have HI:=HJ.out;obtain⟨HM,HK,F0,F1,F2,F3,F4,F5,F6,F7,F8,F9,F10,F11,F12,F13,F14⟩:=HI;have hsz:=HK.size;have Ex:=Lib.hid (F4 hdp);rw[Ex.out];clear HM HK F0 F1 F2 F3 F4 F5 F6 F7 F8 F9 F10 F11 F12 F13 F14;refine AJ rfl rfl (fun K hK=>?_);simp only[List.getElem_toArray,List.getElem_cons_succ,List.getElem_cons_zero];go_simp;refine hK.out _ _ ?_;obtain⟨HM,HK,F0,F1,F2,F3,F4,F5,F6,F7,F8,F9,F10,F11,F12,F13,F14⟩:=HJ.out;have ex:=Ex.out;subst ex;exact⟨AY B 5,R,bs,N,D,_,_,_,_,_,_,_,_,_,_,_,_,_,rfl,rfl,Lib.hid ⟨HM.pass (by decide),HK,F0,F1,F2,F3,F4,(fun _=>rfl),F6,F7,F8,F9,F10,F11,F12,F13,F14⟩⟩
   ·
    have hbi:B 6=false:=by simpa using (AG hi).2.1
    have hdp:=(AG hi).2.2 _ rfl;simp[Region.binds] at hdp;have HI:=HJ.out;obtain⟨HM,HK,F0,F1,F2,F3,F4,F5,F6,F7,F8,F9,F10,F11,F12,F13,F14⟩:=HI;have hsz:=HK.size;have Ex:=Lib.hid (F5 hdp);rw[Ex.out];clear HM HK F0 F1 F2 F3 F4 F5 F6 F7 F8 F9 F10 F11 F12 F13 F14;refine AJ rfl rfl (fun K hK=>?_);simp only[List.getElem_toArray,List.getElem_cons_succ,List.getElem_cons_zero];refine Ji _ _ rfl AA.length rfl rfl (by omega) w2.heap.size hsz ?_;intro wz oz kz;simp only[Act.put,List.setIfInBounds_toArray,List.set_cons_zero,List.set_cons_succ];refine hK.out _ _ ?_;obtain⟨HM,HK,F0,F1,F2,F3,F4,F5,F6,F7,F8,F9,F10,F11,F12,F13,F14⟩:=HJ.out;have ex:=Ex.out;subst ex;exact⟨AY B 6,Hy R 6 (Bp (List.replicate AA.length 0) _),bs,N,D,_,_,_,_,_,_,_,_,_,_,_,_,_,rfl,rfl,Lib.hid ⟨HM.add hbi kz oz (fun b hb=>Fp hb),HK.trans kz,F0,F1,F2,F3,F4,F5,(fun _=>⟨⟨_,rfl⟩,rfl⟩),F7,F8,F9,F10,(fun q=>absurd (F11 q).1.2.2.2.1 (by rw[hbi];simp)),F12,F13,(fun q=>absurd (F11 (F13 q).1).1.2.2.2.1 (by rw[hbi];simp))⟩⟩
   ·
    have hbi:B 7=false:=by simpa using (AG hi).2.1
    have HI:=HJ.out;obtain⟨HM,HK,F0,F1,F2,F3,F4,F5,F6,F7,F8,F9,F10,F11,F12,F13,F14⟩:=HI;have hsz:=HK.size;clear HM HK F0 F1 F2 F3 F4 F5 F6 F7 F8 F9 F10 F11 F12 F13 F14;refine AJ rfl rfl (fun K hK=>?_);simp only[List.getElem_toArray,List.getElem_cons_succ,List.getElem_cons_zero];go_simp;refine hK.out _ _ ?_;obtain⟨HM,HK,F0,F1,F2,F3,F4,F5,F6,F7,F8,F9,F10,F11,F12,F13,F14⟩:=HJ.out;exact⟨AY B 7,_,bs,N,D,_,_,_,_,_,_,_,_,_,_,_,_,_,rfl,rfl,Lib.hid ⟨HM.add hbi ((AC.refl w3).alloc _) (Ja w3 hsz 2 #[.int .i64 0] (by unfold maxLen;simp)) (fun b hb=>Fp hb),HK.alloc _,F0,F1,F2,F3,F4,F5,F6,(fun _=>⟨⟨_,rfl⟩,rfl⟩),F8,F9,(fun q=>absurd (F10 q).1.1 (by rw[hbi];simp)),F11,F12,F13,F14⟩⟩
   ·
    have hbi:B 8=false:=by simpa using (AG hi).2.1
    have HI:=HJ.out;obtain⟨HM,HK,F0,F1,F2,F3,F4,F5,F6,F7,F8,F9,F10,F11,F12,F13,F14⟩:=HI;have hsz:=HK.size;clear HM HK F0 F1 F2 F3 F4 F5 F6 F7 F8 F9 F10 F11 F12 F13 F14;refine AJ rfl rfl (fun K hK=>?_);simp only[List.getElem_toArray,List.getElem_cons_succ,List.getElem_cons_zero];go_simp;refine hK.out _ _ ?_;obtain⟨HM,HK,F0,F1,F2,F3,F4,F5,F6,F7,F8,F9,F10,F11,F12,F13,F14⟩:=HJ.out;exact⟨AY B 8,_,bs,N,D,_,_,_,_,_,_,_,_,_,_,_,_,_,rfl,rfl,Lib.hid ⟨HM.add hbi ((AC.refl w3).alloc _) (Ja w3 hsz 2 #[.int .i64 1] (by unfold maxLen;simp)) (fun b hb=>Fp hb),HK.alloc _,F0,F1,F2,F3,F4,F5,F6,F7,(fun _=>⟨⟨_,rfl⟩,rfl⟩),F9,(fun q=>absurd (F10 q).1.2.1 (by rw[hbi];simp)),F11,F12,F13,F14⟩⟩
   ·
    have hbi:B 9=false:=by simpa using (AG hi).2.1
    have HI:=HJ.out;obtain⟨HM,HK,F0,F1,F2,F3,F4,F5,F6,F7,F8,F9,F10,F11,F12,F13,F14⟩:=HI;have hsz:=HK.size;clear HM HK F0 F1 F2 F3 F4 F5 F6 F7 F8 F9 F10 F11 F12 F13 F14;refine AJ rfl rfl (fun K hK=>?_);simp only[List.getElem_toArray,List.getElem_cons_succ,List.getElem_cons_zero];go_simp;refine hK.out _ _ ?_;obtain⟨HM,HK,F0,F1,F2,F3,F4,F5,F6,F7,F8,F9,F10,F11,F12,F13,F14⟩:=HJ.out;exact⟨AY B 9,_,bs,N,D,_,_,_,_,_,_,_,_,_,_,_,_,_,rfl,rfl,Lib.hid ⟨HM.add hbi ((AC.refl w3).alloc _) (Ja w3 hsz 2 #[.int .i64 2] (by unfold maxLen;simp)) (fun b hb=>Fp hb),HK.alloc _,F0,F1,F2,F3,F4,F5,F6,F7,F8,(fun _=>⟨⟨_,rfl⟩,rfl⟩),(fun q=>absurd (F10 q).1.2.2 (by rw[hbi];simp)),F11,F12,F13,F14⟩⟩
   ·
    have hbi:B 10=false:=by simpa using (AG hi).2.1
    have hdp:=(AG hi).2.2 _ rfl;simp[Region.binds] at hdp;have HI:=HJ.out;obtain⟨HM,HK,F0,F1,F2,F3,F4,F5,F6,F7,F8,F9,F10,F11,F12,F13,F14⟩:=HI;have hsz:=HK.size;obtain⟨d7,d8,d9⟩:=hdp;obtain⟨⟨g7,e7⟩,-⟩:=F7 d7;have E7:=Lib.hid (e7);rw[E7.out];clear e7;obtain⟨⟨g8,e8⟩,-⟩:=F8 d8;have E8:=Lib.hid (e8);rw[E8.out];clear e8;obtain⟨⟨g9,e9⟩,-⟩:=F9 d9;have E9:=Lib.hid (e9);rw[E9.out];clear e9;clear HM HK F0 F1 F2 F3 F4 F5 F6 F7 F8 F9 F10 F11 F12 F13 F14;refine AJ rfl rfl (fun K hK=>?_);simp only[List.getElem_toArray,List.getElem_cons_succ,List.getElem_cons_zero];go_simp;refine hK.out _ _ ?_;obtain⟨HM,HK,F0,F1,F2,F3,F4,F5,F6,F7,F8,F9,F10,F11,F12,F13,F14⟩:=HJ.out;have e7:=E7.out;subst e7;have e8:=E8.out;subst e8;have e9:=E9.out;subst e9;exact⟨AY B 10,_,bs,N,D,_,_,_,_,_,_,_,_,_,_,_,_,_,rfl,rfl,Lib.hid ⟨HM.add hbi ((AC.refl w3).alloc _) (Ja w3 hsz 26 #[.slice (some ⟨g7,0,none⟩) 1 1,.slice (some ⟨g8,0,none⟩) 1 1,.slice (some ⟨g9,0,none⟩) 1 1] (by unfold maxLen;simp)) (fun b hb=>Fp hb),HK.alloc _,F0,F1,F2,F3,F4,F5,F6,F7,F8,F9,(fun _=>⟨⟨d7,d8,d9⟩,⟨_,rfl⟩,rfl⟩),(fun q=>absurd (F11 q).1.2.2.2.2 (by rw[hbi];simp)),F12,F13,(fun q=>absurd (F11 (F13 q).1).1.2.2.2.2 (by rw[hbi];simp))⟩⟩
   ·
    have hbi:B 11=false:=by simpa using (AG hi).2.1
    have hdp:=(AG hi).2.2 _ rfl;simp[Region.binds] at hdp;have HI:=HJ.out;obtain⟨HM,HK,F0,F1,F2,F3,F4,F5,F6,F7,F8,F9,F10,F11,F12,F13,F14⟩:=HI;have hsz:=HK.size;obtain⟨d1,d2,d3,d6,d10⟩:=hdp;obtain⟨a1,c1,e1⟩:=F1 d1;have E1:=Lib.hid (e1);rw[E1.out];clear e1;obtain⟨⟨g2,e2⟩,-⟩:=F2 d2;have E2:=Lib.hid (e2);rw[E2.out];clear e2;obtain⟨⟨g3,e3⟩,-⟩:=F3 d3;have E3:=Lib.hid (e3);rw[E3.out];clear e3;obtain⟨⟨g6,e6⟩,-⟩:=F6 d6;have E6:=Lib.hid (e6);rw[E6.out];clear e6;obtain⟨-,⟨g10,e10⟩,-⟩:=F10 d10;have E10:=Lib.hid (e10);rw[E10.out];clear e10;clear HM HK F0 F1 F2 F3 F4 F5 F6 F7 F8 F9 F10 F11 F12 F13 F14;refine AJ rfl rfl (fun K hK=>?_);simp only[List.getElem_toArray,List.getElem_cons_succ,List.getElem_cons_zero];go_simp;refine hK.out _ _ ?_;obtain⟨HM,HK,F0,F1,F2,F3,F4,F5,F6,F7,F8,F9,F10,F11,F12,F13,F14⟩:=HJ.out;have e1:=E1.out;subst e1;have e2:=E2.out;subst e2;have e3:=E3.out;subst e3;have e6:=E6.out;subst e6;have e10:=E10.out;subst e10;exact⟨AY B 11,R,bs,N,D,_,_,_,_,_,_,_,_,_,_,_,_,_,rfl,rfl,Lib.hid ⟨HM.pass (by decide),HK,F0,F1,F2,F3,F4,F5,F6,F7,F8,F9,F10,(fun _=>⟨⟨d1,d2,d3,d6,d10⟩,rfl⟩),F12,(fun q=>absurd (F13 q).1 (by rw[hbi];simp)),F14⟩⟩
   ·
    have hbi:B 12=false:=by simpa using (AG hi).2.1
    have HI:=HJ.out;obtain⟨HM,HK,F0,F1,F2,F3,F4,F5,F6,F7,F8,F9,F10,F11,F12,F13,F14⟩:=HI;have hsz:=HK.size;clear HM HK F0 F1 F2 F3 F4 F5 F6 F7 F8 F9 F10 F11 F12 F13 F14;refine AJ rfl rfl (fun K hK=>?_);simp only[List.getElem_toArray,List.getElem_cons_succ,List.getElem_cons_zero];go_simp;refine hK.out _ _ ?_;obtain⟨HM,HK,F0,F1,F2,F3,F4,F5,F6,F7,F8,F9,F10,F11,F12,F13,F14⟩:=HJ.out;exact⟨AY B 12,_,bs,N,w3.heap.size,_,_,_,_,_,_,_,_,_,_,_,_,_,rfl,rfl,Lib.hid ⟨HM.add hbi ((AC.refl w3).alloc _) (Sr w3 hsz) (fun b hb=>Fp hb),HK.alloc _,F0,F1,F2,F3,F4,F5,F6,F7,F8,F9,F10,F11,(fun _=>⟨rfl,rfl,fun _=>rfl⟩),(fun q=>absurd (F13 q).2 (by rw[hbi];simp)),(fun q=>absurd (F13 q).2 (by rw[hbi];simp))⟩⟩
   ·
    have hbi:B 13=false:=by simpa using (AG hi).2.1
    have hdp:=(AG hi).2.2 _ rfl;simp[Region.binds] at hdp;have HI:=HJ.out;obtain⟨HM,HK,F0,F1,F2,F3,F4,F5,F6,F7,F8,F9,F10,F11,F12,F13,F14⟩:=HI;have hsz:=HK.size;have d11:B 11=true:=by exact hdp.2.1
    have d12:B 12=true:=by exact hdp.1
    obtain⟨⟨d1,d2,d3,d6,d10⟩,e22⟩:=F11 d11;obtain⟨e4,er,ez⟩:=F12 d12;have o12:=HM.Al.own 12 ⟨by decide,d12⟩;rw[ez hbi] at o12;obtain⟨⟨old,hz,hos⟩,ho⟩:=Ss o12 (v:=⟨x12,x13,x14,AE,x17,AE,AE,x21⟩);obtain⟨a1,c1,e1⟩:=F1 d1;obtain⟨⟨g2,e2⟩,-⟩:=F2 d2;obtain⟨⟨g3,e3⟩,-⟩:=F3 d3;obtain⟨⟨g6,e6⟩,-⟩:=F6 d6;obtain⟨-,⟨g10,e10⟩,-⟩:=F10 d10;have hone:(BV.arr ⟨x12,x13,x14,AE,x17,AE,AE,x21⟩).all (·.oneCell')=true:=by rw[e1,e2,e3,e6,e10];simp[Value.oneCell']
    clear e1 e2 e3 e6 e10;have Ep:=Lib.hid (e22);rw[Ep.out];have Eq:=Lib.hid (e4);rw[Eq.out];clear e22 e4;clear HM HK F0 F1 F2 F3 F4 F5 F6 F7 F8 F9 F10 F11 F12 F13 F14;refine AJ rfl rfl (fun K hK=>?_);simp only[List.getElem_toArray,List.getElem_cons_succ,List.getElem_cons_zero];refine wp_store_row 30 _ _ rfl D _ rfl rfl 30 old hz AF hos hone ?_;refine hK.out _ _ ?_;obtain⟨HM,HK,F0,F1,F2,F3,F4,F5,F6,F7,F8,F9,F10,F11,F12,F13,F14⟩:=HJ.out;have ep:=Ep.out;subst ep;have eq:=Eq.out;subst eq;exact⟨AY B 13,_,bs,N,D,_,_,_,_,_,_,_,_,_,_,_,_,_,rfl,rfl,Lib.hid ⟨HM.turn (by decide) ⟨by decide,d12⟩ (r:=Gs D ⟨x12,x13,x14,AE,x17,AE,AE,x21⟩) (by rw[er];exact AV _ _ _) (by rw[er]) ho,HK.grown (AV _ D _) (fun b hb=>by have:=(HM.Al.lt ⟨by decide,d12⟩ D (by rw[er];rfl)).1;have:=Option.some.inj hb;omega),F0,F1,F2,F3,F4,F5,F6,F7,F8,F9,F10,F11,(fun _=>⟨rfl,rfl,fun q=>by cases q⟩),(fun _=>⟨d11,d12⟩),(fun _=>rfl)⟩⟩
  ·
   rintro listed a w3 ⟨B,R,bs,N,D,x4,x11,x12,x13,x14,x15,x16,x17,x18,x19,x20,x21,x22,rfl,rfl,HJ⟩ hr;have b0:B 0=true:=by simpa using BP hr 0 _ rfl (by simp[Region.binds])
   have b1:B 1=true:=by simpa using BP hr 1 _ rfl (by simp[Region.binds,b0])
   have b2:B 2=true:=by simpa using BP hr 2 _ rfl (by simp[Region.binds])
   have b3:B 3=true:=by simpa using BP hr 3 _ rfl (by simp[Region.binds])
   have b4:B 4=true:=by simpa using BP hr 4 _ rfl (by simp[Region.binds])
   have b5:B 5=true:=by simpa using BP hr 5 _ rfl (by simp[Region.binds,b4])
   have b6:B 6=true:=by simpa using BP hr 6 _ rfl (by simp[Region.binds,b5])
   have b7:B 7=true:=by simpa using BP hr 7 _ rfl (by simp[Region.binds])
   have b8:B 8=true:=by simpa using BP hr 8 _ rfl (by simp[Region.binds])
   have b9:B 9=true:=by simpa using BP hr 9 _ rfl (by simp[Region.binds])
   have b10:B 10=true:=by simpa using BP hr 10 _ rfl (by simp[Region.binds,b7,b8,b9])
   have b11:B 11=true:=by simpa using BP hr 11 _ rfl (by simp[Region.binds,b1,b2,b3,b6,b10])
   have b12:B 12=true:=by simpa using BP hr 12 _ rfl (by simp[Region.binds])
   have b13:B 13=true:=by simpa using BP hr 13 _ rfl (by simp[Region.binds,b0,b1,b2,b3,b4,b5,b6,b7,b8,b9,b10,b11,b12])
   obtain⟨HM,HK,F0,F1,F2,F3,F4,F5,F6,F7,F8,F9,F10,F11,F12,F13,F14⟩:=HJ.out;clear HJ hr;have HB:=fZ (n:=AA.length) (by rw[b1] at HM;exact HM) b2 b3 b6 b7 b8 b9 b10 b12 (F2 b2).2 (F3 b3).2 (F6 b6).2 (F7 b7).2 (F8 b8).2 (F9 b9).2 (F10 b10).2.2 (F14 b13);have HW:=((by rw[b1] at HM;exact HM):Mk w3 w2.heap.size _ R true x12 bs N AA).work rfl;have e4:=(F12 b12).1;clear HM F0 F1 F2 F3 F4 F5 F6 F7 F8 F9 F10 F11 F12 F13 F14;subst e4;go_wp2;go_meet;case rel=>exact⟨D,_,_,bs,N,rfl,HB,HW.2.2,HK⟩
 case rest=>
  obtain⟨D,bv,rv,bs,N,rfl,H,hbs,kc⟩:=hcut;have hRc:=(Below.block kc w.heap.size (by omega)).trans hR2;obtain⟨j0,hj,hy0,hy1,hy2⟩:=info_parts Tryz.Oi;obtain⟨i0,hi,hz0,hz1,hz2⟩:=info_parts Tryz.FL
  have rs12:rs.length<=12:=by
   rw[<-wL.out];unfold AX;rw[if_pos (by omega)];have:=Cw Aj es es.length;omega
  go_wp2;go_loopw [5] (fun i wr=>∃(k:Nat) (bv':BV) (nv':List Value),k<=AA.length/\i = .int .i64 k/\AR wr w2.heap.size D bv' nv' rv bs N AA { Xt AA.length with AH:=List.replicate k [] }/\AC w2 wr) (fun i _=>AA.length-(intOf i).toNat)
  case atStart=>exact⟨0,bv,[],Nat.zero_le _,rfl,H,kc⟩
  case round=>
   obtain⟨k,bv',nv',hk,rfl,Hr,kr⟩:=hrel;clear H kc hRc;by_cases hlt:k<AA.length
   ·
    obtain⟨aN,cN',eN,-⟩:=Hr.hN;simp only[List.length_replicate] at eN;have d3:=Hr.cells.2.2.2.1;have hln:nv'.length=k:=by have:=Hr.ln;simpa using this
    have HR0:wr.ownsRow w2.heap.size 42 1 (.slice aN k cN') k nv':=by
     have o:wr.ownsRow w2.heap.size 42 1 bv'.N nv'.length nv':=Hr.Al.own .AH trivial;rw[eN,hln] at o;exact o
    rw[eN] at d3;have hbase:=Hr.base;have sr:=kr.size;have oA:BW cN 44 3 (wr.alloc (.cells #[] 44)) w2.heap.size (.slice (some ⟨wr.heap.size,0,none⟩) 0 0) []:=World.ownsRow_lit wr #[] 0 sr (by decide) rfl;have kA:AC wr (wr.alloc (.cells #[] 44)):=(AC.refl wr).alloc _;have kA2:AC (wr.alloc (.cells #[] 44)) ((wr.alloc (.cells #[] 44)).alloc (.cells #[.slice (some ⟨wr.heap.size,0,none⟩) 0 0] 42)):=(AC.refl _).alloc _;have kB:=kA.trans kA2;have oB:BW cN 44 3 ((wr.alloc (.cells #[] 44)).alloc (.cells #[.slice (some ⟨wr.heap.size,0,none⟩) 0 0] 42)) w2.heap.size (.slice (some ⟨wr.heap.size,0,none⟩) 0 0) []:=World.ownsRow.kept oA kA2.grownBy (.inr (by simp[Value.ownBlock]));have HR:=World.ownsRow.kept HR0 kB.grownBy (by cases (Value.slice aN k cN').ownBlock<;>simp);have HH:=Lib.hid Hr;have HoB:=Lib.hid oB;have wP:=Lib.hid kB;have Zh:=Lib.hid eN;have Zi:=Lib.hid hln;have fD:=Hr.free 3;have dB:((wr.alloc (.cells #[] 44)).alloc (.cells #[.slice (some ⟨wr.heap.size,0,none⟩) 0 0] 42)).heap.size=wr.heap.size+1+1:=by rw[AD,AD]
    have HdB:=Lib.hid dB;clear Hr oA kA kA2 kB oB HR0 eN hln dB;go_wp2_with (at_builtin;refine wpList_append_own_at _ rfl _ _ 27 rfl w2.heap.size 42 j0 (.slice none 0 0) 1 24 Tryz.underlying27 hj hy0 hy1 hy2 rfl (by decide) _ _ _ rfl HR ⟨_,0,none⟩ 1 1 [.slice (some ⟨wr.heap.size,0,none⟩) 0 0] rfl rfl ?e1 ?e2 ?e3 ?e4 ?e5 ?_)
    case e2=>rfl
    case e3=>unfold maxLen;omega
    case e4=>omega
    case e5=>omega
    intro v' w7 hown7 hgrow7 _ hblk7
    have ho7:(EH 42 (nv'++[Value.slice (some ⟨wr.heap.size,0,none⟩) 0 0]) v').own w7 w2.heap.size:=by
     show w7.ownsRow w2.heap.size 42 1 v' (nv'++[Value.slice (some ⟨wr.heap.size,0,none⟩) 0 0]).length (nv'++[Value.slice (some ⟨wr.heap.size,0,none⟩) 0 0]);rw[List.length_append,Zi.out];exact hown7
    obtain⟨H8,c8,f8⟩:=HH.out.Qf wP.out (fun q hq=>Fp hq) HoB.out (by rw[Zh.out];exact hgrow7) (by rw[Zh.out];rcases hblk7 with e|e;exact .inl e;exact .inr (.inl (by rw[HdB.out];exact e))) ho7;have K7:AC w2 w7:=(kr.trans wP.out).grown hgrow7 (fun q hq=>(World.ownsRow.lt HR q hq).1);have K8:AC w2 (w7.setCell ⟨D,3,none⟩ v'):=K7.grown (Ad w7 D 3 v') (fun q hq=>by have:=Option.some.inj hq;omega);obtain⟨a8,c8',e8,-⟩:=Bn ho7
    have H9:AR (w7.setCell ⟨D,3,none⟩ v') w2.heap.size D { bv' with N:=v' } (nv'++[Value.slice (some ⟨wr.heap.size,0,none⟩) 0 0]) rv bs N AA { Xt AA.length with AH:=List.replicate (k+1) [] }:=by
     rw[List.replicate_succ'];exact H8
    have HH9:=Lib.hid H9;have HK8:=Lib.hid K8;clear H8 H9 K8 K7 hown7 hgrow7 hblk7 HR ho7 fD;replace e8:v' = .slice a8 (k+1) c8':=by rw[e8,List.length_append,Zi.out];rfl
    subst e8;go_wp2;go_roundw;case rel=>exact⟨k+1,_,_,by omega,by go_num,HH9.out,HK8.out⟩
    case measure=>simp[intOf];omega
   ·
    obtain rfl:k=AA.length:=by omega
    clear hlt hk;go_wp2;go_loopw [6] (fun i wq=>∃(k:Nat) (bv':BV),k<=rs.length/\i = .int .i64 k/\AR wq w2.heap.size D bv' nv' rv bs N AA { Xt AA.length with AH:=List.replicate AA.length [],sn:=List.replicate k (-1),fr:=List.replicate k (-1) }/\AC w2 wq) (fun i _=>rs.length-(intOf i).toNat)
    case atStart=>exact⟨0,bv',Nat.zero_le _,rfl,Hr,kr⟩
    case round=>
     clear Hr kr;obtain⟨k,bv',hk,rfl,Hr,kr⟩:=hrel;by_cases hlt:k<rs.length
     ·
      have oS:=Hr.oS;obtain⟨aS,cS,eS,-⟩:=oS.rd;simp only[List.length_replicate] at eS;have d5:=Hr.cells.2.2.2.2.2.1;have d6:=Hr.cells.2.2.2.2.2.2.1;have oF:=Hr.oF;obtain⟨aF,cF,eF,-⟩:=oF.rd;simp only[List.length_replicate] at eF;have f5:=Hr.free 5;have hbase:=Hr.base;have sr:=kr.size
      have HS0:wr.ownsRow w2.heap.size 2 1 (.slice aS k cS) k ((List.replicate k (-1:Int)).map (Value.int .i64)):=by
       have o:wr.ownsRow w2.heap.size 2 1 bv'.S (List.replicate k (-1:Int)).length ((List.replicate k (-1:Int)).map (Value.int .i64)):=oS;rw[eS,List.length_replicate] at o;exact o
      have kA:AC wr (wr.alloc (.cells #[.int .i64 (-1)] 2)):=(AC.refl wr).alloc _;have HS:=World.ownsRow.kept HS0 kA.grownBy (by cases (Value.slice aS k cS).ownBlock<;>simp);rw[eS] at d5;have HH:=Lib.hid Hr;have bE:=Lib.hid kA;have qx:=Lib.hid eS;have pI:=Lib.hid eF;clear Hr kA HS0 eS eF oS oF d6;go_wp2_with (at_builtin;refine wpList_append_own_at _ rfl _ _ 26 rfl w2.heap.size 2 i0 (.int .i64 0) 1 8 Tryz.underlying26 hi hz0 hz1 hz2 rfl (by decide) _ _ _ rfl HS ⟨_,0,none⟩ 1 1 [.int .i64 (-1)] rfl rfl ?b1 ?b2 ?b3 ?b4 ?b5 ?_)
      case b2=>rfl
      case b3=>unfold maxLen;omega
      case b4=>omega
      case b5=>omega
      intro v' w7 hown7 hgrow7 _ hblk7
      have ho7:A8 w7 w2.heap.size v' (List.replicate (k+1) (-1)):=by
       unfold A8;rw[List.replicate_succ']
       simpa using hown7
      have kw:AR (wr.alloc (.cells #[.int .i64 (-1)] 2)) w2.heap.size D bv' nv' rv bs N AA _:=HH.out.keep bE.out;obtain⟨H8,c8,f8⟩:=kw.P8 (by rw[qx.out];exact hgrow7) (by rw[qx.out];rcases hblk7 with e|e;exact .inl e;exact .inr (.inl (by rw[AD];exact e))) ho7;have K7:AC w2 w7:=(kr.trans bE.out).grown hgrow7 (fun q hq=>(World.ownsRow.lt HS q hq).1);have K8:AC w2 (w7.setCell ⟨D,5,none⟩ v'):=K7.grown (Ad w7 D 5 v') (fun q hq=>by have:=Option.some.inj hq;omega);obtain⟨a8,c8',e8,-⟩:=ho7.rd;rw[List.length_replicate] at e8;clear hown7 hgrow7 hblk7 HS ho7 f5 d5 HH bE kw qx kr K7;subst e8;obtain⟨wS,tZ⟩:∃W:World,W=w7.setCell ⟨D,5,none⟩ (.slice a8 (k+1) c8'):=⟨_,rfl⟩;rw[<-tZ] at H8 K8;have wQ:=Lib.hid tZ;clear tZ;have d6:=H8.cells.2.2.2.2.2.2.1;have f6:=H8.free 6;have oF:=H8.oF
      have HF0:wS.ownsRow w2.heap.size 2 1 (.slice aF k cF) k ((List.replicate k (-1:Int)).map (Value.int .i64)):=by
       have o:wS.ownsRow w2.heap.size 2 1 bv'.F (List.replicate k (-1:Int)).length ((List.replicate k (-1:Int)).map (Value.int .i64)):=oF;rw[pI.out,List.length_replicate] at o;exact o
      have kA:AC wS (wS.alloc (.cells #[.int .i64 (-1)] 2)):=(AC.refl wS).alloc _;have HF:=World.ownsRow.kept HF0 kA.grownBy (by cases (Value.slice aF k cF).ownBlock<;>simp);have sr:=K8.size;simp only[pI.out] at d6;have HH:=Lib.hid H8;have bE:=Lib.hid kA;clear H8 kA HF0 oF;go_upto_region 11 with fail
      rw[<-wQ.out];clear c8 f8 wQ;go_wp2_with (at_builtin;refine wpList_append_own_at _ rfl _ _ 26 rfl w2.heap.size 2 i0 (.int .i64 0) 1 8 Tryz.underlying26 hi hz0 hz1 hz2 rfl (by decide) _ _ _ rfl HF ⟨_,0,none⟩ 1 1 [.int .i64 (-1)] rfl rfl ?g1 ?g2 ?g3 ?g4 ?g5 ?_)
      case g2=>rfl
      case g3=>unfold maxLen;omega
      case g4=>omega
      case g5=>omega
      intro v9 w9 hown9 hgrow9 _ hblk9
      have ho9:A8 w9 w2.heap.size v9 (List.replicate (k+1) (-1)):=by
       unfold A8;rw[List.replicate_succ']
       simpa using hown9
      have kw:AR (wS.alloc (.cells #[.int .i64 (-1)] 2)) w2.heap.size D _ nv' rv bs N AA _:=HH.out.keep bE.out;obtain⟨H9,c9,f9⟩:=kw.TD (by simp only[pI.out];exact hgrow9) (by simp only[pI.out];rcases hblk9 with e|e;exact .inl e;exact .inr (.inl (by rw[AD];exact e))) ho9;have K9:AC w2 w9:=(K8.trans bE.out).grown hgrow9 (fun q hq=>(World.ownsRow.lt HF q hq).1);have K10:AC w2 (w9.setCell ⟨D,6,none⟩ v9):=K9.grown (Ad w9 D 6 v9) (fun q hq=>by have:=Option.some.inj hq;omega);obtain⟨a9,c9',e9,-⟩:=ho9.rd;rw[List.length_replicate] at e9;have HH9:=Lib.hid H9;have HK9:=Lib.hid K10;clear hown9 hgrow9 hblk9 HF ho9 f6 d6 HH bE kw K9 K10 H9;subst e9;go_wp2;go_roundw;case rel=>exact⟨k+1,_,by omega,by go_num,HH9.out,HK9.out⟩
      case measure=>simp[intOf];omega
     ·
      obtain rfl:k=rs.length:=by omega
      have QB:=(Below.block kr w.heap.size (by omega)).trans hR2;have iL:Hid (Bq AA={ Xt AA.length with AH:=List.replicate AA.length [],sn:=List.replicate rs.length (-1),fr:=List.replicate rs.length (-1) }):=Lib.hid (by unfold Bq Xt;rw[hes,wL.out]);have Hn:AR wr w2.heap.size D bv' nv' rv bs N AA (Bq AA):=by rw[iL.out];exact Hr
      have hM:w2.heap.size<=bs:=hbs;clear Hr iL hk;generalize hNM:Bq AA=nb at *;have iL:=Lib.hid hNM;clear hNM;have Bh:=Hn.B6;obtain⟨aW,aP,aL,aN,aX,aT,aF,aR,cW,cP,cL,cN',cX,cT,cF,cR,rfl⟩:=Hn.rd.shapes;simp only[BV.arr] at Bh;have HK:=Lib.hid (K2.trans kr);have HG:=Lib.hid (AV wr w.heap.size #[.slice aW AA.length cW,.slice aP nb.AM.length cP,.slice aL nb.AQ.length cL,.slice aN nb.AH.length cN',.slice aX nb.AL.length cX,.slice aT nb.sn.length cT,.slice aF nb.fr.length cF,.slice aR nb.rws.length cR]);have HZ:=Lib.hid (setRow_heap wr w.heap.size _ #[.slice aW AA.length cW,.slice aP nb.AM.length cP,.slice aL nb.AQ.length cL,.slice aN nb.AH.length cN',.slice aX nb.AL.length cX,.slice aT nb.sn.length cT,.slice aF nb.fr.length cF,.slice aR nb.rws.length cR] _ _ QB);have Ru:∀q,some w.heap.size=some q->q<w2.heap.size/\(q<bs\/N<=q):=fun q hq=>by have:=Option.some.inj hq;omega
      have HO:=Lib.hid (((Hn.far HG.out Ru).val).BE (show w.heap.size<=w2.heap.size by omega));go_wp2_with (first|refine wpList_load_row rfl 30 _ rfl D rfl 30 _ (0,0) _ Bh Tryz.underlying30 rfl AF ?_|refine wpList_store_row rfl 30 _ _ rfl w.heap.size _ rfl rfl 30 _ QB AF rfl (by simp[Value.oneCell']) ?_)
      refine bodyPost_ret (Ac (by rfl) _ _ w.heap.size _ _ (0,0) _ rfl HZ.out Tryz.underlying30 rfl AF) rfl ?_;exact⟨⟨.slice aW AA.length cW,.slice aP nb.AM.length cP,.slice aL nb.AQ.length cL,.slice aN nb.AH.length cN',.slice aX nb.AL.length cX,.slice aT nb.sn.length cT,.slice aF nb.fr.length cF,.slice aR nb.rws.length cR⟩,nv',rv,bs,N,rfl,by rw[iL.out];exact HO.out,by omega,HK.out.grown HG.out (fun q hq=>by have:=Option.some.inj hq;omega)⟩
theorem OO (a:Int):0<=bits .and .i64 a 255/\bits .and .i64 a 255<=255:=by
 have e:bits .and .i64 a 255=IntKind.i64.wrap (((BitVec.ofInt 64 a &&& BitVec.ofInt 64 255).toNat:Nat):Int):=rfl
 have h:(BitVec.ofInt 64 a &&& BitVec.ofInt 64 255).toNat<=255:=by
  rw[BitVec.toNat_and];exact Nat.and_le_right
 rw[e,IntKind.wrap_i64];omega
def Ms (w:World)(B:Nat)(a:Option Addr)(zs:List Int):Prop:=
 zs.length<=4096/\(zs=[]\/∃b off,a=some ⟨b,off,none⟩/\b<B/\b<w.heap.size/\∀i,i<zs.length->w.cell? ⟨b,off+i,none⟩=some (.int .u8 (zs.getD i 0))/\0<=zs.getD i 0/\zs.getD i 0<=255)
def IU (w:World)(B g:Nat):Prop:=
 B<=g/\∃(a:Option Addr) (cap:Nat) (zs:List Int) (i:Nat) (h:Int),w.heap[g]? = some (.cells #[.slice a zs.length cap,.int .i64 i,.int .i64 h] 91 (0,0))/\i<=zs.length/\Ms w B a zs
theorem Ms.kept {w w':World}{B:Nat}{a:Option Addr}{zs:List Int}{row:Option Nat}(h:Ms w B a zs)(hg:w.grownBy w' row)(hr:∀k,row=some k->B<=k):Ms w' B a zs:=by
 refine⟨h.1,?_⟩;rcases h.2 with h|⟨b,off,ha,hb,hbs,hc⟩
 . exact .inl h
 ·
  refine .inr ⟨b,off,ha,hb,Nat.lt_of_lt_of_le hbs hg.size,fun i hi=>⟨?_,(hc i hi).2⟩⟩;rw[World.cell?_of_block (w:=w) (hg.block b hbs (fun e=>by have:=hr b e.symm;omega))];exact (hc i hi).1
theorem Ms.up {w w':World}{a:Option Addr}{zs:List Int}(h:Ms w w.heap.size a zs)(k:AC w w'):Ms w' w'.heap.size a zs:=by
 have h':=h.kept k.grownBy (by simp);refine⟨h'.1,?_⟩;rcases h'.2 with e|⟨b,off,ha,hb,hbs,hc⟩
 . exact .inl e
 . exact .inr ⟨b,off,ha,hbs,hbs,hc⟩
theorem IU.lt {w:World}{B g:Nat}(h:IU w B g):g<w.heap.size:=by
 obtain⟨_,a,cap,zs,i,x,hh,_⟩:=h;exact (Array.getElem?_eq_some_iff.1 hh).1
theorem IU.kept {w w':World}{B g:Nat}{row:Option Nat}(h:IU w B g)(hg:w.grownBy w' row)(hne:row≠some g)(hr:∀k,row=some k->B<=k):IU w' B g:=by
 have hlt:=h.lt;obtain⟨hB,a,cap,zs,i,x,hh,hi,hb⟩:=h;exact⟨hB,a,cap,zs,i,x,by rw[hg.block g hlt (fun e=>hne e.symm)];exact hh,hi,hb.kept hg hr⟩
theorem IU.keep {w w':World}{B g:Nat}(h:IU w B g)(k:AC w w'):IU w' B g:=h.kept k.grownBy (by simp) (by simp)
def KO (w:World)(B g:Nat)(a:Option Addr)(cap:Nat)(zs:List Int)(i h:Int):Prop:=
 B<=g/\w.heap[g]? = some (.cells #[.slice a zs.length cap,.int .i64 i,.int .i64 h] 91 (0,0))/\Ms w B a zs
theorem KO.cur {w:World}{B g:Nat}{a:Option Addr}{cap:Nat}{zs:List Int}{i h:Int}(c:KO w B g a cap zs i h)(h0:0<=i)(hi:i<=zs.length):IU w B g:=by
 obtain⟨n,rfl⟩:=Int.eq_ofNat_of_zero_le h0;exact⟨c.1,a,cap,zs,n,h,c.2.1,by omega,c.2.2⟩
theorem Aw (w:World)(g j:Nat)(v:Value):w.grownBy (w.setCell ⟨g,j,none⟩ v) (some g):=
 ⟨rfl,rfl,rfl,by simp,fun k _ hk=>heap_setCell_other w ⟨g,j,none⟩ k v (fun e=>hk (by simp[e]))⟩
theorem KO.nT {w:World}{B g:Nat}{a:Option Addr}{cap:Nat}{zs:List Int}{i h:Int}(c:KO w B g a cap zs i h)(y:Int):KO (w.setCell ⟨g,2,none⟩ (.int .i64 y)) B g a cap zs i y:=
 ⟨c.1,by rw[heap_setCell_same w g 2 _ _ _ c.2.1];rfl,c.2.2.kept (Aw w g 2 _) (by intro k hk;simp at hk;subst hk;exact c.1)⟩
theorem KO.um {w:World}{B g:Nat}{a:Option Addr}{cap:Nat}{zs:List Int}{i h:Int}(c:KO w B g a cap zs i h)(y:Int):KO (w.setCell ⟨g,1,none⟩ (.int .i64 y)) B g a cap zs y h:=
 ⟨c.1,by rw[heap_setCell_same w g 1 _ _ _ c.2.1];rfl,c.2.2.kept (Aw w g 1 _) (by intro k hk;simp at hk;subst hk;exact c.1)⟩
theorem EP (w:World)(n:Nat)(row:Option Nat):w.grownBy (w.drewN n) row:=⟨rfl,rfl,rfl,Nat.le_refl _,fun _ _ _=>rfl⟩
theorem KO.drewN {w:World}{B g:Nat}{a:Option Addr}{cap:Nat}{zs:List Int}{i h:Int}(c:KO w B g a cap zs i h)(n:Nat):KO (w.drewN n) B g a cap zs i h:=
 ⟨c.1,c.2.1,c.2.2.kept (row:=none) (EP w n none) (by simp)⟩
theorem Hb (w:World)(B g:Nat)(hc:IU w B g):
  Calls Tryz.prog 85 #[.pointer (some ⟨g,0,none⟩)] w fun e w'=>∃x,e = .returned (.int .i64 x)/\0<=x/\x<=255/\IU w' B g/\w.grownBy w' (some g):=by
 obtain⟨hB,a,cap,zs,i,x,hh,hi,hb⟩:=hc;have C:KO w B g a cap zs i x:=⟨hB,hh,hb⟩;have c0:w.cell? ⟨g,0,none⟩=some (.slice a zs.length cap):=by rw[cell_of_row w g 0 _ _ (0,0) hh];rfl
 have c1:w.cell? ⟨g,1,none⟩=some (.int .i64 i):=by rw[cell_of_row w g 1 _ _ (0,0) hh];rfl
 have c2:w.cell? ⟨g,2,none⟩=some (.int .i64 x):=by rw[cell_of_row w g 2 _ _ (0,0) hh];rfl
 have f1:w.frozen? ⟨g,1,none⟩=false:=frozen_of_row w g 1 _ _ hh;have f2:w.frozen? ⟨g,2,none⟩=false:=frozen_of_row w g 2 _ _ hh;clear hh;have hzl:=hb.1;by_cases hlt:i<zs.length
 ·
  rcases hb.2 with h|⟨b,off,rfl,yQ,hbs,hcc⟩
  . exfalso;rw[h] at hlt;simp at hlt
  obtain⟨d1,d2,d3⟩:=hcc i hlt;have hbg:b≠g:=by omega
  obtain⟨q,hq⟩:∃q,q=zs.getD i 0:=⟨_,rfl⟩;rw[<-hq] at d1 d2 d3;clear hcc hq hb;go_enter Tryz.func85,Tryz.ntmps85
  go_wp2;go_quiet (fail)
  go_wp2;go_quiet (fail)
  go_wp2;go_quiet (fail)
  go_wp2;go_ret;exact⟨_,rfl,(OO _).1,(OO _).2,(((C.nT _).drewN _).um _).cur (by omega) (by omega),A6 (A6 (Aw w g 2 _) (EP _ _ _)) (Aw _ g 1 _)⟩
 ·
  clear hb;go_enter Tryz.func85,Tryz.ntmps85
  go_wp2;go_quiet (fail)
  go_wp2;go_quiet (fail)
  go_wp2;go_ret;exact⟨_,rfl,(OO _).1,(OO _).2,(((C.nT _).drewN _).drewN _).cur (by omega) (by omega),A6 (A6 (Aw w g 2 _) (EP _ _ _)) (EP _ _ _)⟩
theorem TR (w:World)(a:Option Addr)(cap:Nat)(zs:List Int)(hb:Ms w w.heap.size a zs):
  Calls Tryz.prog 36 #[.slice a zs.length cap] w fun e w'=>e = .returned (.pointer (some ⟨w.heap.size,0,none⟩))/\IU w' w.heap.size w.heap.size/\AC w w':=by
 have hzl:=hb.1;go_enter Tryz.func36,Tryz.ntmps36
 go_wp2;go_loop [3,4] (fun x i=>∃(k:Nat) (h:Int),k<=zs.length/\i = .int .i64 k/\x = .int .i64 h) (fun _ i=>zs.length-(intOf i).toNat)
 case atStart=>exact⟨0,_,Nat.zero_le _,rfl,rfl⟩
 case round=>
  obtain⟨k,h,hk,rfl,rfl⟩:=hrel;by_cases hlt:k<zs.length
  ·
   rcases hb.2 with h|⟨b,off,rfl,yQ,hbs,hcc⟩
   . exfalso;rw[h] at hlt;simp at hlt
   obtain⟨d1,d2,d3⟩:=hcc k hlt;obtain⟨q,hq⟩:∃q,q=zs.getD k 0:=⟨_,rfl⟩;rw[<-hq] at d1 d2 d3;clear hcc hq;go_wp2;go_round
   case rel=>exact⟨k+1,_,by omega,by go_num,rfl⟩
   case measure=>simp[intOf];omega
  ·
   go_wp2;go_ret;refine⟨rfl,⟨Nat.le_refl _,a,cap,zs,0,h,heap_alloc_new w _,Nat.zero_le _,?_⟩,(AC.refl w).alloc _⟩;exact hb.kept (World.grownBy_alloc w _ none) (by simp)
theorem JO {x n:Int}(h1:1<=n):0<=x % n/\x % n<n:=⟨Int.emod_nonneg x (by omega),Int.emod_lt_of_pos x (by omega)⟩
theorem Ao (w:World)(B g:Nat)(n:Int)(hc:IU w B g)(h1:1<=n):
  Calls Tryz.prog 61 #[.pointer (some ⟨g,0,none⟩),.int .i64 n] w fun e w'=>∃x,e = .returned (.int .i64 x)/\0<=x/\x<n/\IU w' B g/\w.grownBy w' (some g):=by
 by_cases h2:n<=256
 ·
  go_enter Tryz.func61,Tryz.ntmps61
  go_wp2_with fail
  refine (Hb _ B g hc).mono ?_;rintro e w1 ⟨x,rfl,x0,x1,c1,g1⟩;go_wp2;go_ret;exact⟨_,rfl,(JO h1).1,(JO h1).2,c1,g1⟩
 ·
  go_enter Tryz.func61,Tryz.ntmps61
  go_wp2_with fail
  refine (Hb _ B g hc).mono ?_;rintro e w1 ⟨x,rfl,x0,x1,c1,g1⟩;go_wp2_with fail
  refine (Hb _ B g c1).mono ?_;rintro e w2 ⟨y,rfl,y0,y1,c2,g2⟩;go_wp2_with fail
  refine (Hb _ B g c2).mono ?_;rintro e w3 ⟨z,rfl,z0,z1,c3,g3⟩;go_wp2_with fail
  refine (Hb _ B g c3).mono ?_;rintro e w4 ⟨u,rfl,u0,u1,c4,g4⟩;go_wp2;go_ret;exact⟨_,rfl,(JO h1).1,(JO h1).2,c4,A6 (A6 (A6 g1 g2) g3) g4⟩
theorem C2 (w:World)(B g:Nat)(n:Int)(hc:IU w B g)(h1:1<=n):
  Calls Tryz.prog 60 #[.pointer (some ⟨g,0,none⟩),.int .i64 n] w fun e w'=>∃b:Bool,e = .returned (.bool b)/\IU w' B g/\w.grownBy w' (some g):=by
 go_enter Tryz.func60,Tryz.ntmps60
 go_wp2_with fail
 refine (Ao _ B g _ hc h1).mono ?_;rintro e w1 ⟨x,rfl,x0,x1,c1,g1⟩;go_wp2;go_ret;exact⟨_,rfl,c1,g1⟩
theorem On {w1 w2:World}{e:TypeId}{row:Option Nat}(l:List Int)(hg:(w1.alloc (.cells (l.map (Value.int .i64)).toArray e)).grownBy w2 row)(hne:row≠some w1.heap.size)(j:Nat)(hj:j<l.length):
  ∃y,w2.cell? ⟨w1.heap.size,j,none⟩=some (.int .i64 y):=by
 refine⟨l[j],?_⟩;have h1:=heap_alloc_new w1 (.cells (l.map (Value.int .i64)).toArray e);rw[World.cell?_of_block (w:=w1.alloc (.cells (l.map (Value.int .i64)).toArray e)) (hg.block w1.heap.size (by simp) (fun e=>hne e.symm)),cell_of_row _ _ j _ _ _ h1];simp[hj]
theorem MU {w:World}{a:Option Addr}{len cap:Nat}{ys:List Int}(hlen:len<=4096)
  (h:(a=none/\len=0/\cap=0/\ys=[])\/∃x,a=some x/\len<=cap/\cap<=maxLen/\ys.length=cap/\(∀i,i<ys.length->w.cell? (x.add i)=some (.int .u8 (ys.getD i 0)))/\∀n∈ys,(Lit.int .u8 n).wf=true):
  ∃zs:List Int,zs.length=len/\Ms w w.heap.size a zs:=by
 rcases h with ⟨rfl,rfl,rfl,rfl⟩|⟨x,rfl,hl,hm,hy,hc,hw⟩
 . exact⟨[],rfl,by simp,.inl rfl⟩
 ·
  have hzl:(ys.take len).length=len:=by rw[List.length_take];omega
  refine⟨ys.take len,hzl,by omega,?_⟩;by_cases h0:len=0
  . left;subst h0;simp
  ·
   right;obtain⟨b,off,spot⟩:=x;have hc0:=hc 0 (by omega);have hspot:spot=none:=by simpa [Addr.add] using World.cell?_spot hc0
   subst hspot
   have hcc:∀i,i<(ys.take len).length->w.cell? ⟨b,off+i,none⟩=some (.int .u8 ((ys.take len).getD i 0))/\0<=(ys.take len).getD i 0/\(ys.take len).getD i 0<=255:=by
    intro i hi;have hi':i<ys.length:=by omega
    have h1:=hc i hi';have e1:(⟨b,off,none⟩:Addr).add i=⟨b,off+i,none⟩:=by unfold Addr.add;split<;>simp_all
    rw[e1] at h1
    have e2:(ys.take len).getD i 0=ys.getD i 0:=by
     rw[List.getD_eq_getElem?_getD,List.getD_eq_getElem?_getD,List.getElem?_take,if_pos (by omega)]
    rw[e2];refine⟨h1,?_⟩;have hm:ys.getD i 0∈ys:=by rw[List.getD_eq_getElem?_getD,List.getElem?_eq_getElem hi'];exact List.getElem_mem hi'
    have:=bounds_u8 (hw _ hm);omega
   refine⟨b,off,rfl,?_,?_,hcc⟩
   all_goals
    have h2:=(hcc 0 (by omega)).1;apply Classical.byContradiction;intro hnb;have h3:w.heap[b]? = none:=by simp;omega
    simp[World.cell?,h3] at h2
theorem CM (w:World)(B g:Nat)(lo hi:Int)(hc:IU w B g)(h0:-1099511627776<=lo)(h1:lo<=hi)(h2:hi<=1099511627776):
  Calls Tryz.prog 38 #[.pointer (some ⟨g,0,none⟩),.int .i64 lo,.int .i64 hi] w fun e w'=>∃x,e = .returned (.int .i64 x)/\lo<=x/\x<=hi/\IU w' B g/\w.grownBy w' (some g):=by
 go_enter Tryz.func38,Tryz.ntmps38
 go_wp2_with fail
 refine (Ao _ B g _ hc (by omega)).mono ?_;rintro e w1 ⟨x,rfl,x0,x1,c1,g1⟩;go_wp2;go_ret;exact⟨_,rfl,by omega,by omega,c1,g1⟩
abbrev DG (k p v g:Int):Obj:= .cells #[.int .i64 k,.int .i64 p,.int .i64 v,.int .i64 g] 51
def St (w1 wr:World)(D:Nat)(k p v g:Int):Prop:=wr.heap[D]? = some (DG k p v g)/\w1.grownBy wr (some D)
theorem St.start {w1:World}(k p v g:Int):St w1 (w1.alloc (DG k p v g)) w1.heap.size k p v g:=
 ⟨heap_alloc_new w1 _,World.grownBy_alloc w1 _ (some w1.heap.size)⟩
theorem St.size {w1 wr:World}{D:Nat}{k p v g:Int}(h:St w1 wr D k p v g):D<wr.heap.size:=(Array.getElem?_eq_some_iff.1 h.1).1
theorem St.keep {w1 wr wr':World}{D:Nat}{k p v g:Int}(h:St w1 wr D k p v g)(hk:AC wr wr'):St w1 wr' D k p v g:=
 ⟨(Below.block hk D h.size).trans h.1,A6 h.2 ⟨Below.os hk,Below.tape hk,Below.output hk,Below.size hk,fun i hi _=>Below.block hk i hi⟩⟩
theorem St.cells {w1 wr:World}{D:Nat}{k p v g:Int}(h:St w1 wr D k p v g):
  wr.cell? ⟨D,0,none⟩=some (.int .i64 k)/\wr.cell? ⟨D,1,none⟩=some (.int .i64 p)/\wr.cell? ⟨D,2,none⟩=some (.int .i64 v)/\wr.cell? ⟨D,3,none⟩=some (.int .i64 g):=
 ⟨cell_of_row wr D 0 _ _ (0,0) h.1,cell_of_row wr D 1 _ _ (0,0) h.1,cell_of_row wr D 2 _ _ (0,0) h.1,cell_of_row wr D 3 _ _ (0,0) h.1⟩
theorem St.free {w1 wr:World}{D:Nat}{k p v g:Int}(h:St w1 wr D k p v g)(i:Nat):wr.frozen? ⟨D,i,none⟩=false:=frozen_of_row wr D i _ _ h.1
theorem St.set0 {w1 wr:World}{D:Nat}{k p v g:Int}(h:St w1 wr D k p v g)(x:Int):St w1 (wr.setCell ⟨D,0,none⟩ (.int .i64 x)) D x p v g:=
 ⟨by rw[heap_setCell_same wr D 0 _ _ _ h.1];rfl,A6 h.2 ⟨rfl,rfl,rfl,by simp,fun i _ hi=>heap_setCell_other wr ⟨D,0,none⟩ i _ (fun e=>hi (by simp[e]))⟩⟩
theorem St.set1 {w1 wr:World}{D:Nat}{k p v g:Int}(h:St w1 wr D k p v g)(x:Int):St w1 (wr.setCell ⟨D,1,none⟩ (.int .i64 x)) D k x v g:=
 ⟨by rw[heap_setCell_same wr D 1 _ _ _ h.1];rfl,A6 h.2 ⟨rfl,rfl,rfl,by simp,fun i _ hi=>heap_setCell_other wr ⟨D,1,none⟩ i _ (fun e=>hi (by simp[e]))⟩⟩
theorem St.set2 {w1 wr:World}{D:Nat}{k p v g:Int}(h:St w1 wr D k p v g)(x:Int):St w1 (wr.setCell ⟨D,2,none⟩ (.int .i64 x)) D k p x g:=
 ⟨by rw[heap_setCell_same wr D 2 _ _ _ h.1];rfl,A6 h.2 ⟨rfl,rfl,rfl,by simp,fun i _ hi=>heap_setCell_other wr ⟨D,2,none⟩ i _ (fun e=>hi (by simp[e]))⟩⟩
theorem St.set3 {w1 wr:World}{D:Nat}{k p v g:Int}(h:St w1 wr D k p v g)(x:Int):St w1 (wr.setCell ⟨D,3,none⟩ (.int .i64 x)) D k p v x:=
 ⟨by rw[heap_setCell_same wr D 3 _ _ _ h.1];rfl,A6 h.2 ⟨rfl,rfl,rfl,by simp,fun i _ hi=>heap_setCell_other wr ⟨D,3,none⟩ i _ (fun e=>hi (by simp[e]))⟩⟩
theorem St.keep1 {w1 wr:World}{k p v g:Int}(h:St w1 wr w1.heap.size k p v g):AC w1 wr:=
 (AC.refl w1).grown h.2 (fun k hk=>by simp at hk;omega)
def FY (w:World)(D:Nat)(k p v g:Int):Prop:=w.heap[D]? = some (DG k p v g)
theorem FY.lt {w:World}{D:Nat}{k p v g:Int}(h:FY w D k p v g):D<w.heap.size:=(Array.getElem?_eq_some_iff.1 h).1
theorem FY.kept {w w':World}{D:Nat}{k p v g:Int}{row:Option Nat}(h:FY w D k p v g)(hg:w.grownBy w' row)(hne:row≠some D):FY w' D k p v g:=
 (hg.block D h.lt (fun e=>hne e.symm)).trans h
theorem FY.cells {w:World}{D:Nat}{k p v g:Int}(h:FY w D k p v g):
  w.cell? ⟨D,0,none⟩=some (.int .i64 k)/\w.cell? ⟨D,1,none⟩=some (.int .i64 p)/\w.cell? ⟨D,2,none⟩=some (.int .i64 v)/\w.cell? ⟨D,3,none⟩=some (.int .i64 g):=
 ⟨cell_of_row w D 0 _ _ (0,0) h,cell_of_row w D 1 _ _ (0,0) h,cell_of_row w D 2 _ _ (0,0) h,cell_of_row w D 3 _ _ (0,0) h⟩
theorem FY.free {w:World}{D:Nat}{k p v g:Int}(h:FY w D k p v g):w.frozen? ⟨D,0,none⟩=false/\w.frozen? ⟨D,1,none⟩=false/\w.frozen? ⟨D,2,none⟩=false/\w.frozen? ⟨D,3,none⟩=false:=
 ⟨frozen_of_row w D 0 _ _ h,frozen_of_row w D 1 _ _ h,frozen_of_row w D 2 _ _ h,frozen_of_row w D 3 _ _ h⟩
theorem FY.set0 {w:World}{D:Nat}{k p v g:Int}(h:FY w D k p v g)(x:Int):FY (w.setCell ⟨D,0,none⟩ (.int .i64 x)) D x p v g:=by unfold FY;rw[heap_setCell_same w D 0 _ _ _ h];rfl
theorem FY.set1 {w:World}{D:Nat}{k p v g:Int}(h:FY w D k p v g)(x:Int):FY (w.setCell ⟨D,1,none⟩ (.int .i64 x)) D k x v g:=by unfold FY;rw[heap_setCell_same w D 1 _ _ _ h];rfl
theorem FY.set2 {w:World}{D:Nat}{k p v g:Int}(h:FY w D k p v g)(x:Int):FY (w.setCell ⟨D,2,none⟩ (.int .i64 x)) D k p x g:=by unfold FY;rw[heap_setCell_same w D 2 _ _ _ h];rfl
theorem FY.set3 {w:World}{D:Nat}{k p v g:Int}(h:FY w D k p v g)(x:Int):FY (w.setCell ⟨D,3,none⟩ (.int .i64 x)) D k p v x:=by unfold FY;rw[heap_setCell_same w D 3 _ _ _ h];rfl
theorem FY.new (w:World)(k p v g:Int):FY (w.alloc (DG k p v g)) w.heap.size k p v g:=heap_alloc_new w _
def Dr (w wr:World)(B c:Nat):Prop:=IU wr B c/\w.grownBy wr (some c)
theorem Dr.step {w wr wr':World}{B c:Nat}(h:Dr w wr B c)(hc:IU wr' B c)(hg:wr.grownBy wr' (some c)):Dr w wr' B c:=⟨hc,A6 h.2 hg⟩
theorem Dr.alloc {w wr:World}{B c:Nat}(h:Dr w wr B c)(o:Obj):Dr w (wr.alloc o) B c:=
 ⟨h.1.keep ((AC.refl wr).alloc o),A6 h.2 (World.grownBy_alloc wr o (some c))⟩
theorem Dr.set {w wr:World}{B c D:Nat}(h:Dr w wr B c)(hD:w.heap.size<=D)(hc:c<w.heap.size)(hB:B<=c)(j:Nat)(x:Value):Dr w (wr.setCell ⟨D,j,none⟩ x) B c:=by
 have hg:=Aw wr D j x;refine⟨h.1.kept hg (by simp;omega) (by intro k hk;simp at hk;omega),?_⟩;exact⟨hg.os.trans h.2.os,hg.tape.trans h.2.tape,hg.output.trans h.2.output,Nat.le_trans h.2.size hg.size,fun i hi hne=>(hg.block i (Nat.lt_of_lt_of_le hi h.2.size) (by simp;omega)).trans (h.2.block i hi hne)⟩
theorem Dr.refl {w:World}{B c:Nat}(h:IU w B c):Dr w w B c:=⟨h,EP w 0 _⟩
theorem MA (w:World)(B c:Nat)(hc:IU w B c):
  Calls Tryz.prog 116 #[.pointer (some ⟨c,0,none⟩)] w fun e w'=>∃k p v g,e = .returned (Fe k p v g)/\Dr w w' B c/\1<=k/\k<=4:=by
 have hcl:=hc.lt;have hB:=hc.1;have R0:=FY.new w 0 0 0 0;have D0:=(Dr.refl hc).alloc (DG 0 0 0 0);go_enter Tryz.func116,Tryz.ntmps116
 go_wp2_with fail
 refine (Ao _ B c _ D0.1 (by omega)).mono ?_;rintro e w1 ⟨x,rfl,x0,x1,c1,g1⟩;have R1:=R0.kept g1 (by simp;omega);have D1:=D0.step c1 g1;clear R0 D0 c1 g1;go_wp2_with fail
 refine (Ao _ B c _ D1.1 (by omega)).mono ?_;rintro e w2 ⟨y,rfl,y0,y1,c2,g2⟩;have R2:=R1.kept g2 (by simp;omega);have D2:=D1.step c2 g2;have S2:=D2.2.size;clear R1 D1 c2 g2;have X2:=FY.new w2 (1+x) y 0 0;have R2':=R2.kept (World.grownBy_alloc w2 (DG (1+x) y 0 0) none) (by simp);have D2':=D2.alloc (DG (1+x) y 0 0);have hRX:w.heap.size<w2.heap.size:=R2.lt;clear R2 D2;go_wp2_with fail
 refine (C2 _ B c _ D2'.1 (by omega)).mono ?_;rintro e w3 ⟨b,rfl,c3,g3⟩;have X3:=X2.kept g3 (by simp;omega);have R3:=R2'.kept g3 (by simp;omega);have D3:=D2'.step c3 g3;clear X2 R2' D2' c3 g3;obtain⟨s0,s1,s2,s3⟩:=X3.cells;obtain⟨f0,f1,f2,f3⟩:=X3.free;have hX3:=X3.lt;go_upto_if 11 with fail
 go_cut [] from 4 (fun wx=>∃K,1<=K/\K<=4/\FY wx w2.heap.size K y 0 0/\FY wx w.heap.size 0 0 0 0/\Dr w wx B c)
 case first=>
  cases b
  ·
   go_wp2;go_meet;case rel=>exact⟨_,by omega,by omega,X3,R3,D3⟩
  ·
   go_wp2_with fail
   refine (Ao _ B c _ D3.1 (by omega)).mono ?_;rintro e w4 ⟨z,rfl,z0,z1,c4,g4⟩;have X4:=X3.kept g4 (by simp;omega);have R4:=R3.kept g4 (by simp;omega);have D4:=D3.step c4 g4;obtain⟨t0,t1,t2,t3⟩:=X4.cells;obtain⟨h0,h1,h2,h3⟩:=X4.free;have hX4:=X4.lt;go_wp2;go_meet;case rel=>exact⟨_,by omega,by omega,X4.set0 _,R4.kept (Aw w4 _ 0 _) (by simp;omega),D4.set (by omega) hcl hB 0 _⟩
 case rest=>
  obtain⟨K,k0,k1,X4,R4,D4⟩:=hcut;clear X3 R3 D3 s0 s1 s2 s3 f0 f1 f2 f3 hX3;obtain⟨t0,t1,t2,t3⟩:=X4.cells;obtain⟨h0,h1,h2,h3⟩:=X4.free;have hX4:=X4.lt;have hK:K=1\/K=2\/K=3\/K=4:=by omega
  rcases hK with rfl|rfl|rfl|rfl
  ·
   clear k0 k1;obtain⟨r0,r1,r2,r3⟩:=R4.cells;obtain⟨q0,q1,q2,q3⟩:=R4.free;go_wp2;have hZ:=(((R4.set0 1).set1 y).set2 0).set3 0;refine bodyPost_ret (Ac (by rfl) _ _ w.heap.size _ _ (0,0) _ rfl hZ Tryz.underlying51 rfl (by kernel_rfl)) rfl ?_;exact⟨_,_,_,_,rfl,(((D4.set (Nat.le_refl _) hcl hB 0 _).set (Nat.le_refl _) hcl hB 1 _).set (Nat.le_refl _) hcl hB 2 _).set (Nat.le_refl _) hcl hB 3 _,by decide,by decide⟩
  ·
   clear k0 k1;go_wp2_with fail
   refine (Ao _ B c _ D4.1 (by omega)).mono ?_;rintro e w5 ⟨z,rfl,z0,z1,c5,g5⟩;have X5:=X4.kept g5 (by simp;omega);have R5:=R4.kept g5 (by simp;omega);have D5:=D4.step c5 g5;obtain⟨v0,v1,v2,v3⟩:=X5.cells;obtain⟨n0,n1,n2,n3⟩:=X5.free;have hX5:=X5.lt;have R6:=R5.kept (Aw w5 w2.heap.size 2 (.int .i64 (1+z))) (by simp;omega);have D6:=D5.set (show w.heap.size<=w2.heap.size by omega) hcl hB 2 (.int .i64 (1+z));obtain⟨r0,r1,r2,r3⟩:=R6.cells;obtain⟨q0,q1,q2,q3⟩:=R6.free;go_wp2;have hZ:=(((R6.set0 2).set1 y).set2 (1+z)).set3 0;refine bodyPost_ret (Ac (by rfl) _ _ w.heap.size _ _ (0,0) _ rfl hZ Tryz.underlying51 rfl (by kernel_rfl)) rfl ?_;exact⟨_,_,_,_,rfl,(((D6.set (Nat.le_refl _) hcl hB 0 _).set (Nat.le_refl _) hcl hB 1 _).set (Nat.le_refl _) hcl hB 2 _).set (Nat.le_refl _) hcl hB 3 _,by decide,by decide⟩
  ·
   clear k0 k1;go_wp2_with fail
   refine (Ao _ B c _ D4.1 (by omega)).mono ?_;rintro e w5 ⟨z,rfl,z0,z1,c5,g5⟩;have X5:=X4.kept g5 (by simp;omega);have R5:=R4.kept g5 (by simp;omega);have D5:=D4.step c5 g5;obtain⟨v0,v1,v2,v3⟩:=X5.cells;obtain⟨n0,n1,n2,n3⟩:=X5.free;have hX5:=X5.lt;have R6:=R5.kept (Aw w5 w2.heap.size 2 (.int .i64 (1+z))) (by simp;omega);have D6:=D5.set (show w.heap.size<=w2.heap.size by omega) hcl hB 2 (.int .i64 (1+z));obtain⟨r0,r1,r2,r3⟩:=R6.cells;obtain⟨q0,q1,q2,q3⟩:=R6.free;go_wp2;have hZ:=(((R6.set0 3).set1 y).set2 (1+z)).set3 0;refine bodyPost_ret (Ac (by rfl) _ _ w.heap.size _ _ (0,0) _ rfl hZ Tryz.underlying51 rfl (by kernel_rfl)) rfl ?_;exact⟨_,_,_,_,rfl,(((D6.set (Nat.le_refl _) hcl hB 0 _).set (Nat.le_refl _) hcl hB 1 _).set (Nat.le_refl _) hcl hB 2 _).set (Nat.le_refl _) hcl hB 3 _,by decide,by decide⟩
  ·
   clear k0 k1;have R6:=R4.kept (Aw wc w2.heap.size 1 (.int .i64 0)) (by simp;omega);have D6:=D4.set (show w.heap.size<=w2.heap.size by omega) hcl hB 1 (.int .i64 0);obtain⟨r0,r1,r2,r3⟩:=R6.cells;obtain⟨q0,q1,q2,q3⟩:=R6.free;go_wp2;have hZ:=(((R6.set0 4).set1 0).set2 0).set3 0;refine bodyPost_ret (Ac (by rfl) _ _ w.heap.size _ _ (0,0) _ rfl hZ Tryz.underlying51 rfl (by kernel_rfl)) rfl ?_;exact⟨_,_,_,_,rfl,(((D6.set (Nat.le_refl _) hcl hB 0 _).set (Nat.le_refl _) hcl hB 1 _).set (Nat.le_refl _) hcl hB 2 _).set (Nat.le_refl _) hcl hB 3 _,by decide,by decide⟩
theorem Mw (w:World)(B c:Nat)(hc:IU w B c):
  Calls Tryz.prog 98 #[.pointer (some ⟨c,0,none⟩)] w fun e w'=>∃k p v g,e = .returned (Fe k p v g)/\Dr w w' B c:=by
 have hcl:=hc.lt;have hB:=hc.1;have R0:=FY.new w 0 0 0 0;have D0:=(Dr.refl hc).alloc (DG 0 0 0 0);go_enter Tryz.func98,Tryz.ntmps98
 go_wp2_with fail
 refine (MA _ B c D0.1).mono ?_;rintro e w1 ⟨k,p,v,g,rfl,⟨c1,g1⟩,-,-⟩;have R1:=R0.kept g1 (by simp;omega);have D1:=D0.step c1 g1;clear R0 D0 c1 g1;have hRX:w.heap.size<w1.heap.size:=R1.lt;have X2:=FY.new w1 k p v g;have R2:=R1.kept (World.grownBy_alloc w1 (DG k p v g) none) (by simp);have D2:=D1.alloc (DG k p v g);clear R1 D1;obtain⟨W2,hW2⟩:∃W2,W2=w1.alloc (DG k p v g):=⟨_,rfl⟩;go_upto_region 2 with fail
 go_cut [12] from 4 (fun s12 wx=>∃b,s12 = .bool b/\FY wx w1.heap.size k p v g/\FY wx w.heap.size 0 0 0 0/\Dr w wx B c)
 case first=>
  clear hW2;by_cases hk:k<=2
  ·
   go_wp2_with fail
   refine (C2 _ B c _ D2.1 (by omega)).mono ?_;rintro e w3 ⟨b,rfl,c3,g3⟩;go_wp2;go_meet;case rel=>exact⟨_,rfl,X2.kept g3 (by simp;omega),R2.kept g3 (by simp;omega),D2.step c3 g3⟩
  ·
   go_wp2;go_meet;case rel=>exact⟨_,rfl,X2,R2,D2⟩
 case rest=>
  obtain⟨b,rfl,X3,R3,D3⟩:=hcut;clear X2 R2 D2 hW2;go_upto_if 12 with fail
  go_cut [] from 4 (fun wx=>∃g,FY wx w1.heap.size k p v g/\FY wx w.heap.size 0 0 0 0/\Dr w wx B c)
  case first=>
   cases b
   ·
    go_wp2;go_meet;case rel=>exact⟨_,X3,R3,D3⟩
   ·
    go_wp2_with fail
    refine (Ao _ B c _ D3.1 (by omega)).mono ?_;rintro e w4 ⟨z,rfl,z0,z1,c4,g4⟩;have X4:=X3.kept g4 (by simp;omega);have R4:=R3.kept g4 (by simp;omega);have D4:=D3.step c4 g4;obtain⟨t0,t1,t2,t3⟩:=X4.cells;obtain⟨h0,h1,h2,h3⟩:=X4.free;have hX4:=X4.lt;go_wp2;go_meet;case rel=>exact⟨_,X4.set3 _,R4.kept (Aw w4 _ 3 _) (by simp;omega),D4.set (by omega) hcl hB 3 _⟩
  case rest=>
   clear X3 R3 D3;obtain⟨g,X3,R3,D3⟩:=hcut;go_wp2_with fail
   refine (C2 _ B c _ D3.1 (by omega)).mono ?_;rintro e w4 ⟨b,rfl,c4,g4⟩;have X4:=X3.kept g4 (by simp;omega);have R4:=R3.kept g4 (by simp;omega);have D4:=D3.step c4 g4;clear X3 R3 D3 c4 g4;go_upto_if 18 with fail
   go_cut [] from 4 (fun wx=>∃k p v g,FY wx w1.heap.size k p v g/\FY wx w.heap.size 0 0 0 0/\Dr w wx B c)
   case first=>
    cases b
    ·
     go_wp2;go_meet;case rel=>exact⟨_,_,_,_,X4,R4,D4⟩
    go_wp2_with fail
    refine (Ao _ B c _ D4.1 (by omega)).mono ?_;rintro e w5 ⟨q,rfl,q0,q1,c5,g5⟩;have X5:=X4.kept g5 (by simp;omega);have R5:=R4.kept g5 (by simp;omega);have D5:=D4.step c5 g5;have hX5:=X5.lt;clear X4 R4 D4 c5 g5;have hq:q=0\/q=1\/q=2\/q=3:=by omega
    clear q0 q1;rcases hq with rfl|rfl|rfl|rfl
    ·
     go_wp2_with fail
     refine (CM _ B c _ _ D5.1 (by omega) (by omega) (by omega)).mono ?_;rintro e w6 ⟨z,rfl,z0,z1,c6,g6⟩;have X6:=X5.kept g6 (by simp;omega);have R6:=R5.kept g6 (by simp;omega);have D6:=D5.step c6 g6;obtain⟨v0,v1,v2,v3⟩:=X6.cells;obtain⟨n0,n1,n2,n3⟩:=X6.free;have hX6:=X6.lt;go_wp2;go_meet;case rel=>exact⟨_,_,_,_,X6.set0 _,R6.kept (Aw w6 _ 0 _) (by simp;omega),D6.set (by omega) hcl hB 0 _⟩
    ·
     have DL:=D5.alloc (.cells #[.int .i64 (-1),.int .i64 2,.int .i64 3] 2);have XL:=X5.kept (World.grownBy_alloc w5 (.cells #[.int .i64 (-1),.int .i64 2,.int .i64 3] 2) none) (by simp);have RL:=R5.kept (World.grownBy_alloc w5 (.cells #[.int .i64 (-1),.int .i64 2,.int .i64 3] 2) none) (by simp);have hSz:=AD w5 (.cells #[.int .i64 (-1),.int .i64 2,.int .i64 3] 2);go_wp2_with fail
     refine (Ao _ B c _ DL.1 (by omega)).mono ?_;rintro e w6 ⟨z,rfl,z0,z1,c6,g6⟩;obtain⟨zn,rfl⟩:=Int.eq_ofNat_of_zero_le z0;obtain⟨y,hy⟩:=On (w1:=w5) (e:=2) [-1,2,3] g6 (by simp;omega) zn (by simp;omega);have hS6:w5.heap.size<w6.heap.size:=by have:=g6.size;omega
     have X6:=XL.kept g6 (by simp;omega);have R6:=RL.kept g6 (by simp;omega);have D6:=DL.step c6 g6;clear DL XL RL hSz c6 g6;obtain⟨v0,v1,v2,v3⟩:=X6.cells;obtain⟨n0,n1,n2,n3⟩:=X6.free;have hX6:=X6.lt;go_wp2;go_meet;case rel=>exact⟨_,_,_,_,X6.set1 _,R6.kept (Aw w6 _ 1 _) (by simp;omega),D6.set (by omega) hcl hB 1 _⟩
    ·
     have DL:=D5.alloc (.cells #[.int .i64 (-1),.int .i64 0,.int .i64 9,.int .i64 10] 2);have XL:=X5.kept (World.grownBy_alloc w5 (.cells #[.int .i64 (-1),.int .i64 0,.int .i64 9,.int .i64 10] 2) none) (by simp);have RL:=R5.kept (World.grownBy_alloc w5 (.cells #[.int .i64 (-1),.int .i64 0,.int .i64 9,.int .i64 10] 2) none) (by simp);have hSz:=AD w5 (.cells #[.int .i64 (-1),.int .i64 0,.int .i64 9,.int .i64 10] 2);go_wp2_with fail
     refine (Ao _ B c _ DL.1 (by omega)).mono ?_;rintro e w6 ⟨z,rfl,z0,z1,c6,g6⟩;obtain⟨zn,rfl⟩:=Int.eq_ofNat_of_zero_le z0;obtain⟨y,hy⟩:=On (w1:=w5) (e:=2) [-1,0,9,10] g6 (by simp;omega) zn (by simp;omega);have hS6:w5.heap.size<w6.heap.size:=by have:=g6.size;omega
     have X6:=XL.kept g6 (by simp;omega);have R6:=RL.kept g6 (by simp;omega);have D6:=DL.step c6 g6;clear DL XL RL hSz c6 g6;obtain⟨v0,v1,v2,v3⟩:=X6.cells;obtain⟨n0,n1,n2,n3⟩:=X6.free;have hX6:=X6.lt;go_wp2;go_meet;case rel=>exact⟨_,_,_,_,X6.set2 _,R6.kept (Aw w6 _ 2 _) (by simp;omega),D6.set (by omega) hcl hB 2 _⟩
    ·
     have DL:=D5.alloc (.cells #[.int .i64 (-1),.int .i64 9,.int .i64 10] 2);have XL:=X5.kept (World.grownBy_alloc w5 (.cells #[.int .i64 (-1),.int .i64 9,.int .i64 10] 2) none) (by simp);have RL:=R5.kept (World.grownBy_alloc w5 (.cells #[.int .i64 (-1),.int .i64 9,.int .i64 10] 2) none) (by simp);have hSz:=AD w5 (.cells #[.int .i64 (-1),.int .i64 9,.int .i64 10] 2);go_wp2_with fail
     refine (Ao _ B c _ DL.1 (by omega)).mono ?_;rintro e w6 ⟨z,rfl,z0,z1,c6,g6⟩;obtain⟨zn,rfl⟩:=Int.eq_ofNat_of_zero_le z0;obtain⟨y,hy⟩:=On (w1:=w5) (e:=2) [-1,9,10] g6 (by simp;omega) zn (by simp;omega);have hS6:w5.heap.size<w6.heap.size:=by have:=g6.size;omega
     have X6:=XL.kept g6 (by simp;omega);have R6:=RL.kept g6 (by simp;omega);have D6:=DL.step c6 g6;clear DL XL RL hSz c6 g6;obtain⟨v0,v1,v2,v3⟩:=X6.cells;obtain⟨n0,n1,n2,n3⟩:=X6.free;have hX6:=X6.lt;go_wp2;go_meet;case rel=>exact⟨_,_,_,_,X6.set3 _,R6.kept (Aw w6 _ 3 _) (by simp;omega),D6.set (by omega) hcl hB 3 _⟩
   case rest=>
    clear X4 R4 D4;obtain⟨k,p,v,g,X4,R4,D4⟩:=hcut;obtain⟨t0,t1,t2,t3⟩:=X4.cells;have hX4:=X4.lt;obtain⟨r0,r1,r2,r3⟩:=R4.cells;obtain⟨q0,q1,q2,q3⟩:=R4.free;go_wp2;have hZ:=(((R4.set0 k).set1 p).set2 v).set3 g;refine bodyPost_ret (Ac (by rfl) _ _ w.heap.size _ _ (0,0) _ rfl hZ Tryz.underlying51 rfl (by kernel_rfl)) rfl ?_;exact⟨_,_,_,_,rfl,(((D4.set (Nat.le_refl _) hcl hB 0 _).set (Nat.le_refl _) hcl hB 1 _).set (Nat.le_refl _) hcl hB 2 _).set (Nat.le_refl _) hcl hB 3 _⟩
end Go.Proofs.YtgakfkjjkobpiaaGreat
