/- Gathered texts. -/
import Derived.Deep.Cut
import Derived.Laws.Tables
import Derived.Test.YtgakfkjjkobpiabGreatMM
set_option maxRecDepth 100000
set_option maxHeartbeats 8000000
namespace Go.Proofs.YtgakfkjjkobpiabGreat
open Go.ChangeShapes Go.WideShapes Go.ChangeAt Go.RowKit
def nb0 (n:Nat):Bd:={ plc:=[0,0,0],lst:=[0,1,2],nts:=[],nxt:=List.replicate n 0,sn:=[],fr:=[],rws:=[[0],[1],[2]] }
def gNB:BI→Option Nat
 | .bd=>some 12
 | .plc=>some 2
 | .lst=>some 3
 | .nxt=>some 6
 | .rws=>some 10
 | .rw 0=>some 7
 | .rw 1=>some 8
 | .rw 2=>some 9
 |_=>none
theorem gNB_inj:∀a b i,gNB a=some i→gNB b=some i→a=b:=by
 intro a b i h1 h2;unfold gNB at h1 h2;split at h1<;>split at h2<;>first|rfl|(simp only[Option.some.injEq] at h1 h2;omega)|(cases h2;done)|(cases h1;done)
theorem nb_own {w:World}{m D bs N:Nat}{B:Nat→Bool}{R:Nat→Rw}{dss:List (List Dd)}{n:Nat}{x12 x13 x14 x17 x18 x19 x20 x21:Value}(HM:Mk w m (liveM [2,3,6,7,8,9,10,12] B) R true x12 bs N dss)
  (b2:B 2=true) (b3:B 3=true) (b6:B 6=true) (b7:B 7=true) (b8:B 8=true) (b9:B 9=true) (b10:B 10=true) (b12:B 12=true)
  (r2:R 2=ivR [0,0,0] x13) (r3:R 3=ivR [0,1,2] x14) (r6:R 6=ivR (List.replicate n 0) x17) (r7:R 7=ivR [0] x18) (r8:R 8=ivR [1] x19) (r9:R 9=ivR [2] x20) (r10:R 10=hdR 23 [x18,x19,x20] x21)
  (r12:R 12=bdR D ⟨x12,x13,x14,nilS,x17,nilS,nilS,x21⟩):OwnBd w m D ⟨x12,x13,x14,nilS,x17,nilS,nilS,x21⟩ [] [x18,x19,x20] bs N dss (nb0 n):=by
 have H1:∀a i,liveB [] [x18,x19,x20] a→gNB a=some i→liveM [2,3,6,7,8,9,10,12] B i∧famR D ⟨x12,x13,x14,nilS,x17,nilS,nilS,x21⟩ [] [x18,x19,x20] (nb0 n) a=R i:=by
  intro a i _ hi;unfold gNB at hi;split at hi<;>simp at hi<;>subst hi
  · exact⟨⟨by decide,b12⟩,r12.symm⟩
  · exact⟨⟨by decide,b2⟩,r2.symm⟩
  · exact⟨⟨by decide,b3⟩,r3.symm⟩
  · exact⟨⟨by decide,b6⟩,r6.symm⟩
  · exact⟨⟨by decide,b10⟩,r10.symm⟩
  · exact⟨⟨by decide,b7⟩,r7.symm⟩
  · exact⟨⟨by decide,b8⟩,r8.symm⟩
  · exact⟨⟨by decide,b9⟩,r9.symm⟩
 have H2:∀a,liveB [] [x18,x19,x20] a→gNB a=none→(famR D ⟨x12,x13,x14,nilS,x17,nilS,nilS,x21⟩ [] [x18,x19,x20] (nb0 n) a).own w m∧(famR D ⟨x12,x13,x14,nilS,x17,nilS,nilS,x21⟩ [] [x18,x19,x20] (nb0 n) a).v.ownBlock=none:=by
  intro a ha hn
  match a,ha,hn with
  | .nts,_,_=>exact⟨own_none _ _ _ _,rfl⟩
  | .sn,_,_=>exact⟨own_none _ _ _ _,rfl⟩
  | .fr,_,_=>exact⟨own_none _ _ _ _,rfl⟩
  | .nt c,ha,_=>exact absurd (show c<0 from ha) (by omega)
  | .rw 0,_,hn=>cases hn
  | .rw 1,_,hn=>cases hn
  | .rw 2,_,hn=>cases hn
  | .rw (p+3),ha,_=>exact absurd (show p+3<3 from ha) (by omega)
 refine⟨HM.fam.via gNB gNB_inj H1 H2,rfl,rfl,(HM.work rfl).1,(HM.work rfl).2.1,fun a ha k hk=>?_⟩
 cases e:gNB a with
 |none=>rw[(H2 a ha e).2] at hk;cases hk
 |some i=>rw[(H1 a i ha e).2] at hk;exact HM.out rfl i (H1 a i ha e).1 k hk
theorem l14New_any (w:World)(v:Value)(dss:List (List Dd))(h:RdW w v dss)(hb:workB dss=true):
  Calls Tryz.prog 48 #[v] w fun e w'=>∃bv nv rv bs N,e = .returned (BV.agg bv)∧OwnVal w' w.heap.size bv nv rv bs N dss (newM dss)∧w.heap.size≤bs∧Keep w w':=by
 obtain⟨u1,u2⟩:=workB_useR hb;have CE:=fun (W:World) (kW:Keep w W)=>l6Events_any W v dss (h.keep kW) u1 u2
 have e1:eventsB dss=evsW dss dss.length:=by rw[eventsB,if_pos hb]
 have h9:=eventsB_len9 dss;rw[←e1] at CE;have hok:=Lib.hid u2;clear u2;have h0:=h;obtain⟨a0,c0,rfl,-⟩:=h0;have hll:∀i,i<dss.length→(dss.getD i []).length≤1048576:=fun i hi=>by have hq:=hok.out i hi;unfold okL at hq;rw[Bool.and_eq_true,decide_eq_true_eq] at hq;omega
 generalize hes:eventsB dss=es at *;clear e1;go_enter Tryz.func48,Tryz.ntmps48
 go_wp2_with fail
 refine (CE _ ((Keep.refl w).alloc _)).mono ?_;rintro e w1 ⟨v1,rfl,o1,k1⟩;have hR0:=box_heap k1;have K1:=((Keep.refl w).alloc _).trans k1;have s1:=box_size k1;clear k1 CE;go_wp2_with fail
 refine (specReadsOf_any _ _ _ o1.rd (by omega)).mono ?_;rintro e w2 ⟨v2,rfl,o2,k2⟩;have hR2:=(Below.block k2 w.heap.size s1).trans hR0;have K2:=K1.trans k2;have s2:=k2.size;obtain⟨a2,c2,rfl,-⟩:=o2.rd;generalize hrs:idxB rdE es=rs at *;have HRS:=Lib.hid hrs;clear hrs;go_upto_region 2 with fail
 go_cut [4] from 11 (fun s4 wx=>∃D bv rv bs N,s4 = .pointer (some ⟨D,0,none⟩)∧OwnBd wx w2.heap.size D bv [] rv bs N dss (nb0 dss.length)∧w2.heap.size≤bs∧Keep w2 wx)
 case first=>
  refine wp_region_inv (by kernel_rfl) (fun listed a wq=>∃(B:Nat→Bool) (R:Nat→Rw) (bs N D:Nat) (x4 x11 x12 x13 x14 x15 x16 x17 x18 x19 x20 x21 x22:Value),listed=#[B 0,B 1,B 2,B 3,B 4,B 5,B 6,B 7,B 8,B 9,B 10,B 11,B 12,B 13]∧a=⟨#[.slice a0 dss.length c0,undef,.pointer (some ⟨w.heap.size,0,none⟩),.int .i64 (rs.length:Int),x4,undef,undef,.slice a0 dss.length c0,v1,.slice a2 rs.length c2,.int .i64 (rs.length:Int),x11,x12,x13,x14,x15,x16,x17,x18,x19,x20,x21,x22,undef,undef,undef,undef,undef,undef,undef,undef,undef,undef,undef,undef,undef,undef,undef,undef,undef,undef,undef,undef,undef,undef,undef,undef,undef,undef,undef,undef],[]⟩ ∧
  Hid (Mk wq w2.heap.size (liveM [2,3,6,7,8,9,10,12] B) R (B 1) x12 bs N dss∧Keep w2 wq∧(B 0=true→x11 = .slice a0 dss.length c0)∧(B 1=true→∃a c,x12 = .slice a dss.length c)∧(B 2=true→(∃g,x13 = .slice (some ⟨g,0,none⟩) 3 3)∧R 2=ivR [0,0,0] x13)∧(B 3=true→(∃g,x14 = .slice (some ⟨g,0,none⟩) 3 3)∧R 3=ivR [0,1,2] x14)∧(B 4=true→x15 = .slice a0 dss.length c0)∧(B 5=true→x16 = .int .i64 (dss.length:Int))∧(B 6=true→(∃g,x17 = .slice (some ⟨g,0,none⟩) dss.length dss.length)∧R 6=ivR (List.replicate dss.length 0) x17)∧(B 7=true→(∃g,x18 = .slice (some ⟨g,0,none⟩) 1 1)∧R 7=ivR [0] x18)∧(B 8=true→(∃g,x19 = .slice (some ⟨g,0,none⟩) 1 1)∧R 8=ivR [1] x19)∧(B 9=true→(∃g,x20 = .slice (some ⟨g,0,none⟩) 1 1)∧R 9=ivR [2] x20)∧(B 10=true→(B 7=true∧B 8=true∧B 9=true)∧(∃g,x21 = .slice (some ⟨g,0,none⟩) 3 3)∧R 10=hdR 23 [x18,x19,x20] x21)∧(B 11=true→(B 1=true∧B 2=true∧B 3=true∧B 6=true∧B 10=true)∧x22 = .agg #[x12,x13,x14,nilS,x17,nilS,nilS,x21])∧(B 12=true→x4 = .pointer (some ⟨D,0,none⟩)∧(R 12).v = .slice (some ⟨D,0,none⟩) 1 1∧(B 13=false→R 12=⟨32,8,.slice (some ⟨D,0,none⟩) 1 1,1,[nilS,nilS,nilS,nilS,nilS,nilS,nilS,nilS]⟩))∧(B 13=true→B 11=true∧B 12=true)∧(B 13=true→R 12=bdR D ⟨x12,x13,x14,nilS,x17,nilS,nilS,x21⟩))) ?_ ?_ ?_
  · exact⟨fun _=>false,fun _=>⟨0,0,nilS,0,[]⟩,0,0,0,undef,undef,undef,undef,undef,undef,undef,undef,undef,undef,undef,undef,undef,rfl,rfl,Lib.hid ⟨Mk.start _ _ _ _ _ _ _ _,(Keep.refl w2).drew,(fun q=>by cases q),(fun q=>by cases q),(fun q=>by cases q),(fun q=>by cases q),(fun q=>by cases q),(fun q=>by cases q),(fun q=>by cases q),(fun q=>by cases q),(fun q=>by cases q),(fun q=>by cases q),(fun q=>by cases q),(fun q=>by cases q),(fun q=>by cases q),(fun q=>by cases q),(fun q=>by cases q)⟩⟩
  ·
   rintro listed a w3 ⟨B,R,bs,N,D,x4,x11,x12,x13,x14,x15,x16,x17,x18,x19,x20,x21,x22,rfl,rfl,HJ⟩ i hi;have hlt:=(ready_use hi).1;have hcs:i=0∨i=1∨i=2∨i=3∨i=4∨i=5∨i=6∨i=7∨i=8∨i=9∨i=10∨i=11∨i=12∨i=13:=by simp at hlt;omega
   rcases hcs with rfl|rfl|rfl|rfl|rfl|rfl|rfl|rfl|rfl|rfl|rfl|rfl|rfl|rfl
   ·
    have hbi:B 0=false:=by simpa using (ready_use hi).2.1
    have HI:=HJ.out;obtain⟨HM,HK,F0,F1,F2,F3,F4,F5,F6,F7,F8,F9,F10,F11,F12,F13,F14⟩:=HI;have hsz:=HK.size;clear HM HK F0 F1 F2 F3 F4 F5 F6 F7 F8 F9 F10 F11 F12 F13 F14;refine wpOp_law rfl rfl (fun K hK=>?_);simp only[List.getElem_toArray,List.getElem_cons_zero];go_simp;refine hK.out _ _ ?_;obtain⟨HM,HK,F0,F1,F2,F3,F4,F5,F6,F7,F8,F9,F10,F11,F12,F13,F14⟩:=HJ.out;exact⟨updB B 0,R,bs,N,D,_,_,_,_,_,_,_,_,_,_,_,_,_,rfl,rfl,Lib.hid ⟨HM.pass (by decide),HK,(fun _=>rfl),F1,F2,F3,F4,F5,F6,F7,F8,F9,F10,F11,F12,F13,F14⟩⟩
   ·
    have hbi:B 1=false:=by simpa using (ready_use hi).2.1
    have hdp:=(ready_use hi).2.2 _ rfl;simp[Region.binds] at hdp;have HI:=HJ.out;obtain⟨HM,HK,F0,F1,F2,F3,F4,F5,F6,F7,F8,F9,F10,F11,F12,F13,F14⟩:=HI;have hsz:=HK.size;have Ex:=Lib.hid (F0 hdp);rw[Ex.out];clear HM HK F0 F1 F2 F3 F4 F5 F6 F7 F8 F9 F10 F11 F12 F13 F14;refine wpOp_law rfl rfl (fun K hK=>?_);simp only[List.getElem_toArray,List.getElem_cons_succ,List.getElem_cons_zero];go_simp;refine (l5Copy_any _ _ _ (h.keep (K2.trans HJ.out.2.1)) (by omega) hll).mono ?_;rintro e wz ⟨vz,rfl,hx,kk⟩;go_wp2_with fail
    refine hK.out _ _ ?_;obtain⟨HM,HK,F0,F1,F2,F3,F4,F5,F6,F7,F8,F9,F10,F11,F12,F13,F14⟩:=HJ.out;have ex:=Ex.out;subst ex;rw[hbi] at HM;obtain⟨az,cz,ez,-⟩:=id hx;exact⟨updB B 1,R,_,_,D,_,_,_,_,_,_,_,_,_,_,_,_,_,rfl,rfl,Lib.hid ⟨HM.copied (by decide) kk hx hsz,HK.trans kk,F0,(fun _=>⟨az,cz,ez⟩),F2,F3,F4,F5,F6,F7,F8,F9,F10,(fun q=>absurd (F11 q).1.1 (by rw[hbi];simp)),F12,F13,(fun q=>absurd (F11 (F13 q).1).1.1 (by rw[hbi];simp))⟩⟩
   ·
    have hbi:B 2=false:=by simpa using (ready_use hi).2.1
    have HI:=HJ.out;obtain⟨HM,HK,F0,F1,F2,F3,F4,F5,F6,F7,F8,F9,F10,F11,F12,F13,F14⟩:=HI;have hsz:=HK.size;clear HM HK F0 F1 F2 F3 F4 F5 F6 F7 F8 F9 F10 F11 F12 F13 F14;refine wpOp_law rfl rfl (fun K hK=>?_);simp only[List.getElem_toArray,List.getElem_cons_succ,List.getElem_cons_zero];refine wp_make_ints _ _ rfl 3 rfl rfl (by omega) w2.heap.size hsz ?_;intro wz oz kz;simp only[Act.put,List.setIfInBounds_toArray,List.set_cons_zero,List.set_cons_succ];refine hK.out _ _ ?_;obtain⟨HM,HK,F0,F1,F2,F3,F4,F5,F6,F7,F8,F9,F10,F11,F12,F13,F14⟩:=HJ.out;exact⟨updB B 2,upd R 2 (ivR [0,0,0] _),bs,N,D,_,_,_,_,_,_,_,_,_,_,_,_,_,rfl,rfl,Lib.hid ⟨HM.add hbi kz oz (fun b hb=>new_ge hb),HK.trans kz,F0,F1,(fun _=>⟨⟨_,rfl⟩,rfl⟩),F3,F4,F5,F6,F7,F8,F9,F10,(fun q=>absurd (F11 q).1.2.1 (by rw[hbi];simp)),F12,F13,(fun q=>absurd (F11 (F13 q).1).1.2.1 (by rw[hbi];simp))⟩⟩
   ·
    have hbi:B 3=false:=by simpa using (ready_use hi).2.1
    have HI:=HJ.out;obtain⟨HM,HK,F0,F1,F2,F3,F4,F5,F6,F7,F8,F9,F10,F11,F12,F13,F14⟩:=HI;have hsz:=HK.size;clear HM HK F0 F1 F2 F3 F4 F5 F6 F7 F8 F9 F10 F11 F12 F13 F14;refine wpOp_law rfl rfl (fun K hK=>?_);simp only[List.getElem_toArray,List.getElem_cons_succ,List.getElem_cons_zero];go_simp;refine hK.out _ _ ?_;obtain⟨HM,HK,F0,F1,F2,F3,F4,F5,F6,F7,F8,F9,F10,F11,F12,F13,F14⟩:=HJ.out;exact⟨updB B 3,_,bs,N,D,_,_,_,_,_,_,_,_,_,_,_,_,_,rfl,rfl,Lib.hid ⟨HM.add hbi ((Keep.refl w3).alloc _) (own_lit w3 hsz 2 #[.int .i64 0,.int .i64 1,.int .i64 2] (by unfold maxLen;simp)) (fun b hb=>new_ge hb),HK.alloc _,F0,F1,F2,(fun _=>⟨⟨_,rfl⟩,rfl⟩),F4,F5,F6,F7,F8,F9,F10,(fun q=>absurd (F11 q).1.2.2.1 (by rw[hbi];simp)),F12,F13,(fun q=>absurd (F11 (F13 q).1).1.2.2.1 (by rw[hbi];simp))⟩⟩
   ·
    have hbi:B 4=false:=by simpa using (ready_use hi).2.1
    have HI:=HJ.out;obtain⟨HM,HK,F0,F1,F2,F3,F4,F5,F6,F7,F8,F9,F10,F11,F12,F13,F14⟩:=HI;have hsz:=HK.size;clear HM HK F0 F1 F2 F3 F4 F5 F6 F7 F8 F9 F10 F11 F12 F13 F14;refine wpOp_law rfl rfl (fun K hK=>?_);simp only[List.getElem_toArray,List.getElem_cons_succ,List.getElem_cons_zero];go_simp;refine hK.out _ _ ?_;obtain⟨HM,HK,F0,F1,F2,F3,F4,F5,F6,F7,F8,F9,F10,F11,F12,F13,F14⟩:=HJ.out;exact⟨updB B 4,R,bs,N,D,_,_,_,_,_,_,_,_,_,_,_,_,_,rfl,rfl,Lib.hid ⟨HM.pass (by decide),HK,F0,F1,F2,F3,(fun _=>rfl),F5,F6,F7,F8,F9,F10,F11,F12,F13,F14⟩⟩
   ·
    have hbi:B 5=false:=by simpa using (ready_use hi).2.1
    have hdp:=(ready_use hi).2.2 _ rfl;simp[Region.binds] at hdp;have HI:=HJ.out;obtain⟨HM,HK,F0,F1,F2,F3,F4,F5,F6,F7,F8,F9,F10,F11,F12,F13,F14⟩:=HI;have hsz:=HK.size;have Ex:=Lib.hid (F4 hdp);rw[Ex.out];clear HM HK F0 F1 F2 F3 F4 F5 F6 F7 F8 F9 F10 F11 F12 F13 F14;refine wpOp_law rfl rfl (fun K hK=>?_);simp only[List.getElem_toArray,List.getElem_cons_succ,List.getElem_cons_zero];go_simp;refine hK.out _ _ ?_;obtain⟨HM,HK,F0,F1,F2,F3,F4,F5,F6,F7,F8,F9,F10,F11,F12,F13,F14⟩:=HJ.out;have ex:=Ex.out;subst ex;exact⟨updB B 5,R,bs,N,D,_,_,_,_,_,_,_,_,_,_,_,_,_,rfl,rfl,Lib.hid ⟨HM.pass (by decide),HK,F0,F1,F2,F3,F4,(fun _=>rfl),F6,F7,F8,F9,F10,F11,F12,F13,F14⟩⟩
   ·
    have hbi:B 6=false:=by simpa using (ready_use hi).2.1
    have hdp:=(ready_use hi).2.2 _ rfl;simp[Region.binds] at hdp;have HI:=HJ.out;obtain⟨HM,HK,F0,F1,F2,F3,F4,F5,F6,F7,F8,F9,F10,F11,F12,F13,F14⟩:=HI;have hsz:=HK.size;have Ex:=Lib.hid (F5 hdp);rw[Ex.out];clear HM HK F0 F1 F2 F3 F4 F5 F6 F7 F8 F9 F10 F11 F12 F13 F14;refine wpOp_law rfl rfl (fun K hK=>?_);simp only[List.getElem_toArray,List.getElem_cons_succ,List.getElem_cons_zero];refine wp_make_ints _ _ rfl dss.length rfl rfl (by omega) w2.heap.size hsz ?_;intro wz oz kz;simp only[Act.put,List.setIfInBounds_toArray,List.set_cons_zero,List.set_cons_succ];refine hK.out _ _ ?_;obtain⟨HM,HK,F0,F1,F2,F3,F4,F5,F6,F7,F8,F9,F10,F11,F12,F13,F14⟩:=HJ.out;have ex:=Ex.out;subst ex;exact⟨updB B 6,upd R 6 (ivR (List.replicate dss.length 0) _),bs,N,D,_,_,_,_,_,_,_,_,_,_,_,_,_,rfl,rfl,Lib.hid ⟨HM.add hbi kz oz (fun b hb=>new_ge hb),HK.trans kz,F0,F1,F2,F3,F4,F5,(fun _=>⟨⟨_,rfl⟩,rfl⟩),F7,F8,F9,F10,(fun q=>absurd (F11 q).1.2.2.2.1 (by rw[hbi];simp)),F12,F13,(fun q=>absurd (F11 (F13 q).1).1.2.2.2.1 (by rw[hbi];simp))⟩⟩
   ·
    have hbi:B 7=false:=by simpa using (ready_use hi).2.1
    have HI:=HJ.out;obtain⟨HM,HK,F0,F1,F2,F3,F4,F5,F6,F7,F8,F9,F10,F11,F12,F13,F14⟩:=HI;have hsz:=HK.size;clear HM HK F0 F1 F2 F3 F4 F5 F6 F7 F8 F9 F10 F11 F12 F13 F14;refine wpOp_law rfl rfl (fun K hK=>?_);simp only[List.getElem_toArray,List.getElem_cons_succ,List.getElem_cons_zero];go_simp;refine hK.out _ _ ?_;obtain⟨HM,HK,F0,F1,F2,F3,F4,F5,F6,F7,F8,F9,F10,F11,F12,F13,F14⟩:=HJ.out;exact⟨updB B 7,_,bs,N,D,_,_,_,_,_,_,_,_,_,_,_,_,_,rfl,rfl,Lib.hid ⟨HM.add hbi ((Keep.refl w3).alloc _) (own_lit w3 hsz 2 #[.int .i64 0] (by unfold maxLen;simp)) (fun b hb=>new_ge hb),HK.alloc _,F0,F1,F2,F3,F4,F5,F6,(fun _=>⟨⟨_,rfl⟩,rfl⟩),F8,F9,(fun q=>absurd (F10 q).1.1 (by rw[hbi];simp)),F11,F12,F13,F14⟩⟩
   ·
    have hbi:B 8=false:=by simpa using (ready_use hi).2.1
    have HI:=HJ.out;obtain⟨HM,HK,F0,F1,F2,F3,F4,F5,F6,F7,F8,F9,F10,F11,F12,F13,F14⟩:=HI;have hsz:=HK.size;clear HM HK F0 F1 F2 F3 F4 F5 F6 F7 F8 F9 F10 F11 F12 F13 F14;refine wpOp_law rfl rfl (fun K hK=>?_);simp only[List.getElem_toArray,List.getElem_cons_succ,List.getElem_cons_zero];go_simp;refine hK.out _ _ ?_;obtain⟨HM,HK,F0,F1,F2,F3,F4,F5,F6,F7,F8,F9,F10,F11,F12,F13,F14⟩:=HJ.out;exact⟨updB B 8,_,bs,N,D,_,_,_,_,_,_,_,_,_,_,_,_,_,rfl,rfl,Lib.hid ⟨HM.add hbi ((Keep.refl w3).alloc _) (own_lit w3 hsz 2 #[.int .i64 1] (by unfold maxLen;simp)) (fun b hb=>new_ge hb),HK.alloc _,F0,F1,F2,F3,F4,F5,F6,F7,(fun _=>⟨⟨_,rfl⟩,rfl⟩),F9,(fun q=>absurd (F10 q).1.2.1 (by rw[hbi];simp)),F11,F12,F13,F14⟩⟩
   ·
    have hbi:B 9=false:=by simpa using (ready_use hi).2.1
    have HI:=HJ.out;obtain⟨HM,HK,F0,F1,F2,F3,F4,F5,F6,F7,F8,F9,F10,F11,F12,F13,F14⟩:=HI;have hsz:=HK.size;clear HM HK F0 F1 F2 F3 F4 F5 F6 F7 F8 F9 F10 F11 F12 F13 F14;refine wpOp_law rfl rfl (fun K hK=>?_);simp only[List.getElem_toArray,List.getElem_cons_succ,List.getElem_cons_zero];go_simp;refine hK.out _ _ ?_;obtain⟨HM,HK,F0,F1,F2,F3,F4,F5,F6,F7,F8,F9,F10,F11,F12,F13,F14⟩:=HJ.out;exact⟨updB B 9,_,bs,N,D,_,_,_,_,_,_,_,_,_,_,_,_,_,rfl,rfl,Lib.hid ⟨HM.add hbi ((Keep.refl w3).alloc _) (own_lit w3 hsz 2 #[.int .i64 2] (by unfold maxLen;simp)) (fun b hb=>new_ge hb),HK.alloc _,F0,F1,F2,F3,F4,F5,F6,F7,F8,(fun _=>⟨⟨_,rfl⟩,rfl⟩),(fun q=>absurd (F10 q).1.2.2 (by rw[hbi];simp)),F11,F12,F13,F14⟩⟩
   ·
    have hbi:B 10=false:=by simpa using (ready_use hi).2.1
    have hdp:=(ready_use hi).2.2 _ rfl;simp[Region.binds] at hdp;have HI:=HJ.out;obtain⟨HM,HK,F0,F1,F2,F3,F4,F5,F6,F7,F8,F9,F10,F11,F12,F13,F14⟩:=HI;have hsz:=HK.size;obtain⟨d7,d8,d9⟩:=hdp;obtain⟨⟨g7,e7⟩,-⟩:=F7 d7;have E7:=Lib.hid (e7);rw[E7.out];clear e7;obtain⟨⟨g8,e8⟩,-⟩:=F8 d8;have E8:=Lib.hid (e8);rw[E8.out];clear e8;obtain⟨⟨g9,e9⟩,-⟩:=F9 d9;have E9:=Lib.hid (e9);rw[E9.out];clear e9;clear HM HK F0 F1 F2 F3 F4 F5 F6 F7 F8 F9 F10 F11 F12 F13 F14;refine wpOp_law rfl rfl (fun K hK=>?_);simp only[List.getElem_toArray,List.getElem_cons_succ,List.getElem_cons_zero];go_simp;refine hK.out _ _ ?_;obtain⟨HM,HK,F0,F1,F2,F3,F4,F5,F6,F7,F8,F9,F10,F11,F12,F13,F14⟩:=HJ.out;have e7:=E7.out;subst e7;have e8:=E8.out;subst e8;have e9:=E9.out;subst e9;exact⟨updB B 10,_,bs,N,D,_,_,_,_,_,_,_,_,_,_,_,_,_,rfl,rfl,Lib.hid ⟨HM.add hbi ((Keep.refl w3).alloc _) (own_lit w3 hsz 23 #[.slice (some ⟨g7,0,none⟩) 1 1,.slice (some ⟨g8,0,none⟩) 1 1,.slice (some ⟨g9,0,none⟩) 1 1] (by unfold maxLen;simp)) (fun b hb=>new_ge hb),HK.alloc _,F0,F1,F2,F3,F4,F5,F6,F7,F8,F9,(fun _=>⟨⟨d7,d8,d9⟩,⟨_,rfl⟩,rfl⟩),(fun q=>absurd (F11 q).1.2.2.2.2 (by rw[hbi];simp)),F12,F13,(fun q=>absurd (F11 (F13 q).1).1.2.2.2.2 (by rw[hbi];simp))⟩⟩
   ·
    have hbi:B 11=false:=by simpa using (ready_use hi).2.1
    have hdp:=(ready_use hi).2.2 _ rfl;simp[Region.binds] at hdp;have HI:=HJ.out;obtain⟨HM,HK,F0,F1,F2,F3,F4,F5,F6,F7,F8,F9,F10,F11,F12,F13,F14⟩:=HI;have hsz:=HK.size;obtain⟨d1,d2,d3,d6,d10⟩:=hdp;obtain⟨a1,c1,e1⟩:=F1 d1;have E1:=Lib.hid (e1);rw[E1.out];clear e1;obtain⟨⟨g2,e2⟩,-⟩:=F2 d2;have E2:=Lib.hid (e2);rw[E2.out];clear e2;obtain⟨⟨g3,e3⟩,-⟩:=F3 d3;have E3:=Lib.hid (e3);rw[E3.out];clear e3;obtain⟨⟨g6,e6⟩,-⟩:=F6 d6;have E6:=Lib.hid (e6);rw[E6.out];clear e6;obtain⟨-,⟨g10,e10⟩,-⟩:=F10 d10;have E10:=Lib.hid (e10);rw[E10.out];clear e10;clear HM HK F0 F1 F2 F3 F4 F5 F6 F7 F8 F9 F10 F11 F12 F13 F14;refine wpOp_law rfl rfl (fun K hK=>?_);simp only[List.getElem_toArray,List.getElem_cons_succ,List.getElem_cons_zero];go_simp;refine hK.out _ _ ?_;obtain⟨HM,HK,F0,F1,F2,F3,F4,F5,F6,F7,F8,F9,F10,F11,F12,F13,F14⟩:=HJ.out;have e1:=E1.out;subst e1;have e2:=E2.out;subst e2;have e3:=E3.out;subst e3;have e6:=E6.out;subst e6;have e10:=E10.out;subst e10;exact⟨updB B 11,R,bs,N,D,_,_,_,_,_,_,_,_,_,_,_,_,_,rfl,rfl,Lib.hid ⟨HM.pass (by decide),HK,F0,F1,F2,F3,F4,F5,F6,F7,F8,F9,F10,(fun _=>⟨⟨d1,d2,d3,d6,d10⟩,rfl⟩),F12,(fun q=>absurd (F13 q).1 (by rw[hbi];simp)),F14⟩⟩
   ·
    have hbi:B 12=false:=by simpa using (ready_use hi).2.1
    have HI:=HJ.out;obtain⟨HM,HK,F0,F1,F2,F3,F4,F5,F6,F7,F8,F9,F10,F11,F12,F13,F14⟩:=HI;have hsz:=HK.size;clear HM HK F0 F1 F2 F3 F4 F5 F6 F7 F8 F9 F10 F11 F12 F13 F14;refine wpOp_law rfl rfl (fun K hK=>?_);simp only[List.getElem_toArray,List.getElem_cons_succ,List.getElem_cons_zero];go_simp;refine hK.out _ _ ?_;obtain⟨HM,HK,F0,F1,F2,F3,F4,F5,F6,F7,F8,F9,F10,F11,F12,F13,F14⟩:=HJ.out;exact⟨updB B 12,_,bs,N,w3.heap.size,_,_,_,_,_,_,_,_,_,_,_,_,_,rfl,rfl,Lib.hid ⟨HM.add hbi ((Keep.refl w3).alloc _) (box_own w3 hsz) (fun b hb=>new_ge hb),HK.alloc _,F0,F1,F2,F3,F4,F5,F6,F7,F8,F9,F10,F11,(fun _=>⟨rfl,rfl,fun _=>rfl⟩),(fun q=>absurd (F13 q).2 (by rw[hbi];simp)),(fun q=>absurd (F13 q).2 (by rw[hbi];simp))⟩⟩
   ·
    have hbi:B 13=false:=by simpa using (ready_use hi).2.1
    have hdp:=(ready_use hi).2.2 _ rfl;simp[Region.binds] at hdp;have HI:=HJ.out;obtain⟨HM,HK,F0,F1,F2,F3,F4,F5,F6,F7,F8,F9,F10,F11,F12,F13,F14⟩:=HI;have hsz:=HK.size;have d11:B 11=true:=by exact hdp.2.1
    have d12:B 12=true:=by exact hdp.1
    obtain⟨⟨d1,d2,d3,d6,d10⟩,e22⟩:=F11 d11;obtain⟨e4,er,ez⟩:=F12 d12;have o12:=HM.fam.own 12 ⟨by decide,d12⟩;rw[ez hbi] at o12;obtain⟨⟨old,hz,hos⟩,ho⟩:=box_put o12 (v:=⟨x12,x13,x14,nilS,x17,nilS,nilS,x21⟩);obtain⟨a1,c1,e1⟩:=F1 d1;obtain⟨⟨g2,e2⟩,-⟩:=F2 d2;obtain⟨⟨g3,e3⟩,-⟩:=F3 d3;obtain⟨⟨g6,e6⟩,-⟩:=F6 d6;obtain⟨-,⟨g10,e10⟩,-⟩:=F10 d10;have hone:(BV.arr ⟨x12,x13,x14,nilS,x17,nilS,nilS,x21⟩).all (·.oneCell')=true:=by rw[e1,e2,e3,e6,e10];simp[Value.oneCell']
    clear e1 e2 e3 e6 e10;have Ep:=Lib.hid (e22);rw[Ep.out];have Eq:=Lib.hid (e4);rw[Eq.out];clear e22 e4;clear HM HK F0 F1 F2 F3 F4 F5 F6 F7 F8 F9 F10 F11 F12 F13 F14;refine wpOp_law rfl rfl (fun K hK=>?_);simp only[List.getElem_toArray,List.getElem_cons_succ,List.getElem_cons_zero];refine wp_store_row 32 _ _ rfl D _ rfl rfl 32 old hz board_info hos hone ?_;refine hK.out _ _ ?_;obtain⟨HM,HK,F0,F1,F2,F3,F4,F5,F6,F7,F8,F9,F10,F11,F12,F13,F14⟩:=HJ.out;have ep:=Ep.out;subst ep;have eq:=Eq.out;subst eq;exact⟨updB B 13,_,bs,N,D,_,_,_,_,_,_,_,_,_,_,_,_,_,rfl,rfl,Lib.hid ⟨HM.turn (by decide) ⟨by decide,d12⟩ (r:=bdR D ⟨x12,x13,x14,nilS,x17,nilS,nilS,x21⟩) (by rw[er];exact grown_row3 _ _ _) (by rw[er]) ho,HK.grown (grown_row3 _ D _) (fun b hb=>by have:=(HM.fam.lt ⟨by decide,d12⟩ D (by rw[er];rfl)).1;have:=Option.some.inj hb;omega),F0,F1,F2,F3,F4,F5,F6,F7,F8,F9,F10,F11,(fun _=>⟨rfl,rfl,fun q=>by cases q⟩),(fun _=>⟨d11,d12⟩),(fun _=>rfl)⟩⟩
  ·
   rintro listed a w3 ⟨B,R,bs,N,D,x4,x11,x12,x13,x14,x15,x16,x17,x18,x19,x20,x21,x22,rfl,rfl,HJ⟩ hr;have b0:B 0=true:=by simpa using ready_none hr 0 _ rfl (by simp[Region.binds])
   have b1:B 1=true:=by simpa using ready_none hr 1 _ rfl (by simp[Region.binds,b0])
   have b2:B 2=true:=by simpa using ready_none hr 2 _ rfl (by simp[Region.binds])
   have b3:B 3=true:=by simpa using ready_none hr 3 _ rfl (by simp[Region.binds])
   have b4:B 4=true:=by simpa using ready_none hr 4 _ rfl (by simp[Region.binds])
   have b5:B 5=true:=by simpa using ready_none hr 5 _ rfl (by simp[Region.binds,b4])
   have b6:B 6=true:=by simpa using ready_none hr 6 _ rfl (by simp[Region.binds,b5])
   have b7:B 7=true:=by simpa using ready_none hr 7 _ rfl (by simp[Region.binds])
   have b8:B 8=true:=by simpa using ready_none hr 8 _ rfl (by simp[Region.binds])
   have b9:B 9=true:=by simpa using ready_none hr 9 _ rfl (by simp[Region.binds])
   have b10:B 10=true:=by simpa using ready_none hr 10 _ rfl (by simp[Region.binds,b7,b8,b9])
   have b11:B 11=true:=by simpa using ready_none hr 11 _ rfl (by simp[Region.binds,b1,b2,b3,b6,b10])
   have b12:B 12=true:=by simpa using ready_none hr 12 _ rfl (by simp[Region.binds])
   have b13:B 13=true:=by simpa using ready_none hr 13 _ rfl (by simp[Region.binds,b0,b1,b2,b3,b4,b5,b6,b7,b8,b9,b10,b11,b12])
   obtain⟨HM,HK,F0,F1,F2,F3,F4,F5,F6,F7,F8,F9,F10,F11,F12,F13,F14⟩:=HJ.out;clear HJ hr;have HB:=nb_own (n:=dss.length) (by rw[b1] at HM;exact HM) b2 b3 b6 b7 b8 b9 b10 b12 (F2 b2).2 (F3 b3).2 (F6 b6).2 (F7 b7).2 (F8 b8).2 (F9 b9).2 (F10 b10).2.2 (F14 b13);have HW:=((by rw[b1] at HM;exact HM):Mk w3 w2.heap.size _ R true x12 bs N dss).work rfl;have e4:=(F12 b12).1;clear HM F0 F1 F2 F3 F4 F5 F6 F7 F8 F9 F10 F11 F12 F13 F14;subst e4;go_wp2;go_meet;case rel=>exact⟨D,_,_,bs,N,rfl,HB,HW.2.2,HK⟩
 case rest=>
  obtain⟨D,bv,rv,bs,N,rfl,H,hbs,kc⟩:=hcut;have hRc:=(Below.block kc w.heap.size (by omega)).trans hR2;obtain⟨j0,hj,hy0,hy1,hy2⟩:=info_parts Tryz.infoNl;obtain⟨i0,hi,hz0,hz1,hz2⟩:=info_parts Tryz.infoI
  have rs12:rs.length≤12:=by
   rw[←HRS.out];unfold idxB;rw[if_pos (by omega)];have:=idxK_len rdE es es.length;omega
  go_wp2;go_loopw [5] (fun i wr=>∃(k:Nat) (bv':BV) (nv':List Value),k≤dss.length∧i = .int .i64 k∧OwnBd wr w2.heap.size D bv' nv' rv bs N dss { nb0 dss.length with nts:=List.replicate k [] }∧Keep w2 wr) (fun i _=>dss.length-(intOf i).toNat)
  case atStart=>exact⟨0,bv,[],Nat.zero_le _,rfl,H,kc⟩
  case round=>
   obtain⟨k,bv',nv',hk,rfl,Hr,kr⟩:=hrel;clear H kc hRc;by_cases hlt:k<dss.length
   ·
    obtain⟨aN,cN',eN,-⟩:=Hr.hN;simp only[List.length_replicate] at eN;have d3:=Hr.cells.2.2.2.1;have hln:nv'.length=k:=by have:=Hr.ln;simpa using this
    have HR0:wr.ownsRow w2.heap.size 84 1 (.slice aN k cN') k nv':=by
     have o:wr.ownsRow w2.heap.size 84 1 bv'.N nv'.length nv':=Hr.fam.own .nts trivial;rw[eN,hln] at o;exact o
    rw[eN] at d3;have hbase:=Hr.base;have sr:=kr.size;have oA:AppT cN 86 3 (wr.alloc (.cells #[] 86)) w2.heap.size (.slice (some ⟨wr.heap.size,0,none⟩) 0 0) []:=World.ownsRow_lit wr #[] 0 sr (by decide) rfl;have kA:Keep wr (wr.alloc (.cells #[] 86)):=(Keep.refl wr).alloc _;have kA2:Keep (wr.alloc (.cells #[] 86)) ((wr.alloc (.cells #[] 86)).alloc (.cells #[.slice (some ⟨wr.heap.size,0,none⟩) 0 0] 84)):=(Keep.refl _).alloc _;have kB:=kA.trans kA2;have oB:AppT cN 86 3 ((wr.alloc (.cells #[] 86)).alloc (.cells #[.slice (some ⟨wr.heap.size,0,none⟩) 0 0] 84)) w2.heap.size (.slice (some ⟨wr.heap.size,0,none⟩) 0 0) []:=World.ownsRow.kept oA kA2.grownBy (.inr (by simp[Value.ownBlock]));have HR:=World.ownsRow.kept HR0 kB.grownBy (by cases (Value.slice aN k cN').ownBlock<;>simp);have HH:=Lib.hid Hr;have HoB:=Lib.hid oB;have HkB:=Lib.hid kB;have HeN:=Lib.hid eN;have Hln:=Lib.hid hln;have fD:=Hr.free 3;have dB:((wr.alloc (.cells #[] 86)).alloc (.cells #[.slice (some ⟨wr.heap.size,0,none⟩) 0 0] 84)).heap.size=wr.heap.size+1+1:=by rw[heap_size,heap_size]
    have HdB:=Lib.hid dB;clear Hr oA kA kA2 kB oB HR0 eN hln dB;go_wp2_with (at_builtin;refine wpList_append_own_at _ rfl _ _ 30 rfl w2.heap.size 84 j0 (.slice none 0 0) 1 24 Tryz.underlying30 hj hy0 hy1 hy2 rfl (by decide) _ _ _ rfl HR ⟨_,0,none⟩ 1 1 [.slice (some ⟨wr.heap.size,0,none⟩) 0 0] rfl rfl ?e1 ?e2 ?e3 ?e4 ?e5 ?_)
    case e2=>rfl
    case e3=>unfold maxLen;omega
    case e4=>omega
    case e5=>omega
    intro v' w7 hown7 hgrow7 _ hblk7
    have ho7:(hdR 84 (nv'++[Value.slice (some ⟨wr.heap.size,0,none⟩) 0 0]) v').own w7 w2.heap.size:=by
     show w7.ownsRow w2.heap.size 84 1 v' (nv'++[Value.slice (some ⟨wr.heap.size,0,none⟩) 0 0]).length (nv'++[Value.slice (some ⟨wr.heap.size,0,none⟩) 0 0]);rw[List.length_append,Hln.out];exact hown7
    obtain⟨H8,c8,f8⟩:=HH.out.pushN HkB.out (fun q hq=>new_ge hq) HoB.out (by rw[HeN.out];exact hgrow7) (by rw[HeN.out];rcases hblk7 with e|e;exact .inl e;exact .inr (.inl (by rw[HdB.out];exact e))) ho7;have K7:Keep w2 w7:=(kr.trans HkB.out).grown hgrow7 (fun q hq=>(World.ownsRow.lt HR q hq).1);have K8:Keep w2 (w7.setCell ⟨D,3,none⟩ v'):=K7.grown (grown_set w7 D 3 v') (fun q hq=>by have:=Option.some.inj hq;omega);obtain⟨a8,c8',e8,-⟩:=own_head ho7
    have H9:OwnBd (w7.setCell ⟨D,3,none⟩ v') w2.heap.size D { bv' with N:=v' } (nv'++[Value.slice (some ⟨wr.heap.size,0,none⟩) 0 0]) rv bs N dss { nb0 dss.length with nts:=List.replicate (k+1) [] }:=by
     rw[List.replicate_succ'];exact H8
    have HH9:=Lib.hid H9;have HK8:=Lib.hid K8;clear H8 H9 K8 K7 hown7 hgrow7 hblk7 HR ho7 fD;replace e8:v' = .slice a8 (k+1) c8':=by rw[e8,List.length_append,Hln.out];rfl
    subst e8;go_wp2;go_roundw;case rel=>exact⟨k+1,_,_,by omega,by go_num,HH9.out,HK8.out⟩
    case measure=>simp[intOf];omega
   ·
    obtain rfl:k=dss.length:=by omega
    clear hlt hk;go_wp2;go_loopw [6] (fun i wq=>∃(k:Nat) (bv':BV),k≤rs.length∧i = .int .i64 k∧OwnBd wq w2.heap.size D bv' nv' rv bs N dss { nb0 dss.length with nts:=List.replicate dss.length [],sn:=List.replicate k (-1),fr:=List.replicate k (-1) }∧Keep w2 wq) (fun i _=>rs.length-(intOf i).toNat)
    case atStart=>exact⟨0,bv',Nat.zero_le _,rfl,Hr,kr⟩
    case round=>
     clear Hr kr;obtain⟨k,bv',hk,rfl,Hr,kr⟩:=hrel;by_cases hlt:k<rs.length
     ·
      have oS:=Hr.oS;obtain⟨aS,cS,eS,-⟩:=oS.rd;simp only[List.length_replicate] at eS;have d5:=Hr.cells.2.2.2.2.2.1;have d6:=Hr.cells.2.2.2.2.2.2.1;have oF:=Hr.oF;obtain⟨aF,cF,eF,-⟩:=oF.rd;simp only[List.length_replicate] at eF;have f5:=Hr.free 5;have hbase:=Hr.base;have sr:=kr.size
      have HS0:wr.ownsRow w2.heap.size 2 1 (.slice aS k cS) k ((List.replicate k (-1:Int)).map (Value.int .i64)):=by
       have o:wr.ownsRow w2.heap.size 2 1 bv'.S (List.replicate k (-1:Int)).length ((List.replicate k (-1:Int)).map (Value.int .i64)):=oS;rw[eS,List.length_replicate] at o;exact o
      have kA:Keep wr (wr.alloc (.cells #[.int .i64 (-1)] 2)):=(Keep.refl wr).alloc _;have HS:=World.ownsRow.kept HS0 kA.grownBy (by cases (Value.slice aS k cS).ownBlock<;>simp);rw[eS] at d5;have HH:=Lib.hid Hr;have HkA:=Lib.hid kA;have HeS:=Lib.hid eS;have HeF:=Lib.hid eF;clear Hr kA HS0 eS eF oS oF d6;go_wp2_with (at_builtin;refine wpList_append_own_at _ rfl _ _ 23 rfl w2.heap.size 2 i0 (.int .i64 0) 1 8 Tryz.underlying23 hi hz0 hz1 hz2 rfl (by decide) _ _ _ rfl HS ⟨_,0,none⟩ 1 1 [.int .i64 (-1)] rfl rfl ?b1 ?b2 ?b3 ?b4 ?b5 ?_)
      case b2=>rfl
      case b3=>unfold maxLen;omega
      case b4=>omega
      case b5=>omega
      intro v' w7 hown7 hgrow7 _ hblk7
      have ho7:Own w7 w2.heap.size v' (List.replicate (k+1) (-1)):=by
       unfold Own;rw[List.replicate_succ']
       simpa using hown7
      have kw:OwnBd (wr.alloc (.cells #[.int .i64 (-1)] 2)) w2.heap.size D bv' nv' rv bs N dss _:=HH.out.keep HkA.out;obtain⟨H8,c8,f8⟩:=kw.growS (by rw[HeS.out];exact hgrow7) (by rw[HeS.out];rcases hblk7 with e|e;exact .inl e;exact .inr (.inl (by rw[heap_size];exact e))) ho7;have K7:Keep w2 w7:=(kr.trans HkA.out).grown hgrow7 (fun q hq=>(World.ownsRow.lt HS q hq).1);have K8:Keep w2 (w7.setCell ⟨D,5,none⟩ v'):=K7.grown (grown_set w7 D 5 v') (fun q hq=>by have:=Option.some.inj hq;omega);obtain⟨a8,c8',e8,-⟩:=ho7.rd;rw[List.length_replicate] at e8;clear hown7 hgrow7 hblk7 HS ho7 f5 d5 HH HkA kw HeS kr K7;subst e8;obtain⟨wS,hwS⟩:∃W:World,W=w7.setCell ⟨D,5,none⟩ (.slice a8 (k+1) c8'):=⟨_,rfl⟩;rw[←hwS] at H8 K8;have HwS:=Lib.hid hwS;clear hwS;have d6:=H8.cells.2.2.2.2.2.2.1;have f6:=H8.free 6;have oF:=H8.oF
      have HF0:wS.ownsRow w2.heap.size 2 1 (.slice aF k cF) k ((List.replicate k (-1:Int)).map (Value.int .i64)):=by
       have o:wS.ownsRow w2.heap.size 2 1 bv'.F (List.replicate k (-1:Int)).length ((List.replicate k (-1:Int)).map (Value.int .i64)):=oF;rw[HeF.out,List.length_replicate] at o;exact o
      have kA:Keep wS (wS.alloc (.cells #[.int .i64 (-1)] 2)):=(Keep.refl wS).alloc _;have HF:=World.ownsRow.kept HF0 kA.grownBy (by cases (Value.slice aF k cF).ownBlock<;>simp);have sr:=K8.size;simp only[HeF.out] at d6;have HH:=Lib.hid H8;have HkA:=Lib.hid kA;clear H8 kA HF0 oF;go_upto_region 11 with fail
      rw[←HwS.out];clear c8 f8 HwS;go_wp2_with (at_builtin;refine wpList_append_own_at _ rfl _ _ 23 rfl w2.heap.size 2 i0 (.int .i64 0) 1 8 Tryz.underlying23 hi hz0 hz1 hz2 rfl (by decide) _ _ _ rfl HF ⟨_,0,none⟩ 1 1 [.int .i64 (-1)] rfl rfl ?g1 ?g2 ?g3 ?g4 ?g5 ?_)
      case g2=>rfl
      case g3=>unfold maxLen;omega
      case g4=>omega
      case g5=>omega
      intro v9 w9 hown9 hgrow9 _ hblk9
      have ho9:Own w9 w2.heap.size v9 (List.replicate (k+1) (-1)):=by
       unfold Own;rw[List.replicate_succ']
       simpa using hown9
      have kw:OwnBd (wS.alloc (.cells #[.int .i64 (-1)] 2)) w2.heap.size D _ nv' rv bs N dss _:=HH.out.keep HkA.out;obtain⟨H9,c9,f9⟩:=kw.growF (by simp only[HeF.out];exact hgrow9) (by simp only[HeF.out];rcases hblk9 with e|e;exact .inl e;exact .inr (.inl (by rw[heap_size];exact e))) ho9;have K9:Keep w2 w9:=(K8.trans HkA.out).grown hgrow9 (fun q hq=>(World.ownsRow.lt HF q hq).1);have K10:Keep w2 (w9.setCell ⟨D,6,none⟩ v9):=K9.grown (grown_set w9 D 6 v9) (fun q hq=>by have:=Option.some.inj hq;omega);obtain⟨a9,c9',e9,-⟩:=ho9.rd;rw[List.length_replicate] at e9;have HH9:=Lib.hid H9;have HK9:=Lib.hid K10;clear hown9 hgrow9 hblk9 HF ho9 f6 d6 HH HkA kw K9 K10 H9;subst e9;go_wp2;go_roundw;case rel=>exact⟨k+1,_,by omega,by go_num,HH9.out,HK9.out⟩
      case measure=>simp[intOf];omega
     ·
      obtain rfl:k=rs.length:=by omega
      have hRw:=(Below.block kr w.heap.size (by omega)).trans hR2;have HNM:Hid (newM dss={ nb0 dss.length with nts:=List.replicate dss.length [],sn:=List.replicate rs.length (-1),fr:=List.replicate rs.length (-1) }):=Lib.hid (by unfold newM nb0;rw[hes,HRS.out]);have Hn:OwnBd wr w2.heap.size D bv' nv' rv bs N dss (newM dss):=by rw[HNM.out];exact Hr
      have hM:w2.heap.size≤bs:=hbs;clear Hr HNM hk;generalize hNM:newM dss=nb at *;have HNM:=Lib.hid hNM;clear hNM;have hDw:=Hn.heapD;obtain⟨aW,aP,aL,aN,aX,aT,aF,aR,cW,cP,cL,cN',cX,cT,cF,cR,rfl⟩:=Hn.rd.shapes;simp only[BV.arr] at hDw;have HK:=Lib.hid (K2.trans kr);have HG:=Lib.hid (grown_row3 wr w.heap.size #[.slice aW dss.length cW,.slice aP nb.plc.length cP,.slice aL nb.lst.length cL,.slice aN nb.nts.length cN',.slice aX nb.nxt.length cX,.slice aT nb.sn.length cT,.slice aF nb.fr.length cF,.slice aR nb.rws.length cR]);have HZ:=Lib.hid (setRow_heap wr w.heap.size _ #[.slice aW dss.length cW,.slice aP nb.plc.length cP,.slice aL nb.lst.length cL,.slice aN nb.nts.length cN',.slice aX nb.nxt.length cX,.slice aT nb.sn.length cT,.slice aF nb.fr.length cF,.slice aR nb.rws.length cR] _ _ hRw);have hNot:∀q,some w.heap.size=some q→q<w2.heap.size∧(q<bs∨N≤q):=fun q hq=>by have:=Option.some.inj hq;omega
      have HO:=Lib.hid (((Hn.far HG.out hNot).val).base_le (show w.heap.size≤w2.heap.size by omega));go_wp2_with (first|refine wpList_load_row rfl 32 _ rfl D rfl 32 _ (0,0) _ hDw Tryz.underlying32 rfl board_info ?_|refine wpList_store_row rfl 32 _ _ rfl w.heap.size _ rfl rfl 32 _ hRw board_info rfl (by simp[Value.oneCell']) ?_)
      refine bodyPost_ret (results_row (by rfl) _ _ w.heap.size _ _ (0,0) _ rfl HZ.out Tryz.underlying32 rfl board_info) rfl ?_;exact⟨⟨.slice aW dss.length cW,.slice aP nb.plc.length cP,.slice aL nb.lst.length cL,.slice aN nb.nts.length cN',.slice aX nb.nxt.length cX,.slice aT nb.sn.length cT,.slice aF nb.fr.length cF,.slice aR nb.rws.length cR⟩,nv',rv,bs,N,rfl,by rw[HNM.out];exact HO.out,by omega,HK.out.grown HG.out (fun q hq=>by have:=Option.some.inj hq;omega)⟩
theorem specRan_right (w:World)(v vs:Value)(dss:List (List Dd))(steps:List Int)(h:RdW w v dss)(hs:Rd w vs steps)(hb:workB dss=true)(hl:steps.length≤40)(hx:dss.length≤1048576)(hm:∀i,i<dss.length→(dss.getD i []).length≤1048576):
  Calls Tryz.prog 14 #[v,vs] w fun e w'=>∃bv nv rv bs N,e = .returned (.tuple #[bv.agg,.bool true])∧OwnVal w' w.heap.size bv nv rv bs N dss (runM dss (eventsB dss) (newM dss) steps)∧Keep w w':=by
 have C:=fun (W:World) (kW:Keep w W)=>specWorkOk_any W v dss (h.keep kW) hx hm
 rw[hb] at C;have HS:=Lib.hid hs;obtain⟨aS,cS,rfl,-⟩:=hs;have j1:¬((40:Int)<(steps.length:Int)):=by omega
 have j1n:¬(40<steps.length):=by omega
 go_enter Tryz.func14,Tryz.ntmps14
 go_wp2_with fail
 refine (C _ ((Keep.refl w).alloc _)).mono ?_;rintro e w1 ⟨rfl,k1⟩;have hR0:=box_heap k1;have K1:=((Keep.refl w).alloc _).trans k1;have s1:=k1.size;rw[heap_size] at s1;clear C k1;go_wp2_with fail
 refine (l14New_any _ _ _ (h.keep K1) hb).mono ?_;rintro e w2 ⟨bv,nv,rv,bs,N,rfl,hV,hbs,k2⟩;obtain⟨aW,aP,aL,aN,aX,aT,aF,aR,cW,cP,cL,cN',cX,cT,cF,cR,rfl⟩:=(hV.box k2.size).rd.shapes;have H3:=hV.box k2.size;have s2:=k2.size;have K2:=K1.trans k2;have hR2:=(Below.block k2 w.heap.size (by omega)).trans hR0;have R0:Run dss (newM dss):=Run.new hb;have HB0:Hid (runM dss (eventsB dss) (newM dss) (steps.take 0)=newM dss):=Lib.hid rfl;generalize hNM:newM dss=nb at *;go_upto_region 4 with fail
 obtain⟨w3,hw3⟩:∃W:World,W=w2.alloc (.cells #[.slice aW dss.length cW,.slice aP nb.plc.length cP,.slice aL nb.lst.length cL,.slice aN nb.nts.length cN',.slice aX nb.nxt.length cX,.slice aT nb.sn.length cT,.slice aF nb.fr.length cF,.slice aR nb.rws.length cR] 32):=⟨_,rfl⟩;have k3:Keep w2 w3:=by rw[hw3];exact (Keep.refl w2).alloc _
 have H3:OwnBd w3 w1.heap.size w2.heap.size ⟨.slice aW dss.length cW,.slice aP nb.plc.length cP,.slice aL nb.lst.length cL,.slice aN nb.nts.length cN',.slice aX nb.nxt.length cX,.slice aT nb.sn.length cT,.slice aF nb.fr.length cF,.slice aR nb.rws.length cR⟩ nv rv bs N dss nb:=by rw[hw3];exact H3
 rw[←hw3];clear hw3 hV hR0;have K3:=K2.trans k3;have hR3:=(Below.block k3 w.heap.size (by omega)).trans hR2;have m0:w.heap.size<w1.heap.size:=by omega
 have D0:w.heap.size≠w2.heap.size:=by omega
 generalize w1.heap.size=m at *;generalize hD:w2.heap.size=D at *;have HNM:=Lib.hid hNM;clear hNM hD k2 k3 K1 K2 hR2;go_wp2;go_loopw [7] (fun i wr=>∃(k:Nat) (nv' rv':List Value) (b':Bd),k≤steps.length∧i = .int .i64 k∧OwnBd wr m D ⟨.slice aW dss.length cW,.slice aP nb.plc.length cP,.slice aL nb.lst.length cL,.slice aN nb.nts.length cN',.slice aX nb.nxt.length cX,.slice aT nb.sn.length cT,.slice aF nb.fr.length cF,.slice aR nb.rws.length cR⟩ nv' rv' bs N dss b'∧Hid (b'=runM dss (eventsB dss) nb (steps.take k))∧Run dss b'∧TurnB w3 wr (blkB D ⟨.slice aW dss.length cW,.slice aP nb.plc.length cP,.slice aL nb.lst.length cL,.slice aN nb.nts.length cN',.slice aX nb.nxt.length cX,.slice aT nb.sn.length cT,.slice aF nb.fr.length cF,.slice aR nb.rws.length cR⟩ nv rv) (blkB D ⟨.slice aW dss.length cW,.slice aP nb.plc.length cP,.slice aL nb.lst.length cL,.slice aN nb.nts.length cN',.slice aX nb.nxt.length cX,.slice aT nb.sn.length cT,.slice aF nb.fr.length cF,.slice aR nb.rws.length cR⟩ nv' rv')) (fun i _=>steps.length-(intOf i).toNat)
 case atStart=>exact⟨0,nv,rv,nb,Nat.zero_le _,rfl,H3,Lib.hid rfl,R0,TurnB.refl _ _⟩
 case round=>
  obtain⟨k,nv',rv',b',hk,rfl,H,HBk,RN,T⟩:=hrel;have TL:=T.low (m:=m) (by have:=H3.base;omega) (fun g hg=>(H3.blk g hg).1);have KW:Keep w wr:=Below.trans K3 (Below.mono TL (by omega));by_cases hlt:k<steps.length
  ·
   obtain⟨a',c',e',hq⟩:=HS.out.keep KW;simp only[Value.slice.injEq,true_and] at e';obtain⟨rfl,rfl⟩:=e';rcases hq with h0|⟨bS,oS,rfl,hbS,hcS⟩
   · exfalso;rw[h0] at hlt;simp at hlt
   have hBD:=RN.board hb;have PS:=ps_of hBD;have dS:wr.drew.cell? ⟨bS,oS+k,none⟩=some (.int .i64 (steps.getD k 0)):=hcS k hlt;have CP:=l15Possible_any wr.drew _ dss b' H.drew.rd PS
   have hpl:(possM dss b').length≤1048576:=by
    rw[←poss_same,List.length_append];have:=canK_len dss b' dss.length;have:=ntK_len b' dss.length;have:=PS.m;have:=(workB_useR hb).1;omega
   have HH:isB (possM dss b') (steps.getD k 0)=true→Hid (runM dss (eventsB dss) nb (steps.take (k+1))=stepM dss (eventsB dss) b' (steps.getD k 0)):=fun e=>Lib.hid (by rw[HBk.out] at e ⊢;exact run_hit hlt e)
   have HZ:isB (possM dss b') (steps.getD k 0)=false→Hid (runM dss (eventsB dss) nb (steps.take (k+1))=b'):=fun e=>Lib.hid (by rw[HBk.out] at e ⊢;exact run_miss hlt e)
   generalize steps.getD k 0=st at *;obtain⟨e0,e1,e2,e3,e4,e5,e6,e7⟩:=H.drew.cells;simp only at e0 e1 e2 e3 e4 e5 e6 e7;have zD:D<wr.drew.heap.size:=H.base.2;have zS:bS<wr.drew.heap.size:=hbS;have i1:(0:Int)≤(k:Int):=Int.natCast_nonneg _;have i2:(k:Int)<(steps.length:Int):=by omega
   clear hcS;go_wp2
   go_region_held3 (fun w'=>w'.cell? ⟨D,0,none⟩=some (.slice aW dss.length cW)∧w'.cell? ⟨D,1,none⟩=some (.slice aP nb.plc.length cP)∧w'.cell? ⟨D,2,none⟩=some (.slice aL nb.lst.length cL)∧w'.cell? ⟨D,3,none⟩=some (.slice aN nb.nts.length cN')∧w'.cell? ⟨D,4,none⟩=some (.slice aX nb.nxt.length cX)∧w'.cell? ⟨D,5,none⟩=some (.slice aT nb.sn.length cT)∧w'.cell? ⟨D,6,none⟩=some (.slice aF nb.fr.length cF)∧w'.cell? ⟨D,7,none⟩=some (.slice aR nb.rws.length cR)∧w'.cell? ⟨bS,oS+k,none⟩=some (.int .i64 st))
    (first|go_keep|(go_split_ands;refine⟨?_,?_,?_,?_,?_,?_,?_,?_,?_⟩<;>(rw[kk.cell (by assumption)];assumption)))
    ((first
     | (go_at_call 30;refine CP.mono ?_;rintro e wz ⟨vp,rfl,op,kk⟩;have zD2:D<wz.heap.size:=Nat.lt_of_lt_of_le zD kk.size;have zS2:bS<wz.heap.size:=Nat.lt_of_lt_of_le zS kk.size;have Kz:=kk)
     | (go_at_call 29;refine (l8Is_any _ _ _ op.rd hpl st).mono ?_;clear kk;rintro e wy ⟨rfl,rfl⟩;have kk:Keep wy wy:=Keep.refl _)))
   all_goals
    have Hz:=H.drew.keep Kz;have Tz:=(T.keep (Keep.refl wr).drew).keep Kz;have dz:=(Kz.cell zS).trans dS;clear e0 e1 e2 e3 e4 e5 e6 e7 CP op kk;cases hp:isB (possM dss b') st
    ·
     have HM:=HZ hp;go_wp2;go_roundw;case rel=>exact⟨k+1,nv',rv',b',by omega,by go_num,Hz,Lib.hid HM.out.symm,RN,Tz⟩
     case measure=>simp[intOf];omega
    ·
     have HM:=HH hp;go_wp2_with fail
     refine (l15Step_any _ m D _ nv' rv' bs N dss b' st Hz hBD hp).mono ?_;rintro e w5 ⟨rfl,nv5,rv5,H5,T5⟩;go_wp2;go_roundw;case rel=>exact⟨k+1,nv5,rv5,_,by omega,by go_num,H5,Lib.hid HM.out.symm,RN.step hb hp,Tz.trans T5⟩
     case measure=>simp[intOf];omega
  ·
   obtain rfl:k=steps.length:=by omega
   have NB:¬blkB D ⟨.slice aW dss.length cW,.slice aP nb.plc.length cP,.slice aL nb.lst.length cL,.slice aN nb.nts.length cN',.slice aX nb.nxt.length cX,.slice aT nb.sn.length cT,.slice aF nb.fr.length cF,.slice aR nb.rws.length cR⟩ nv rv w.heap.size:=fun hB=>by have:=(H3.blk _ hB).1;omega
   have hRw:=(T.block w.heap.size (by have:=H3.base;omega) NB).trans hR3;have hDw:=H.heapD;have eT:b'=runM dss (eventsB dss) nb steps:=by have:=HBk.out;rw[List.take_length] at this;exact this
   have HET:=Lib.hid eT;clear eT;simp only[BV.arr] at hDw;have HG:=Lib.hid (grown_row3 wr w.heap.size #[.slice aW dss.length cW,.slice aP nb.plc.length cP,.slice aL nb.lst.length cL,.slice aN nb.nts.length cN',.slice aX nb.nxt.length cX,.slice aT nb.sn.length cT,.slice aF nb.fr.length cF,.slice aR nb.rws.length cR]);have HZ:=Lib.hid (setRow_heap wr w.heap.size _ #[.slice aW dss.length cW,.slice aP nb.plc.length cP,.slice aL nb.lst.length cL,.slice aN nb.nts.length cN',.slice aX nb.nxt.length cX,.slice aT nb.sn.length cT,.slice aF nb.fr.length cF,.slice aR nb.rws.length cR] _ _ hRw);go_wp2_with (first|refine wpList_load_row rfl 32 _ rfl D rfl 32 _ (0,0) _ hDw Tryz.underlying32 rfl board_info ?_|refine wpList_store_row rfl 32 _ _ rfl w.heap.size _ rfl rfl 32 _ hRw board_info rfl (by simp[Value.oneCell']) ?_)
   refine bodyPost_ret (results_row_tmp (by rfl) _ _ w.heap.size _ _ (0,0) _ (.bool true) rfl HZ.out rfl Tryz.underlying32 rfl board_info) rfl ?_;exact⟨⟨.slice aW dss.length cW,.slice aP nb.plc.length cP,.slice aL nb.lst.length cL,.slice aN nb.nts.length cN',.slice aX nb.nxt.length cX,.slice aT nb.sn.length cT,.slice aF nb.fr.length cF,.slice aR nb.rws.length cR⟩,nv',rv',bs,N,rfl,by rw[HNM.out,←HET.out];exact ((H.far HG.out (fun g hg=>by have:=Option.some.inj hg;omega)).val).base_le (by omega),KW.grown HG.out (fun g hg=>by have:=Option.some.inj hg;omega)⟩
def ranT (dss:List (List Dd))(steps:List Int):Bool:=workB dss&&decide (steps.length≤40)
def ranD (dss:List (List Dd))(steps:List Int):List (List Dd):=if ranT dss steps=true then dss else []
def ranB (dss:List (List Dd))(steps:List Int):Bd:=if ranT dss steps=true then runM dss (eventsB dss) (newM dss) steps else zBd
theorem specRan_wrong (w:World)(v vs:Value)(dss:List (List Dd))(steps:List Int)(h:RdW w v dss)(hs:Rd w vs steps)(hb:ranT dss steps=false)(hx:dss.length≤1048576)(hm:∀i,i<dss.length→(dss.getD i []).length≤1048576):
  Calls Tryz.prog 14 #[v,vs] w fun e w'=>e = .returned (.tuple #[BV.agg bd0,.bool false])∧Keep w w':=by
 have C:=fun (W:World) (kW:Keep w W)=>specWorkOk_any W v dss (h.keep kW) hx hm
 obtain⟨aS,cS,rfl,-⟩:=hs
 have hb2:workB dss=true→decide (40<(steps.length:Int))=true:=fun hw=>by
  rw[ranT,hw] at hb;simp at hb;simp;omega
 go_enter Tryz.func14,Tryz.ntmps14
 go_wp2_with fail
 refine (C _ ((Keep.refl w).alloc _)).mono ?_;rintro e w1 ⟨rfl,k1⟩;have hR0:=box_heap k1;have K1:=((Keep.refl w).alloc _).trans k1;have HG:=Lib.hid (grown_row3 w1 w.heap.size #[nilS,nilS,nilS,nilS,nilS,nilS,nilS,nilS]);have HZ:=Lib.hid (setRow_heap w1 w.heap.size _ #[nilS,nilS,nilS,nilS,nilS,nilS,nilS,nilS] _ _ hR0);have HK:=Lib.hid (K1.grown HG.out (fun q hq=>by have:=Option.some.inj hq;omega));clear C k1 K1;cases hw:workB dss
 ·
  clear hb2;go_wp2_with (first|refine wpList_store_row rfl 32 _ _ rfl w.heap.size _ rfl rfl 32 _ hR0 board_info rfl (by simp[Value.oneCell']) ?_|fail)
  refine bodyPost_ret (results_row_tmp (by rfl) _ _ w.heap.size _ _ (0,0) _ (.bool false) rfl HZ.out rfl Tryz.underlying32 rfl board_info) rfl ?_;exact⟨rfl,HK.out⟩
 ·
  have hl:=hb2 hw;clear hb2;go_wp2_with (first|refine wpList_store_row rfl 32 _ _ rfl w.heap.size _ rfl rfl 32 _ hR0 board_info rfl (by simp[Value.oneCell']) ?_|fail)
  refine bodyPost_ret (results_row_tmp (by rfl) _ _ w.heap.size _ _ (0,0) _ (.bool false) rfl HZ.out rfl Tryz.underlying32 rfl board_info) rfl ?_;exact⟨rfl,HK.out⟩
theorem specRan_any (w:World)(v vs:Value)(dss:List (List Dd))(steps:List Int)(h:RdW w v dss)(hs:Rd w vs steps)(hx:dss.length≤1048576)(hm:∀i,i<dss.length→(dss.getD i []).length≤1048576):
  Calls Tryz.prog 14 #[v,vs] w fun e w'=>∃bv:BV,e = .returned (.tuple #[bv.agg,.bool (ranT dss steps)])∧RdBd w' bv (ranD dss steps) (ranB dss steps)∧Keep w w':=by
 unfold ranD ranB
 cases hb:ranT dss steps with
 |true=>
  have hb':=hb;simp only[ranT,Bool.and_eq_true,decide_eq_true_eq] at hb';refine (specRan_right w v vs dss steps h hs hb'.1 hb'.2 hx hm).mono ?_;rintro e w' ⟨bv,nv,rv,bs,N,rfl,o,k⟩;exact⟨bv,rfl,by rw[if_pos rfl,if_pos rfl];exact o.rd0,k⟩
 |false=>
  refine (specRan_wrong w v vs dss steps h hs hb hx hm).mono ?_;rintro e w' ⟨rfl,k⟩;exact⟨bd0,rfl,by rw[if_neg (by simp),if_neg (by simp)];exact rd_zero w',k⟩
theorem sz_ran (dss:List (List Dd))(steps:List Int):SzBd (ranD dss steps) (ranB dss steps)∧SumBd (ranD dss steps) (ranB dss steps):=by
 unfold ranD ranB
 cases hb:ranT dss steps with
 |false=>rw[if_neg (by simp),if_neg (by simp)];exact⟨sz_zero,by simp[SumBd,lenW,lenG]⟩
 |true=>
  have hb':=hb;simp only[ranT,Bool.and_eq_true,decide_eq_true_eq] at hb';rw[if_pos rfl,if_pos rfl];exact (RB.any (run_board hb'.1 _ _ (Run.new hb'.1))).sz (by omega) (by omega)
theorem row_only {w w':World}{base lo hi:Nat}{v:Value}{zs:List Int}(h:Row w base v zs)(k:Only lo hi w w')(hb:hi≤base):Row w' base v zs:=by
 rcases h with h|⟨g,cap,hv,hg,hr⟩
 · exact .inl h
 ·
  have hlt:=hr.lt;obtain⟨cur,e,hh,ht⟩:=hr;exact .inr ⟨g,cap,hv,hg,cur,e,(k.block g hlt (.inr (Nat.le_trans hb hg))).trans hh,ht⟩
end Go.Proofs.YtgakfkjjkobpiabGreat
