/- Gathered texts. -/
import Derived.Test.YtnmelakgmgenjaaGreatMO
import Derived.Deep.Cut
import Derived.Laws.Tables
import Derived.RegionTactic
import Derived.BigRegion
import Derived.Deep.QuietTactic
import Derived.BigQuiet
import Derived.Deep.RegionLaw
import Derived.Deep.LoopGhost
set_option maxRecDepth 100000
set_option maxHeartbeats 8000000
namespace Go.Proofs.YtnmelakgmgenjaaGreat
open Go.ChangeShapes Go.WideShapes Go.ChangeAt Go.RowKit
open Go.RowKit
theorem Ly {AA:List (List Dd)}(hb:AQ AA=true){quick:Bool}{b:Bd}(h:A6 AA quick b):AW AA b=true:=by
 obtain⟨a,_,_,_,M,_⟩:=A8 hb h;exact IK hb M
structure Xt (AA:List (List Dd))(b:Bd):Prop where
 ok:AW AA b=true
 x:b.AL.length<=3
 l:b.AO.length<=3
 s:b.sn.length<=12
 n:b.AG.length<=3
 q:∀n∈b.AG,n.length<=100
 p:b.AM.length=3
 d:AA.length<=3
 dx:AA.length<=b.AL.length
 dn:AA.length<=b.AG.length
theorem Ki {AA:List (List Dd)}(hb:AQ AA=true){quick:Bool}{b:Bd}(h:A6 AA quick b):Xt AA b:=by
 have hB:=Ly hb h;obtain⟨_,h1,h2,_,h4,h5,h6,_,_,h9⟩:=ED hB;have h3:=Ci hb;refine⟨hB,by omega,by omega,h6,by omega,fun n hn=>?_,h1,h3,by omega,by omega⟩;obtain⟨i,hi,e⟩:=List.getElem_of_mem hn;have:=h9 i (by omega);rw[List.getD_eq_getElem?_getD,List.getElem?_eq_getElem hi] at this;simp only[Option.getD_some] at this;rw[e] at this;omega
theorem Xt.key {AA:List (List Dd)}{b:Bd}(h:Xt AA b):(Cm b).length<=400:=by
 have h1:=Rq h.q;have h2:=h.x;have h3:=h.l;have h4:=h.s;have h5:=h.n;unfold Cm;simp only[List.length_append];omega
theorem Xt.shown {AA:List (List Dd)}{b:Bd}(h:Xt AA b):(An b).length<=15:=by
 have h1:=h.s;have h2:=h.p;unfold An;simp only[List.length_append];omega
theorem SG.reach {AA:List (List Dd)}{quick:Bool}{E Sn:List (List Int)}{O:List Bd}{b:Bd}(h:SG AA quick E Sn (O++[b])):A6 AA quick b:=h.si.opn b (by simp)
theorem SG.tQ {AA:List (List Dd)}(hb:AQ AA=true){quick:Bool}{E Sn:List (List Int)}{O:List Bd}(h:SG AA quick E Sn O):∀i,i<Sn.length->(Sn.getD i []).length<=1048576:=fun i hi=>by
 have hm:Sn.getD i []∈Sn:=by rw[List.getD_eq_getElem?_getD,List.getElem?_eq_getElem hi];exact List.getElem_mem hi
 obtain⟨b,hr,e,-⟩:=h.si.seen _ hm;rw[<-e];have:=(Ki hb hr).key;omega
theorem SG.yZ {AA:List (List Dd)}(hb:AQ AA=true){quick:Bool}{E Sn:List (List Int)}{O:List Bd}(h:SG AA quick E Sn O):∀i,i<E.length->(E.getD i []).length<=15:=fun i hi=>by
 have hm:E.getD i []∈E:=by rw[List.getD_eq_getElem?_getD,List.getElem?_eq_getElem hi];exact List.getElem_mem hi
 obtain⟨b,hr,_,e⟩:=h.si.ends _ hm;rw[e];exact (Ki hb hr).shown
abbrev two (w:World):World:=(w.alloc (.cells #[] 28)).alloc (.cells #[] 28)
theorem aK (w:World):(two w).heap.size=w.heap.size+2:=by rw[AD,AD]
theorem PQ {w w':World}{g:Nat}{t:TypeId}{base size:Nat}(hb:base<=g)(hg:w.heap[g]? = some (.cells #[] t (0,0)))(hk:w'.heap[g]? = w.heap[g]?):w'.ownsRow base t size (.slice (some ⟨g,0,none⟩) 0 0) 0 []:=
 ⟨by simp,.inr ⟨g,0,#[],rfl,hb,hk.trans hg,Nat.le_refl _,by decide,by simp,by simp⟩⟩
theorem lC {w w1:World}{AA:List (List Dd)}{b:Bd}{bv:BV}{nv rv:List Value}{bs N:Nat}(K:AC (two w) w1)(h:BG w1 (two w).heap.size bv nv rv bs N AA b)(hm:(two w).heap.size<=bs):
  EI w (w1.alloc (.cells bv.arr 36)) (fun g=>(two w).heap.size<=g/\g<w1.heap.size) AA [] [] [b] (.slice (some ⟨w.heap.size,0,none⟩) 0 0) (.slice (some ⟨w.heap.size+1,0,none⟩) 0 0) (.slice (some ⟨w1.heap.size,0,none⟩) 1 1) [] [] [bv]:=by
 have e2:=aK w;have s1:=K.size;have k1:AC w (two w):=((AC.refl w).alloc _).alloc _;have k2:AC w1 (w1.alloc (.cells bv.arr 36)):=(AC.refl w1).alloc _
 have b0:(two w).heap[w.heap.size]? = some (.cells #[] 28 (0,0)):=by
  have q:=Below.block ((AC.refl (w.alloc (.cells #[] 28))).alloc (.cells #[] 28)) w.heap.size (by rw[AD];omega);exact q.trans (heap_alloc_new w _)
 have b1:(two w).heap[w.heap.size+1]? = some (.cells #[] 28 (0,0)):=by
  have q:=heap_alloc_new (w.alloc (.cells #[] 28)) (.cells #[] 28)
  rwa [AD] at q
 have kk:=K.trans k2;refine⟨fun g hg=>⟨by omega,by rw[AD];omega⟩,⟨PQ (Nat.le_refl _) b0 (Below.block kk _ (by omega)),fun g hg=>?_,fun i hi=>by simp at hi⟩,⟨PQ (by omega) b1 (Below.block kk _ (by omega)),fun g hg=>?_,fun i hi=>by simp at hi⟩,⟨?_,fun g hg=>?_,fun i hi=>?_⟩,fun g hg hv=>?_,fun g hg hv=>?_,fun g hg hv=>?_,k1.trans kk⟩
 ·
  have:=Option.some.inj hg;simp only at this;omega
 ·
  have:=Option.some.inj hg;simp only at this;omega
 . exact⟨by simp[cB],.inr ⟨w1.heap.size,1,bv.arr,rfl,by omega,heap_alloc_new w1 _,Nat.le_refl _,by decide,rfl,by simp[cB]⟩⟩
 ·
  have:=Option.some.inj hg;simp only at this;omega
 ·
  obtain rfl:i=0:=by simp at hi;omega
  exact (h.held hm).on (Au.Bq k2)
 ·
  have e1:=Option.some.inj hg;have e3:=Option.some.inj hv;simp only at e1 e3;omega
 ·
  have e1:=Option.some.inj hg;have e3:=Option.some.inj hv;simp only at e1 e3;omega
 ·
  have e1:=Option.some.inj hg;have e3:=Option.some.inj hv;simp only at e1 e3;omega
theorem FJ.shape {w:World}{P:Nat->Prop}{base:Nat}{v:Value}{vs:List BV}{AA:List (List Dd)}{l:List Bd}(h:FJ w P base v vs AA l):∃a c,v = .slice a l.length c:=by
 rcases h.row.2 with ⟨rfl,hz⟩|⟨g,cap,cur,rfl,_⟩
 . exact⟨none,0,by rw[hz]⟩
 . exact⟨_,_,rfl⟩
structure Jq (w:World)(P:Nat->Prop)(D:Nat)(bv:BV)(AA:List (List Dd))(b:Bd)(vp:Value)(ps:List Int):Prop where
 box:w.heap[D]? = some (.cells bv.arr 36 (0,0))
 pD:P D
 held:C4 w P bv AA b
 rp:Rd w vp ps
 pp:∀g,vp.ownBlock=some g->P g
theorem Jq.on {w w':World}{P:Nat->Prop}{D:Nat}{bv:BV}{AA:List (List Dd)}{b:Bd}{vp:Value}{ps:List Int}(h:Jq w P D bv AA b vp ps)(k:Au P w w'):Jq w' P D bv AA b vp ps:=
 ⟨(k.blk D (Array.getElem?_eq_some_iff.1 h.box).1 h.pD).trans h.box,h.pD,h.held.on k,Qk h.rp k.size (fun g hg hl=>k.blk g hl (h.pp g hg)),h.pp⟩
theorem Jq.mono {w:World}{P P':Nat->Prop}{D:Nat}{bv:BV}{AA:List (List Dd)}{b:Bd}{vp:Value}{ps:List Int}(h:Jq w P D bv AA b vp ps)(hp:∀g,P g->P' g):Jq w P' D bv AA b vp ps:=
 ⟨h.box,hp _ h.pD,h.held.mono hp,h.rp,fun g hg=>hp g (h.pp g hg)⟩
def bM (n:Nat):Bd:={ AM:=[0,0,0],AO:=[0,1,2],AG:=[],AL:=List.replicate n 0,sn:=[],fr:=[],rws:=[[0],[1],[2]] }
def jS:BI->Option Nat
 | .bd=>some 12
 | .AM=>some 2
 | .AO=>some 3
 | .AL=>some 6
 | .rws=>some 10
 | .rw 0=>some 7
 | .rw 1=>some 8
 | .rw 2=>some 9
 |_=>none
theorem gM:∀a b i,jS a=some i->jS b=some i->a=b:=by
 intro a b i h1 h2;unfold jS at h1 h2;split at h1<;>split at h2<;>first|rfl|(simp only[Option.some.injEq] at h1 h2;omega)|(cases h2;done)|(cases h1;done)
theorem mV {w:World}{m D bs N:Nat}{B:Nat->Bool}{R:Nat->Rw}{AA:List (List Dd)}{n:Nat}{x12 x13 x14 x17 x18 x19 x20 x21:Value}(HM:Mk w m (DY [2,3,6,7,8,9,10,12] B) R true x12 bs N AA)
  (b2:B 2=true) (b3:B 3=true) (b6:B 6=true) (b7:B 7=true) (b8:B 8=true) (b9:B 9=true) (b10:B 10=true) (b12:B 12=true)
  (r2:R 2=Bn [0,0,0] x13) (r3:R 3=Bn [0,1,2] x14) (r6:R 6=Bn (List.replicate n 0) x17) (r7:R 7=Bn [0] x18) (r8:R 8=Bn [1] x19) (r9:R 9=Bn [2] x20) (r10:R 10=EP 28 [x18,x19,x20] x21)
  (r12:R 12=Ha D ⟨x12,x13,x14,AE,x17,AE,AE,x21⟩):AR w m D ⟨x12,x13,x14,AE,x17,AE,AE,x21⟩ [] [x18,x19,x20] bs N AA (bM n):=by
 have H1:∀a i,BZ [] [x18,x19,x20] a->jS a=some i->DY [2,3,6,7,8,9,10,12] B i/\Ax D ⟨x12,x13,x14,AE,x17,AE,AE,x21⟩ [] [x18,x19,x20] (bM n) a=R i:=by
  intro a i _ hi;unfold jS at hi;split at hi<;>simp at hi<;>subst hi
  . exact⟨⟨by decide,b12⟩,r12.symm⟩
  . exact⟨⟨by decide,b2⟩,r2.symm⟩
  . exact⟨⟨by decide,b3⟩,r3.symm⟩
  . exact⟨⟨by decide,b6⟩,r6.symm⟩
  . exact⟨⟨by decide,b10⟩,r10.symm⟩
  . exact⟨⟨by decide,b7⟩,r7.symm⟩
  . exact⟨⟨by decide,b8⟩,r8.symm⟩
  . exact⟨⟨by decide,b9⟩,r9.symm⟩
 have H2:∀a,BZ [] [x18,x19,x20] a->jS a=none->(Ax D ⟨x12,x13,x14,AE,x17,AE,AE,x21⟩ [] [x18,x19,x20] (bM n) a).own w m/\(Ax D ⟨x12,x13,x14,AE,x17,AE,AE,x21⟩ [] [x18,x19,x20] (bM n) a).v.ownBlock=none:=by
  intro a ha hn
  match a,ha,hn with
  | .AG,_,_=>exact⟨IQ _ _ _ _,rfl⟩
  | .sn,_,_=>exact⟨IQ _ _ _ _,rfl⟩
  | .fr,_,_=>exact⟨IQ _ _ _ _,rfl⟩
  | .nt c,ha,_=>exact absurd (show c<0 from ha) (by omega)
  | .rw 0,_,hn=>cases hn
  | .rw 1,_,hn=>cases hn
  | .rw 2,_,hn=>cases hn
  | .rw (p+3),ha,_=>exact absurd (show p+3<3 from ha) (by omega)
 refine⟨HM.Ai.via jS gM H1 H2,rfl,rfl,(HM.work rfl).1,(HM.work rfl).2.1,fun a ha k hk=>?_⟩
 cases e:jS a with
 |none=>rw[(H2 a ha e).2] at hk;cases hk
 |some i=>rw[(H1 a i ha e).2] at hk;exact HM.out rfl i (H1 a i ha e).1 k hk
theorem M5 (w:World)(v:Value)(AA:List (List Dd))(h:JJ w v AA)(hb:AQ AA=true):
  Calls Tryz.prog 48 #[v] w fun e w'=>∃bv nv rv bs N,e = .returned (BV.agg bv)/\BG w' w.heap.size bv nv rv bs N AA (Cd AA)/\w.heap.size<=bs/\AC w w':=by
 obtain⟨u1,u2⟩:=Ay hb;have CE:=fun (W:World) (kW:AC w W)=>Gx W v AA (h.keep kW) u1 u2
 have e1:AB AA=BA AA AA.length:=by rw[AB,if_pos hb]
 have h9:=Bv AA;rw[<-e1] at CE;have hok:=Lib.hid u2;clear u2;have h0:=h;obtain⟨a0,c0,rfl,-⟩:=h0;have hll:∀i,i<AA.length->(AA.getD i []).length<=1048576:=fun i hi=>by have hq:=hok.out i hi;unfold GI at hq;rw[Bool.and_eq_true,decide_eq_true_eq] at hq;omega
 generalize hes:AB AA=es at *;clear e1;go_enter Tryz.func48,Tryz.ntmps48
 go_wp2_with fail
 refine (CE _ ((AC.refl w).alloc _)).mono ?_;rintro e w1 ⟨v1,rfl,o1,k1⟩;have hR0:=CX k1;have K1:=((AC.refl w).alloc _).trans k1;have s1:=FM k1;clear k1 CE;go_wp2_with fail
 refine (Eo _ _ _ o1.rd (by omega)).mono ?_;rintro e w2 ⟨v2,rfl,o2,k2⟩;have hR2:=(Below.block k2 w.heap.size s1).trans hR0;have K2:=K1.trans k2;have s2:=k2.size;obtain⟨a2,c2,rfl,-⟩:=o2.rd;generalize hrs:AX Ah es=rs at *;have HRS:=Lib.hid hrs;clear hrs;go_upto_region 2 with fail
 go_cut [4] from 11 (fun s4 wx=>∃D bv rv bs N,s4 = .pointer (some ⟨D,0,none⟩)/\AR wx w2.heap.size D bv [] rv bs N AA (bM AA.length)/\w2.heap.size<=bs/\AC w2 wx)
 case first=>
  refine Bx (by kernel_rfl) (fun listed a wq=>∃(B:Nat->Bool) (R:Nat->Rw) (bs N D:Nat) (x4 x11 x12 x13 x14 x15 x16 x17 x18 x19 x20 x21 x22:Value),listed=#[B 0,B 1,B 2,B 3,B 4,B 5,B 6,B 7,B 8,B 9,B 10,B 11,B 12,B 13]/\a=⟨#[.slice a0 AA.length c0,undef,.pointer (some ⟨w.heap.size,0,none⟩),.int .i64 (rs.length:Int),x4,undef,undef,.slice a0 AA.length c0,v1,.slice a2 rs.length c2,.int .i64 (rs.length:Int),x11,x12,x13,x14,x15,x16,x17,x18,x19,x20,x21,x22,undef,undef,undef,undef,undef,undef,undef,undef,undef,undef,undef,undef,undef,undef,undef,undef,undef,undef,undef,undef,undef,undef,undef,undef,undef,undef,undef,undef],[]⟩ /\
  Hid (Mk wq w2.heap.size (DY [2,3,6,7,8,9,10,12] B) R (B 1) x12 bs N AA/\AC w2 wq/\(B 0=true->x11 = .slice a0 AA.length c0)/\(B 1=true->∃a c,x12 = .slice a AA.length c)/\(B 2=true->(∃g,x13 = .slice (some ⟨g,0,none⟩) 3 3)/\R 2=Bn [0,0,0] x13)/\(B 3=true->(∃g,x14 = .slice (some ⟨g,0,none⟩) 3 3)/\R 3=Bn [0,1,2] x14)/\(B 4=true->x15 = .slice a0 AA.length c0)/\(B 5=true->x16 = .int .i64 (AA.length:Int))/\(B 6=true->(∃g,x17 = .slice (some ⟨g,0,none⟩) AA.length AA.length)/\R 6=Bn (List.replicate AA.length 0) x17)/\(B 7=true->(∃g,x18 = .slice (some ⟨g,0,none⟩) 1 1)/\R 7=Bn [0] x18)/\(B 8=true->(∃g,x19 = .slice (some ⟨g,0,none⟩) 1 1)/\R 8=Bn [1] x19)/\(B 9=true->(∃g,x20 = .slice (some ⟨g,0,none⟩) 1 1)/\R 9=Bn [2] x20)/\(B 10=true->(B 7=true/\B 8=true/\B 9=true)/\(∃g,x21 = .slice (some ⟨g,0,none⟩) 3 3)/\R 10=EP 28 [x18,x19,x20] x21)/\(B 11=true->(B 1=true/\B 2=true/\B 3=true/\B 6=true/\B 10=true)/\x22 = .agg #[x12,x13,x14,AE,x17,AE,AE,x21])/\(B 12=true->x4 = .pointer (some ⟨D,0,none⟩)/\(R 12).v = .slice (some ⟨D,0,none⟩) 1 1/\(B 13=false->R 12=⟨36,8,.slice (some ⟨D,0,none⟩) 1 1,1,[AE,AE,AE,AE,AE,AE,AE,AE]⟩))/\(B 13=true->B 11=true/\B 12=true)/\(B 13=true->R 12=Ha D ⟨x12,x13,x14,AE,x17,AE,AE,x21⟩))) ?_ ?_ ?_
  . exact⟨fun _=>false,fun _=>⟨0,0,AE,0,[]⟩,0,0,0,undef,undef,undef,undef,undef,undef,undef,undef,undef,undef,undef,undef,undef,rfl,rfl,Lib.hid ⟨Mk.start _ _ _ _ _ _ _ _,(AC.refl w2).drew,(fun q=>by cases q),(fun q=>by cases q),(fun q=>by cases q),(fun q=>by cases q),(fun q=>by cases q),(fun q=>by cases q),(fun q=>by cases q),(fun q=>by cases q),(fun q=>by cases q),(fun q=>by cases q),(fun q=>by cases q),(fun q=>by cases q),(fun q=>by cases q),(fun q=>by cases q),(fun q=>by cases q)⟩⟩
  ·
   rintro listed a w3 ⟨B,R,bs,N,D,x4,x11,x12,x13,x14,x15,x16,x17,x18,x19,x20,x21,x22,rfl,rfl,HJ⟩ i hi;have hlt:=(AF hi).1;have hcs:i=0\/i=1\/i=2\/i=3\/i=4\/i=5\/i=6\/i=7\/i=8\/i=9\/i=10\/i=11\/i=12\/i=13:=by simp at hlt;omega
   rcases hcs with rfl|rfl|rfl|rfl|rfl|rfl|rfl|rfl|rfl|rfl|rfl|rfl|rfl|rfl
   ·
    have hbi:B 0=false:=by simpa using (AF hi).2.1
    have HI:=HJ.out;obtain⟨HM,HK,F0,F1,F2,F3,F4,F5,F6,F7,F8,F9,F10,F11,F12,F13,F14⟩:=HI;have hsz:=HK.size;clear HM HK F0 F1 F2 F3 F4 F5 F6 F7 F8 F9 F10 F11 F12 F13 F14;refine AH rfl rfl (fun K hK=>?_);simp only[List.getElem_toArray,List.getElem_cons_zero];go_simp;refine hK.out _ _ ?_;obtain⟨HM,HK,F0,F1,F2,F3,F4,F5,F6,F7,F8,F9,F10,F11,F12,F13,F14⟩:=HJ.out;exact⟨AZ B 0,R,bs,N,D,_,_,_,_,_,_,_,_,_,_,_,_,_,rfl,rfl,Lib.hid ⟨HM.pass (by decide),HK,(fun _=>rfl),F1,F2,F3,F4,F5,F6,F7,F8,F9,F10,F11,F12,F13,F14⟩⟩
   ·
    have hbi:B 1=false:=by simpa using (AF hi).2.1
    have hdp:=(AF hi).2.2 _ rfl;simp[Region.binds] at hdp;have HI:=HJ.out;obtain⟨HM,HK,F0,F1,F2,F3,F4,F5,F6,F7,F8,F9,F10,F11,F12,F13,F14⟩:=HI;have hsz:=HK.size;have Ex:=Lib.hid (F0 hdp);rw[Ex.out];clear HM HK F0 F1 F2 F3 F4 F5 F6 F7 F8 F9 F10 F11 F12 F13 F14;refine AH rfl rfl (fun K hK=>?_);simp only[List.getElem_toArray,List.getElem_cons_succ,List.getElem_cons_zero];go_simp;refine (NA _ _ _ (h.keep (K2.trans HJ.out.2.1)) (by omega) hll).mono ?_;rintro e wz ⟨vz,rfl,hx,kk⟩;go_wp2_with fail
    refine hK.out _ _ ?_;obtain⟨HM,HK,F0,F1,F2,F3,F4,F5,F6,F7,F8,F9,F10,F11,F12,F13,F14⟩:=HJ.out;have ex:=Ex.out;subst ex;rw[hbi] at HM;obtain⟨az,cz,ez,-⟩:=id hx;exact⟨AZ B 1,R,_,_,D,_,_,_,_,_,_,_,_,_,_,_,_,_,rfl,rfl,Lib.hid ⟨HM.copied (by decide) kk hx hsz,HK.trans kk,F0,(fun _=>⟨az,cz,ez⟩),F2,F3,F4,F5,F6,F7,F8,F9,F10,(fun q=>absurd (F11 q).1.1 (by rw[hbi];simp)),F12,F13,(fun q=>absurd (F11 (F13 q).1).1.1 (by rw[hbi];simp))⟩⟩
   ·
    have hbi:B 2=false:=by simpa using (AF hi).2.1
    have HI:=HJ.out;obtain⟨HM,HK,F0,F1,F2,F3,F4,F5,F6,F7,F8,F9,F10,F11,F12,F13,F14⟩:=HI;have hsz:=HK.size;clear HM HK F0 F1 F2 F3 F4 F5 F6 F7 F8 F9 F10 F11 F12 F13 F14;refine AH rfl rfl (fun K hK=>?_);simp only[List.getElem_toArray,List.getElem_cons_succ,List.getElem_cons_zero];refine Kp _ _ rfl 3 rfl rfl (by omega) w2.heap.size hsz ?_;intro wz oz kz;simp only[Act.put,List.setIfInBounds_toArray,List.set_cons_zero,List.set_cons_succ];refine hK.out _ _ ?_;obtain⟨HM,HK,F0,F1,F2,F3,F4,F5,F6,F7,F8,F9,F10,F11,F12,F13,F14⟩:=HJ.out;exact⟨AZ B 2,JC R 2 (Bn [0,0,0] _),bs,N,D,_,_,_,_,_,_,_,_,_,_,_,_,_,rfl,rfl,Lib.hid ⟨HM.add hbi kz oz (fun b hb=>GD hb),HK.trans kz,F0,F1,(fun _=>⟨⟨_,rfl⟩,rfl⟩),F3,F4,F5,F6,F7,F8,F9,F10,(fun q=>absurd (F11 q).1.2.1 (by rw[hbi];simp)),F12,F13,(fun q=>absurd (F11 (F13 q).1).1.2.1 (by rw[hbi];simp))⟩⟩
   ·
    have hbi:B 3=false:=by simpa using (AF hi).2.1
    have HI:=HJ.out;obtain⟨HM,HK,F0,F1,F2,F3,F4,F5,F6,F7,F8,F9,F10,F11,F12,F13,F14⟩:=HI;have hsz:=HK.size;clear HM HK F0 F1 F2 F3 F4 F5 F6 F7 F8 F9 F10 F11 F12 F13 F14;refine AH rfl rfl (fun K hK=>?_);simp only[List.getElem_toArray,List.getElem_cons_succ,List.getElem_cons_zero];go_simp;refine hK.out _ _ ?_;obtain⟨HM,HK,F0,F1,F2,F3,F4,F5,F6,F7,F8,F9,F10,F11,F12,F13,F14⟩:=HJ.out;exact⟨AZ B 3,_,bs,N,D,_,_,_,_,_,_,_,_,_,_,_,_,_,rfl,rfl,Lib.hid ⟨HM.add hbi ((AC.refl w3).alloc _) (Ke w3 hsz 2 #[.int .i64 0,.int .i64 1,.int .i64 2] (by unfold maxLen;simp)) (fun b hb=>GD hb),HK.alloc _,F0,F1,F2,(fun _=>⟨⟨_,rfl⟩,rfl⟩),F4,F5,F6,F7,F8,F9,F10,(fun q=>absurd (F11 q).1.2.2.1 (by rw[hbi];simp)),F12,F13,(fun q=>absurd (F11 (F13 q).1).1.2.2.1 (by rw[hbi];simp))⟩⟩
   ·
    have hbi:B 4=false:=by simpa using (AF hi).2.1
    have HI:=HJ.out;obtain⟨HM,HK,F0,F1,F2,F3,F4,F5,F6,F7,F8,F9,F10,F11,F12,F13,F14⟩:=HI;have hsz:=HK.size;clear HM HK F0 F1 F2 F3 F4 F5 F6 F7 F8 F9 F10 F11 F12 F13 F14;refine AH rfl rfl (fun K hK=>?_);simp only[List.getElem_toArray,List.getElem_cons_succ,List.getElem_cons_zero];go_simp;refine hK.out _ _ ?_;obtain⟨HM,HK,F0,F1,F2,F3,F4,F5,F6,F7,F8,F9,F10,F11,F12,F13,F14⟩:=HJ.out;exact⟨AZ B 4,R,bs,N,D,_,_,_,_,_,_,_,_,_,_,_,_,_,rfl,rfl,Lib.hid ⟨HM.pass (by decide),HK,F0,F1,F2,F3,(fun _=>rfl),F5,F6,F7,F8,F9,F10,F11,F12,F13,F14⟩⟩
   ·
    have hbi:B 5=false:=by simpa using (AF hi).2.1
    have hdp:=(AF hi).2.2 _ rfl;simp[Region.binds] at hdp;have HI:=HJ.out;obtain⟨HM,HK,F0,F1,F2,F3,F4,F5,F6,F7,F8,F9,F10,F11,F12,F13,F14⟩:=HI;have hsz:=HK.size;have Ex:=Lib.hid (F4 hdp);rw[Ex.out];clear HM HK F0 F1 F2 F3 F4 F5 F6 F7 F8 F9 F10 F11 F12 F13 F14;refine AH rfl rfl (fun K hK=>?_);simp only[List.getElem_toArray,List.getElem_cons_succ,List.getElem_cons_zero];go_simp;refine hK.out _ _ ?_;obtain⟨HM,HK,F0,F1,F2,F3,F4,F5,F6,F7,F8,F9,F10,F11,F12,F13,F14⟩:=HJ.out;have ex:=Ex.out;subst ex;exact⟨AZ B 5,R,bs,N,D,_,_,_,_,_,_,_,_,_,_,_,_,_,rfl,rfl,Lib.hid ⟨HM.pass (by decide),HK,F0,F1,F2,F3,F4,(fun _=>rfl),F6,F7,F8,F9,F10,F11,F12,F13,F14⟩⟩
   ·
    have hbi:B 6=false:=by simpa using (AF hi).2.1
    have hdp:=(AF hi).2.2 _ rfl;simp[Region.binds] at hdp;have HI:=HJ.out;obtain⟨HM,HK,F0,F1,F2,F3,F4,F5,F6,F7,F8,F9,F10,F11,F12,F13,F14⟩:=HI;have hsz:=HK.size;have Ex:=Lib.hid (F5 hdp);rw[Ex.out];clear HM HK F0 F1 F2 F3 F4 F5 F6 F7 F8 F9 F10 F11 F12 F13 F14;refine AH rfl rfl (fun K hK=>?_);simp only[List.getElem_toArray,List.getElem_cons_succ,List.getElem_cons_zero];refine Kp _ _ rfl AA.length rfl rfl (by omega) w2.heap.size hsz ?_;intro wz oz kz;simp only[Act.put,List.setIfInBounds_toArray,List.set_cons_zero,List.set_cons_succ];refine hK.out _ _ ?_;obtain⟨HM,HK,F0,F1,F2,F3,F4,F5,F6,F7,F8,F9,F10,F11,F12,F13,F14⟩:=HJ.out;have ex:=Ex.out;subst ex;exact⟨AZ B 6,JC R 6 (Bn (List.replicate AA.length 0) _),bs,N,D,_,_,_,_,_,_,_,_,_,_,_,_,_,rfl,rfl,Lib.hid ⟨HM.add hbi kz oz (fun b hb=>GD hb),HK.trans kz,F0,F1,F2,F3,F4,F5,(fun _=>⟨⟨_,rfl⟩,rfl⟩),F7,F8,F9,F10,(fun q=>absurd (F11 q).1.2.2.2.1 (by rw[hbi];simp)),F12,F13,(fun q=>absurd (F11 (F13 q).1).1.2.2.2.1 (by rw[hbi];simp))⟩⟩
   ·
    have hbi:B 7=false:=by simpa using (AF hi).2.1
    have HI:=HJ.out;obtain⟨HM,HK,F0,F1,F2,F3,F4,F5,F6,F7,F8,F9,F10,F11,F12,F13,F14⟩:=HI;have hsz:=HK.size;clear HM HK F0 F1 F2 F3 F4 F5 F6 F7 F8 F9 F10 F11 F12 F13 F14;refine AH rfl rfl (fun K hK=>?_);simp only[List.getElem_toArray,List.getElem_cons_succ,List.getElem_cons_zero];go_simp;refine hK.out _ _ ?_;obtain⟨HM,HK,F0,F1,F2,F3,F4,F5,F6,F7,F8,F9,F10,F11,F12,F13,F14⟩:=HJ.out;exact⟨AZ B 7,_,bs,N,D,_,_,_,_,_,_,_,_,_,_,_,_,_,rfl,rfl,Lib.hid ⟨HM.add hbi ((AC.refl w3).alloc _) (Ke w3 hsz 2 #[.int .i64 0] (by unfold maxLen;simp)) (fun b hb=>GD hb),HK.alloc _,F0,F1,F2,F3,F4,F5,F6,(fun _=>⟨⟨_,rfl⟩,rfl⟩),F8,F9,(fun q=>absurd (F10 q).1.1 (by rw[hbi];simp)),F11,F12,F13,F14⟩⟩
   ·
    have hbi:B 8=false:=by simpa using (AF hi).2.1
    have HI:=HJ.out;obtain⟨HM,HK,F0,F1,F2,F3,F4,F5,F6,F7,F8,F9,F10,F11,F12,F13,F14⟩:=HI;have hsz:=HK.size;clear HM HK F0 F1 F2 F3 F4 F5 F6 F7 F8 F9 F10 F11 F12 F13 F14;refine AH rfl rfl (fun K hK=>?_);simp only[List.getElem_toArray,List.getElem_cons_succ,List.getElem_cons_zero];go_simp;refine hK.out _ _ ?_;obtain⟨HM,HK,F0,F1,F2,F3,F4,F5,F6,F7,F8,F9,F10,F11,F12,F13,F14⟩:=HJ.out;exact⟨AZ B 8,_,bs,N,D,_,_,_,_,_,_,_,_,_,_,_,_,_,rfl,rfl,Lib.hid ⟨HM.add hbi ((AC.refl w3).alloc _) (Ke w3 hsz 2 #[.int .i64 1] (by unfold maxLen;simp)) (fun b hb=>GD hb),HK.alloc _,F0,F1,F2,F3,F4,F5,F6,F7,(fun _=>⟨⟨_,rfl⟩,rfl⟩),F9,(fun q=>absurd (F10 q).1.2.1 (by rw[hbi];simp)),F11,F12,F13,F14⟩⟩
   ·
    have hbi:B 9=false:=by simpa using (AF hi).2.1
    have HI:=HJ.out;obtain⟨HM,HK,F0,F1,F2,F3,F4,F5,F6,F7,F8,F9,F10,F11,F12,F13,F14⟩:=HI;have hsz:=HK.size;clear HM HK F0 F1 F2 F3 F4 F5 F6 F7 F8 F9 F10 F11 F12 F13 F14;refine AH rfl rfl (fun K hK=>?_);simp only[List.getElem_toArray,List.getElem_cons_succ,List.getElem_cons_zero];go_simp;refine hK.out _ _ ?_;obtain⟨HM,HK,F0,F1,F2,F3,F4,F5,F6,F7,F8,F9,F10,F11,F12,F13,F14⟩:=HJ.out;exact⟨AZ B 9,_,bs,N,D,_,_,_,_,_,_,_,_,_,_,_,_,_,rfl,rfl,Lib.hid ⟨HM.add hbi ((AC.refl w3).alloc _) (Ke w3 hsz 2 #[.int .i64 2] (by unfold maxLen;simp)) (fun b hb=>GD hb),HK.alloc _,F0,F1,F2,F3,F4,F5,F6,F7,F8,(fun _=>⟨⟨_,rfl⟩,rfl⟩),(fun q=>absurd (F10 q).1.2.2 (by rw[hbi];simp)),F11,F12,F13,F14⟩⟩
   ·
    have hbi:B 10=false:=by simpa using (AF hi).2.1
    have hdp:=(AF hi).2.2 _ rfl;simp[Region.binds] at hdp;have HI:=HJ.out;obtain⟨HM,HK,F0,F1,F2,F3,F4,F5,F6,F7,F8,F9,F10,F11,F12,F13,F14⟩:=HI;have hsz:=HK.size;obtain⟨d7,d8,d9⟩:=hdp;obtain⟨⟨g7,e7⟩,-⟩:=F7 d7;have E7:=Lib.hid (e7);rw[E7.out];clear e7;obtain⟨⟨g8,e8⟩,-⟩:=F8 d8;have E8:=Lib.hid (e8);rw[E8.out];clear e8;obtain⟨⟨g9,e9⟩,-⟩:=F9 d9;have E9:=Lib.hid (e9);rw[E9.out];clear e9;clear HM HK F0 F1 F2 F3 F4 F5 F6 F7 F8 F9 F10 F11 F12 F13 F14;refine AH rfl rfl (fun K hK=>?_);simp only[List.getElem_toArray,List.getElem_cons_succ,List.getElem_cons_zero];go_simp;refine hK.out _ _ ?_;obtain⟨HM,HK,F0,F1,F2,F3,F4,F5,F6,F7,F8,F9,F10,F11,F12,F13,F14⟩:=HJ.out;have e7:=E7.out;subst e7;have e8:=E8.out;subst e8;have e9:=E9.out;subst e9;exact⟨AZ B 10,_,bs,N,D,_,_,_,_,_,_,_,_,_,_,_,_,_,rfl,rfl,Lib.hid ⟨HM.add hbi ((AC.refl w3).alloc _) (Ke w3 hsz 28 #[.slice (some ⟨g7,0,none⟩) 1 1,.slice (some ⟨g8,0,none⟩) 1 1,.slice (some ⟨g9,0,none⟩) 1 1] (by unfold maxLen;simp)) (fun b hb=>GD hb),HK.alloc _,F0,F1,F2,F3,F4,F5,F6,F7,F8,F9,(fun _=>⟨⟨d7,d8,d9⟩,⟨_,rfl⟩,rfl⟩),(fun q=>absurd (F11 q).1.2.2.2.2 (by rw[hbi];simp)),F12,F13,(fun q=>absurd (F11 (F13 q).1).1.2.2.2.2 (by rw[hbi];simp))⟩⟩
   ·
    have hbi:B 11=false:=by simpa using (AF hi).2.1
    have hdp:=(AF hi).2.2 _ rfl;simp[Region.binds] at hdp;have HI:=HJ.out;obtain⟨HM,HK,F0,F1,F2,F3,F4,F5,F6,F7,F8,F9,F10,F11,F12,F13,F14⟩:=HI;have hsz:=HK.size;obtain⟨d1,d2,d3,d6,d10⟩:=hdp;obtain⟨a1,c1,e1⟩:=F1 d1;have E1:=Lib.hid (e1);rw[E1.out];clear e1;obtain⟨⟨g2,e2⟩,-⟩:=F2 d2;have E2:=Lib.hid (e2);rw[E2.out];clear e2;obtain⟨⟨g3,e3⟩,-⟩:=F3 d3;have E3:=Lib.hid (e3);rw[E3.out];clear e3;obtain⟨⟨g6,e6⟩,-⟩:=F6 d6;have E6:=Lib.hid (e6);rw[E6.out];clear e6;obtain⟨-,⟨g10,e10⟩,-⟩:=F10 d10;have E10:=Lib.hid (e10);rw[E10.out];clear e10;clear HM HK F0 F1 F2 F3 F4 F5 F6 F7 F8 F9 F10 F11 F12 F13 F14;refine AH rfl rfl (fun K hK=>?_);simp only[List.getElem_toArray,List.getElem_cons_succ,List.getElem_cons_zero];go_simp;refine hK.out _ _ ?_;obtain⟨HM,HK,F0,F1,F2,F3,F4,F5,F6,F7,F8,F9,F10,F11,F12,F13,F14⟩:=HJ.out;have e1:=E1.out;subst e1;have e2:=E2.out;subst e2;have e3:=E3.out;subst e3;have e6:=E6.out;subst e6;have e10:=E10.out;subst e10;exact⟨AZ B 11,R,bs,N,D,_,_,_,_,_,_,_,_,_,_,_,_,_,rfl,rfl,Lib.hid ⟨HM.pass (by decide),HK,F0,F1,F2,F3,F4,F5,F6,F7,F8,F9,F10,(fun _=>⟨⟨d1,d2,d3,d6,d10⟩,rfl⟩),F12,(fun q=>absurd (F13 q).1 (by rw[hbi];simp)),F14⟩⟩
   ·
    have hbi:B 12=false:=by simpa using (AF hi).2.1
    have HI:=HJ.out;obtain⟨HM,HK,F0,F1,F2,F3,F4,F5,F6,F7,F8,F9,F10,F11,F12,F13,F14⟩:=HI;have hsz:=HK.size;clear HM HK F0 F1 F2 F3 F4 F5 F6 F7 F8 F9 F10 F11 F12 F13 F14;refine AH rfl rfl (fun K hK=>?_);simp only[List.getElem_toArray,List.getElem_cons_succ,List.getElem_cons_zero];go_simp;refine hK.out _ _ ?_;obtain⟨HM,HK,F0,F1,F2,F3,F4,F5,F6,F7,F8,F9,F10,F11,F12,F13,F14⟩:=HJ.out;exact⟨AZ B 12,_,bs,N,w3.heap.size,_,_,_,_,_,_,_,_,_,_,_,_,_,rfl,rfl,Lib.hid ⟨HM.add hbi ((AC.refl w3).alloc _) (UY w3 hsz) (fun b hb=>GD hb),HK.alloc _,F0,F1,F2,F3,F4,F5,F6,F7,F8,F9,F10,F11,(fun _=>⟨rfl,rfl,fun _=>rfl⟩),(fun q=>absurd (F13 q).2 (by rw[hbi];simp)),(fun q=>absurd (F13 q).2 (by rw[hbi];simp))⟩⟩
   ·
    have hbi:B 13=false:=by simpa using (AF hi).2.1
    have hdp:=(AF hi).2.2 _ rfl;simp[Region.binds] at hdp;have HI:=HJ.out;obtain⟨HM,HK,F0,F1,F2,F3,F4,F5,F6,F7,F8,F9,F10,F11,F12,F13,F14⟩:=HI;have hsz:=HK.size;have d11:B 11=true:=by exact hdp.2.1
    have d12:B 12=true:=by exact hdp.1
    obtain⟨⟨d1,d2,d3,d6,d10⟩,e22⟩:=F11 d11;obtain⟨e4,er,ez⟩:=F12 d12;have o12:=HM.Ai.own 12 ⟨by decide,d12⟩;rw[ez hbi] at o12;obtain⟨⟨old,hz,hos⟩,ho⟩:=UZ o12 (v:=⟨x12,x13,x14,AE,x17,AE,AE,x21⟩);obtain⟨a1,c1,e1⟩:=F1 d1;obtain⟨⟨g2,e2⟩,-⟩:=F2 d2;obtain⟨⟨g3,e3⟩,-⟩:=F3 d3;obtain⟨⟨g6,e6⟩,-⟩:=F6 d6;obtain⟨-,⟨g10,e10⟩,-⟩:=F10 d10;have hone:(BV.arr ⟨x12,x13,x14,AE,x17,AE,AE,x21⟩).all (·.oneCell')=true:=by rw[e1,e2,e3,e6,e10];simp[Value.oneCell']
    clear e1 e2 e3 e6 e10;have Ep:=Lib.hid (e22);rw[Ep.out];have Eq:=Lib.hid (e4);rw[Eq.out];clear e22 e4;clear HM HK F0 F1 F2 F3 F4 F5 F6 F7 F8 F9 F10 F11 F12 F13 F14;refine AH rfl rfl (fun K hK=>?_);simp only[List.getElem_toArray,List.getElem_cons_succ,List.getElem_cons_zero];refine wp_store_row 36 _ _ rfl D _ rfl rfl 36 old hz AK hos hone ?_;refine hK.out _ _ ?_;obtain⟨HM,HK,F0,F1,F2,F3,F4,F5,F6,F7,F8,F9,F10,F11,F12,F13,F14⟩:=HJ.out;have ep:=Ep.out;subst ep;have eq:=Eq.out;subst eq;exact⟨AZ B 13,_,bs,N,D,_,_,_,_,_,_,_,_,_,_,_,_,_,rfl,rfl,Lib.hid ⟨HM.turn (by decide) ⟨by decide,d12⟩ (r:=Ha D ⟨x12,x13,x14,AE,x17,AE,AE,x21⟩) (by rw[er];exact Af _ _ _) (by rw[er]) ho,HK.grown (Af _ D _) (fun b hb=>by have:=(HM.Ai.lt ⟨by decide,d12⟩ D (by rw[er];rfl)).1;have:=Option.some.inj hb;omega),F0,F1,F2,F3,F4,F5,F6,F7,F8,F9,F10,F11,(fun _=>⟨rfl,rfl,fun q=>by cases q⟩),(fun _=>⟨d11,d12⟩),(fun _=>rfl)⟩⟩
  ·
   rintro listed a w3 ⟨B,R,bs,N,D,x4,x11,x12,x13,x14,x15,x16,x17,x18,x19,x20,x21,x22,rfl,rfl,HJ⟩ hr;have b0:B 0=true:=by simpa using Bj hr 0 _ rfl (by simp[Region.binds])
   have b1:B 1=true:=by simpa using Bj hr 1 _ rfl (by simp[Region.binds,b0])
   have b2:B 2=true:=by simpa using Bj hr 2 _ rfl (by simp[Region.binds])
   have b3:B 3=true:=by simpa using Bj hr 3 _ rfl (by simp[Region.binds])
   have b4:B 4=true:=by simpa using Bj hr 4 _ rfl (by simp[Region.binds])
   have b5:B 5=true:=by simpa using Bj hr 5 _ rfl (by simp[Region.binds,b4])
   have b6:B 6=true:=by simpa using Bj hr 6 _ rfl (by simp[Region.binds,b5])
   have b7:B 7=true:=by simpa using Bj hr 7 _ rfl (by simp[Region.binds])
   have b8:B 8=true:=by simpa using Bj hr 8 _ rfl (by simp[Region.binds])
   have b9:B 9=true:=by simpa using Bj hr 9 _ rfl (by simp[Region.binds])
   have b10:B 10=true:=by simpa using Bj hr 10 _ rfl (by simp[Region.binds,b7,b8,b9])
   have b11:B 11=true:=by simpa using Bj hr 11 _ rfl (by simp[Region.binds,b1,b2,b3,b6,b10])
   have b12:B 12=true:=by simpa using Bj hr 12 _ rfl (by simp[Region.binds])
   have b13:B 13=true:=by simpa using Bj hr 13 _ rfl (by simp[Region.binds,b0,b1,b2,b3,b4,b5,b6,b7,b8,b9,b10,b11,b12])
   obtain⟨HM,HK,F0,F1,F2,F3,F4,F5,F6,F7,F8,F9,F10,F11,F12,F13,F14⟩:=HJ.out;clear HJ hr;have HB:=mV (n:=AA.length) (by rw[b1] at HM;exact HM) b2 b3 b6 b7 b8 b9 b10 b12 (F2 b2).2 (F3 b3).2 (F6 b6).2 (F7 b7).2 (F8 b8).2 (F9 b9).2 (F10 b10).2.2 (F14 b13);have HW:=((by rw[b1] at HM;exact HM):Mk w3 w2.heap.size _ R true x12 bs N AA).work rfl;have e4:=(F12 b12).1;clear HM F0 F1 F2 F3 F4 F5 F6 F7 F8 F9 F10 F11 F12 F13 F14;subst e4;go_wp2;go_meet;case rel=>exact⟨D,_,_,bs,N,rfl,HB,HW.2.2,HK⟩
 case rest=>
  obtain⟨D,bv,rv,bs,N,rfl,H,hbs,kc⟩:=hcut;have hRc:=(Below.block kc w.heap.size (by omega)).trans hR2;obtain⟨j0,hj,hy0,hy1,hy2⟩:=info_parts Tryz.QD;obtain⟨i0,hi,hz0,hz1,hz2⟩:=info_parts Tryz.GU
  have rs12:rs.length<=12:=by
   rw[<-HRS.out];unfold AX;rw[if_pos (by omega)];have:=DP Ah es es.length;omega
  go_wp2;go_loopw [5] (fun i wr=>∃(k:Nat) (bv':BV) (nv':List Value),k<=AA.length/\i = .int .i64 k/\AR wr w2.heap.size D bv' nv' rv bs N AA { bM AA.length with AG:=List.replicate k [] }/\AC w2 wr) (fun i _=>AA.length-(intOf i).toNat)
  case atStart=>exact⟨0,bv,[],Nat.zero_le _,rfl,H,kc⟩
  case round=>
   obtain⟨k,bv',nv',hk,rfl,Hr,kr⟩:=hrel;clear H kc hRc;by_cases hlt:k<AA.length
   ·
    obtain⟨aN,cN',eN,-⟩:=Hr.hN;simp only[List.length_replicate] at eN;have d3:=Hr.cells.2.2.2.1;have hln:nv'.length=k:=by have:=Hr.ln;simpa using this
    have HR0:wr.ownsRow w2.heap.size 101 1 (.slice aN k cN') k nv':=by
     have o:wr.ownsRow w2.heap.size 101 1 bv'.N nv'.length nv':=Hr.Ai.own .AG trivial;rw[eN,hln] at o;exact o
    rw[eN] at d3;have hbase:=Hr.base;have sr:=kr.size;have oA:B5 cN 104 3 (wr.alloc (.cells #[] 104)) w2.heap.size (.slice (some ⟨wr.heap.size,0,none⟩) 0 0) []:=World.ownsRow_lit wr #[] 0 sr (by decide) rfl;have kA:AC wr (wr.alloc (.cells #[] 104)):=(AC.refl wr).alloc _;have kA2:AC (wr.alloc (.cells #[] 104)) ((wr.alloc (.cells #[] 104)).alloc (.cells #[.slice (some ⟨wr.heap.size,0,none⟩) 0 0] 101)):=(AC.refl _).alloc _;have kB:=kA.trans kA2;have oB:B5 cN 104 3 ((wr.alloc (.cells #[] 104)).alloc (.cells #[.slice (some ⟨wr.heap.size,0,none⟩) 0 0] 101)) w2.heap.size (.slice (some ⟨wr.heap.size,0,none⟩) 0 0) []:=World.ownsRow.kept oA kA2.grownBy (.inr (by simp[Value.ownBlock]));have HR:=World.ownsRow.kept HR0 kB.grownBy (by cases (Value.slice aN k cN').ownBlock<;>simp);have HH:=Lib.hid Hr;have HoB:=Lib.hid oB;have HkB:=Lib.hid kB;have jH:=Lib.hid eN;have jI:=Lib.hid hln;have fD:=Hr.free 3;have dB:((wr.alloc (.cells #[] 104)).alloc (.cells #[.slice (some ⟨wr.heap.size,0,none⟩) 0 0] 101)).heap.size=wr.heap.size+1+1:=by rw[AD,AD]
    have HdB:=Lib.hid dB;clear Hr oA kA kA2 kB oB HR0 eN hln dB;go_wp2_with (at_builtin;refine wpList_append_own_at _ rfl _ _ 34 rfl w2.heap.size 101 j0 (.slice none 0 0) 1 24 Tryz.underlying34 hj hy0 hy1 hy2 rfl (by decide) _ _ _ rfl HR ⟨_,0,none⟩ 1 1 [.slice (some ⟨wr.heap.size,0,none⟩) 0 0] rfl rfl ?e1 ?e2 ?e3 ?e4 ?e5 ?_)
    case e2=>rfl
    case e3=>unfold maxLen;omega
    case e4=>omega
    case e5=>omega
    intro v' w7 hown7 hgrow7 _ hblk7
    have ho7:(EP 101 (nv'++[Value.slice (some ⟨wr.heap.size,0,none⟩) 0 0]) v').own w7 w2.heap.size:=by
     show w7.ownsRow w2.heap.size 101 1 v' (nv'++[Value.slice (some ⟨wr.heap.size,0,none⟩) 0 0]).length (nv'++[Value.slice (some ⟨wr.heap.size,0,none⟩) 0 0]);rw[List.length_append,jI.out];exact hown7
    obtain⟨H8,c8,f8⟩:=HH.out.SZ HkB.out (fun q hq=>GD hq) HoB.out (by rw[jH.out];exact hgrow7) (by rw[jH.out];rcases hblk7 with e|e;exact .inl e;exact .inr (.inl (by rw[HdB.out];exact e))) ho7;have K7:AC w2 w7:=(kr.trans HkB.out).grown hgrow7 (fun q hq=>(World.ownsRow.lt HR q hq).1);have K8:AC w2 (w7.setCell ⟨D,3,none⟩ v'):=K7.grown (Ae w7 D 3 v') (fun q hq=>by have:=Option.some.inj hq;omega);obtain⟨a8,c8',e8,-⟩:=Bt ho7
    have H9:AR (w7.setCell ⟨D,3,none⟩ v') w2.heap.size D { bv' with N:=v' } (nv'++[Value.slice (some ⟨wr.heap.size,0,none⟩) 0 0]) rv bs N AA { bM AA.length with AG:=List.replicate (k+1) [] }:=by
     rw[List.replicate_succ'];exact H8
    have HH9:=Lib.hid H9;have HK8:=Lib.hid K8;clear H8 H9 K8 K7 hown7 hgrow7 hblk7 HR ho7 fD;replace e8:v' = .slice a8 (k+1) c8':=by rw[e8,List.length_append,jI.out];rfl
    subst e8;go_wp2;go_roundw;case rel=>exact⟨k+1,_,_,by omega,by go_num,HH9.out,HK8.out⟩
    case measure=>simp[intOf];omega
   ·
    obtain rfl:k=AA.length:=by omega
    clear hlt hk;go_wp2;go_loopw [6] (fun i wq=>∃(k:Nat) (bv':BV),k<=rs.length/\i = .int .i64 k/\AR wq w2.heap.size D bv' nv' rv bs N AA { bM AA.length with AG:=List.replicate AA.length [],sn:=List.replicate k (-1),fr:=List.replicate k (-1) }/\AC w2 wq) (fun i _=>rs.length-(intOf i).toNat)
    case atStart=>exact⟨0,bv',Nat.zero_le _,rfl,Hr,kr⟩
    case round=>
     clear Hr kr;obtain⟨k,bv',hk,rfl,Hr,kr⟩:=hrel;by_cases hlt:k<rs.length
     ·
      have oS:=Hr.oS;obtain⟨aS,cS,eS,-⟩:=oS.rd;simp only[List.length_replicate] at eS;have d5:=Hr.cells.2.2.2.2.2.1;have d6:=Hr.cells.2.2.2.2.2.2.1;have oF:=Hr.oF;obtain⟨aF,cF,eF,-⟩:=oF.rd;simp only[List.length_replicate] at eF;have f5:=Hr.free 5;have hbase:=Hr.base;have sr:=kr.size
      have HS0:wr.ownsRow w2.heap.size 2 1 (.slice aS k cS) k ((List.replicate k (-1:Int)).map (Value.int .i64)):=by
       have o:wr.ownsRow w2.heap.size 2 1 bv'.S (List.replicate k (-1:Int)).length ((List.replicate k (-1:Int)).map (Value.int .i64)):=oS;rw[eS,List.length_replicate] at o;exact o
      have kA:AC wr (wr.alloc (.cells #[.int .i64 (-1)] 2)):=(AC.refl wr).alloc _;have HS:=World.ownsRow.kept HS0 kA.grownBy (by cases (Value.slice aS k cS).ownBlock<;>simp);rw[eS] at d5;have HH:=Lib.hid Hr;have kE:=Lib.hid kA;have wX:=Lib.hid eS;have uz:=Lib.hid eF;clear Hr kA HS0 eS eF oS oF d6;go_wp2_with (at_builtin;refine wpList_append_own_at _ rfl _ _ 28 rfl w2.heap.size 2 i0 (.int .i64 0) 1 8 Tryz.underlying28 hi hz0 hz1 hz2 rfl (by decide) _ _ _ rfl HS ⟨_,0,none⟩ 1 1 [.int .i64 (-1)] rfl rfl ?b1 ?b2 ?b3 ?b4 ?b5 ?_)
      case b2=>rfl
      case b3=>unfold maxLen;omega
      case b4=>omega
      case b5=>omega
      intro v' w7 hown7 hgrow7 _ hblk7
      have ho7:BM w7 w2.heap.size v' (List.replicate (k+1) (-1)):=by
       unfold BM;rw[List.replicate_succ']
       simpa using hown7
      have kw:AR (wr.alloc (.cells #[.int .i64 (-1)] 2)) w2.heap.size D bv' nv' rv bs N AA _:=HH.out.keep kE.out;obtain⟨H8,c8,f8⟩:=kw.Uq (by rw[wX.out];exact hgrow7) (by rw[wX.out];rcases hblk7 with e|e;exact .inl e;exact .inr (.inl (by rw[AD];exact e))) ho7;have K7:AC w2 w7:=(kr.trans kE.out).grown hgrow7 (fun q hq=>(World.ownsRow.lt HS q hq).1);have K8:AC w2 (w7.setCell ⟨D,5,none⟩ v'):=K7.grown (Ae w7 D 5 v') (fun q hq=>by have:=Option.some.inj hq;omega);obtain⟨a8,c8',e8,-⟩:=ho7.rd;rw[List.length_replicate] at e8;clear hown7 hgrow7 hblk7 HS ho7 f5 d5 HH kE kw wX kr K7;subst e8;obtain⟨wS,zK⟩:∃W:World,W=w7.setCell ⟨D,5,none⟩ (.slice a8 (k+1) c8'):=⟨_,rfl⟩;rw[<-zK] at H8 K8;have HwS:=Lib.hid zK;clear zK;have d6:=H8.cells.2.2.2.2.2.2.1;have f6:=H8.free 6;have oF:=H8.oF
      have HF0:wS.ownsRow w2.heap.size 2 1 (.slice aF k cF) k ((List.replicate k (-1:Int)).map (Value.int .i64)):=by
       have o:wS.ownsRow w2.heap.size 2 1 bv'.F (List.replicate k (-1:Int)).length ((List.replicate k (-1:Int)).map (Value.int .i64)):=oF;rw[uz.out,List.length_replicate] at o;exact o
      have kA:AC wS (wS.alloc (.cells #[.int .i64 (-1)] 2)):=(AC.refl wS).alloc _;have HF:=World.ownsRow.kept HF0 kA.grownBy (by cases (Value.slice aF k cF).ownBlock<;>simp);have sr:=K8.size;simp only[uz.out] at d6;have HH:=Lib.hid H8;have kE:=Lib.hid kA;clear H8 kA HF0 oF;go_upto_region 11 with fail
      rw[<-HwS.out];clear c8 f8 HwS;go_wp2_with (at_builtin;refine wpList_append_own_at _ rfl _ _ 28 rfl w2.heap.size 2 i0 (.int .i64 0) 1 8 Tryz.underlying28 hi hz0 hz1 hz2 rfl (by decide) _ _ _ rfl HF ⟨_,0,none⟩ 1 1 [.int .i64 (-1)] rfl rfl ?g1 ?g2 ?g3 ?g4 ?g5 ?_)
      case g2=>rfl
      case g3=>unfold maxLen;omega
      case g4=>omega
      case g5=>omega
      intro v9 w9 hown9 hgrow9 _ hblk9
      have ho9:BM w9 w2.heap.size v9 (List.replicate (k+1) (-1)):=by
       unfold BM;rw[List.replicate_succ']
       simpa using hown9
      have kw:AR (wS.alloc (.cells #[.int .i64 (-1)] 2)) w2.heap.size D _ nv' rv bs N AA _:=HH.out.keep kE.out;obtain⟨H9,c9,f9⟩:=kw.Up (by simp only[uz.out];exact hgrow9) (by simp only[uz.out];rcases hblk9 with e|e;exact .inl e;exact .inr (.inl (by rw[AD];exact e))) ho9;have K9:AC w2 w9:=(K8.trans kE.out).grown hgrow9 (fun q hq=>(World.ownsRow.lt HF q hq).1);have K10:AC w2 (w9.setCell ⟨D,6,none⟩ v9):=K9.grown (Ae w9 D 6 v9) (fun q hq=>by have:=Option.some.inj hq;omega);obtain⟨a9,c9',e9,-⟩:=ho9.rd;rw[List.length_replicate] at e9;have HH9:=Lib.hid H9;have HK9:=Lib.hid K10;clear hown9 hgrow9 hblk9 HF ho9 f6 d6 HH kE kw K9 K10 H9;subst e9;go_wp2;go_roundw;case rel=>exact⟨k+1,_,by omega,by go_num,HH9.out,HK9.out⟩
      case measure=>simp[intOf];omega
     ·
      obtain rfl:k=rs.length:=by omega
      have Ur:=(Below.block kr w.heap.size (by omega)).trans hR2;have pX:Hid (Cd AA={ bM AA.length with AG:=List.replicate AA.length [],sn:=List.replicate rs.length (-1),fr:=List.replicate rs.length (-1) }):=Lib.hid (by unfold Cd bM;rw[hes,HRS.out]);have Hn:AR wr w2.heap.size D bv' nv' rv bs N AA (Cd AA):=by rw[pX.out];exact Hr
      have hM:w2.heap.size<=bs:=hbs;clear Hr pX hk;generalize hNM:Cd AA=nb at *;have pX:=Lib.hid hNM;clear hNM;have Gs:=Hn.JK;obtain⟨aW,aP,aL,aN,aX,aT,aF,aR,cW,cP,cL,cN',cX,cT,cF,cR,rfl⟩:=Hn.rd.shapes;simp only[BV.arr] at Gs;have HK:=Lib.hid (K2.trans kr);have HG:=Lib.hid (Af wr w.heap.size #[.slice aW AA.length cW,.slice aP nb.AM.length cP,.slice aL nb.AO.length cL,.slice aN nb.AG.length cN',.slice aX nb.AL.length cX,.slice aT nb.sn.length cT,.slice aF nb.fr.length cF,.slice aR nb.rws.length cR]);have HZ:=Lib.hid (setRow_heap wr w.heap.size _ #[.slice aW AA.length cW,.slice aP nb.AM.length cP,.slice aL nb.AO.length cL,.slice aN nb.AG.length cN',.slice aX nb.AL.length cX,.slice aT nb.sn.length cT,.slice aF nb.fr.length cF,.slice aR nb.rws.length cR] _ _ Ur);have Tg:∀q,some w.heap.size=some q->q<w2.heap.size/\(q<bs\/N<=q):=fun q hq=>by have:=Option.some.inj hq;omega
      have HO:=Lib.hid (((Hn.far HG.out Tg).val).Az (show w.heap.size<=w2.heap.size by omega));go_wp2_with (first|refine wpList_load_row rfl 36 _ rfl D rfl 36 _ (0,0) _ Gs Tryz.underlying36 rfl AK ?_|refine wpList_store_row rfl 36 _ _ rfl w.heap.size _ rfl rfl 36 _ Ur AK rfl (by simp[Value.oneCell']) ?_)
      refine bodyPost_ret (BU (by rfl) _ _ w.heap.size _ _ (0,0) _ rfl HZ.out Tryz.underlying36 rfl AK) rfl ?_;exact⟨⟨.slice aW AA.length cW,.slice aP nb.AM.length cP,.slice aL nb.AO.length cL,.slice aN nb.AG.length cN',.slice aX nb.AL.length cX,.slice aT nb.sn.length cT,.slice aF nb.fr.length cF,.slice aR nb.rws.length cR⟩,nv',rv,bs,N,rfl,by rw[pX.out];exact HO.out,by omega,HK.out.grown HG.out (fun q hq=>by have:=Option.some.inj hq;omega)⟩
theorem QJ (w:World)(v:BV)(AA:List (List Dd))(b:Bd)(h:CV w v AA b)(hd:AA.length<=1048576)(hx:AA.length<=b.AL.length)(hn:AA.length<=b.AG.length):
  Calls Tryz.prog 78 #[v.agg] w fun e w'=>e = .returned (.bool (Mn AA b))/\AC w w':=by
 obtain⟨aW,aP,aL,aN,aX,aS,aF,aR,cW,cP,cL,cN,cX,cS,cF,cR,rfl⟩:=h.shapes;have KW:AC w (w.alloc (.cells #[.slice aW AA.length cW,.slice aP b.AM.length cP,.slice aL b.AO.length cL,.slice aN b.AG.length cN,.slice aX b.AL.length cX,.slice aS b.sn.length cS,.slice aF b.fr.length cF,.slice aR b.rws.length cR] 36)):=(AC.refl w).alloc _;have c0:(w.alloc (.cells #[.slice aW AA.length cW,.slice aP b.AM.length cP,.slice aL b.AO.length cL,.slice aN b.AG.length cN,.slice aX b.AL.length cX,.slice aS b.sn.length cS,.slice aF b.fr.length cF,.slice aR b.rws.length cR] 36)).cell? ⟨w.heap.size,0,none⟩=some (.slice aW AA.length cW):=AU (AC.refl _) 0;have c3:(w.alloc (.cells #[.slice aW AA.length cW,.slice aP b.AM.length cP,.slice aL b.AO.length cL,.slice aN b.AG.length cN,.slice aX b.AL.length cX,.slice aS b.sn.length cS,.slice aF b.fr.length cF,.slice aR b.rws.length cR] 36)).cell? ⟨w.heap.size,3,none⟩=some (.slice aN b.AG.length cN):=AU (AC.refl _) 3;have c4:(w.alloc (.cells #[.slice aW AA.length cW,.slice aP b.AM.length cP,.slice aL b.AO.length cL,.slice aN b.AG.length cN,.slice aX b.AL.length cX,.slice aS b.sn.length cS,.slice aF b.fr.length cF,.slice aR b.rws.length cR] 36)).cell? ⟨w.heap.size,4,none⟩=some (.slice aX b.AL.length cX):=AU (AC.refl _) 4;have h':=h.keep KW;have z1:w.heap.size<(w.alloc (.cells #[.slice aW AA.length cW,.slice aP b.AM.length cP,.slice aL b.AO.length cL,.slice aN b.AG.length cN,.slice aX b.AL.length cX,.slice aS b.sn.length cS,.slice aF b.fr.length cF,.slice aR b.rws.length cR] 36)).heap.size:=by rw[AD];omega
 go_enter Tryz.func78,Tryz.ntmps78
 go_wp2;generalize w.alloc (.cells #[.slice aW AA.length cW,.slice aP b.AM.length cP,.slice aL b.AO.length cL,.slice aN b.AG.length cN,.slice aX b.AL.length cX,.slice aS b.sn.length cS,.slice aF b.fr.length cF,.slice aR b.rws.length cR] 36)=w1 at *;have HH:=Lib.hid h';clear h h';go_loopw [3] (fun i wr=>∃k:Nat,k<=AA.length/\i = .int .i64 k/\Hid (∀j,j<k->(decide (((AA.getD j []).length:Int)<=b.AL.getD j 0)&&(b.AG.getD j []).isEmpty)=true)/\AC w1 wr) (fun i _=>AA.length-(intOf i).toNat)
 case atStart=>exact⟨0,Nat.zero_le _,rfl,Lib.hid (fun j hj=>absurd hj (Nat.not_lt_zero _)),AC.refl _⟩
 case round=>
  obtain⟨k,hk,rfl,hno,hK⟩:=hrel;have e0:=(hK.cell z1).trans c0;have e3:=(hK.cell z1).trans c3;have e4:=(hK.cell z1).trans c4;by_cases hlt:k<AA.length
  ·
   have lX:k<b.AL.length:=by omega
   have lN:k<b.AG.length:=by omega
   obtain⟨a',c',he',hX⟩:=HH.out.X.keep hK;simp only[Value.slice.injEq,true_and] at he';obtain⟨rfl,rfl⟩:=he';rcases hX with h0|⟨bx,ox,rfl,hbx,hcx⟩
   . exfalso;rw[h0] at lX;simp at lX
   obtain⟨a',c',he',hW⟩:=HH.out.W.keep hK;simp only[Value.slice.injEq,true_and] at he';obtain⟨rfl,rfl⟩:=he';rcases hW with h0|⟨bw,ow,rfl,hbw,hcw⟩
   . exfalso;rw[h0] at hlt;simp at hlt
   obtain⟨a',c',he',hN⟩:=HH.out.N.keep hK;simp only[Value.slice.injEq,true_and] at he';obtain⟨rfl,rfl⟩:=he';rcases hN with h0|⟨bn,on,rfl,hbn,hcn⟩
   . exfalso;rw[h0] at lN;simp at lN
   have d1:=hcx k lX;obtain⟨vw,d2,r2⟩:=hcw k hlt;obtain⟨vn,d3,r3⟩:=hcn k lN;have HF:(decide (((AA.getD k []).length:Int)<=b.AL.getD k 0)&&(b.AG.getD k []).isEmpty)=false->Hid (Mn AA b=false):=fun e=>Lib.hid (Cv hlt e)
   have HT:(decide (((AA.getD k []).length:Int)<=b.AL.getD k 0)&&(b.AG.getD k []).isEmpty)=true->Hid (∀j,j<k+1->(decide (((AA.getD j []).length:Int)<=b.AL.getD j 0)&&(b.AG.getD j []).isEmpty)=true):=fun e=>Lib.hid (fun j hj=>by
    by_cases e':j=k
    . rw[e'];exact e
    . exact hno.out j (by omega))
   obtain⟨aw,cw,rfl,-⟩:=r2;obtain⟨an,cn,rfl,-⟩:=r3;generalize b.AL.getD k 0=x at d1 HF HT;generalize (AA.getD k []).length=wl at d2 HF HT;generalize b.AG.getD k []=ns at d3 HF HT;have j1:(0:Int)<=(k:Int):=Int.natCast_nonneg _;have j2:(k:Int)<(AA.length:Int):=by omega
   have j3:(k:Int)<(b.AL.length:Int):=by omega
   have j4:(k:Int)<(b.AG.length:Int):=by omega
   clear hcx hcw hcn hno;by_cases t1:x<(wl:Int)
   ·
    have HE:=HF (by rw[decide_eq_false (by omega)];rfl);clear HF HT;go_wp2;go_quiet (fail)
    go_wp2;go_ret;exact⟨by rw[HE.out];rfl,(KW.trans hK).drewN _⟩
   have t1':decide (x<(wl:Int))=false:=decide_eq_false t1;by_cases t2:0<ns.length
   ·
    have HE:=HF (by
     have:ns.isEmpty=false:=by cases ns with|nil=>simp at t2|cons _ _=>rfl
     rw[this];simp)
    have t2':decide (0<ns.length)=true:=decide_eq_true t2;clear HF HT t1;go_wp2;go_quiet (fail)
    go_wp2;go_ret;exact⟨by rw[HE.out];rfl,(KW.trans hK).drewN _⟩
   ·
    have HE:=HT (by
     have:ns.isEmpty=true:=by cases ns with|nil=>rfl|cons _ _=>simp at t2
     rw[this,decide_eq_true (by omega)];rfl)
    have t2':decide (0<ns.length)=false:=decide_eq_false t2;clear HF HT t1 t2;go_wp2;go_quiet (fail)
    go_wp2;go_roundw;case rel=>exact⟨k+1,by omega,by go_num,HE,hK.drewN _⟩
    case measure=>simp[intOf];omega
  ·
   obtain rfl:k=AA.length:=by omega
   have HE:Hid (Mn AA b=true):=Lib.hid (C5 hno.out);go_wp2;go_ret;exact⟨by rw[HE.out];rfl,KW.trans hK⟩
theorem KO (w:World)(v:BV)(AA:List (List Dd))(b:Bd)(h:CV w v AA b)(hp:0<b.AM.length)(hp2:b.AM.length<=1048576)(hs:b.sn.length<=1048576):
  Calls Tryz.prog 54 #[v.agg] w fun e w'=>∃v',e = .returned v'/\BM w' w.heap.size v' (b.sn++b.AM)/\AC w w':=by
 obtain⟨i0,hi,hz0,hz1,hz2⟩:=info_parts Tryz.GU;obtain⟨aW,aP,aL,aN,aX,aS,aF,aR,cW,cP,cL,cN,cX,cS,cF,cR,rfl⟩:=h.shapes;have KW:AC w ((w.alloc (.cells #[.slice aW AA.length cW,.slice aP b.AM.length cP,.slice aL b.AO.length cL,.slice aN b.AG.length cN,.slice aX b.AL.length cX,.slice aS b.sn.length cS,.slice aF b.fr.length cF,.slice aR b.rws.length cR] 36)).drew):=((AC.refl w).alloc _).drew;have c1:((w.alloc (.cells #[.slice aW AA.length cW,.slice aP b.AM.length cP,.slice aL b.AO.length cL,.slice aN b.AG.length cN,.slice aX b.AL.length cX,.slice aS b.sn.length cS,.slice aF b.fr.length cF,.slice aR b.rws.length cR] 36)).drew).cell? ⟨w.heap.size,1,none⟩=some (.slice aP b.AM.length cP):=AU (AC.refl _) 1;have c5:((w.alloc (.cells #[.slice aW AA.length cW,.slice aP b.AM.length cP,.slice aL b.AO.length cL,.slice aN b.AG.length cN,.slice aX b.AL.length cX,.slice aS b.sn.length cS,.slice aF b.fr.length cF,.slice aR b.rws.length cR] 36)).drew).cell? ⟨w.heap.size,5,none⟩=some (.slice aS b.sn.length cS):=AU (AC.refl _) 5;have z1:w.heap.size<((w.alloc (.cells #[.slice aW AA.length cW,.slice aP b.AM.length cP,.slice aL b.AO.length cL,.slice aN b.AG.length cN,.slice aX b.AL.length cX,.slice aS b.sn.length cS,.slice aF b.fr.length cF,.slice aR b.rws.length cR] 36)).drew).heap.size:=by rw[A7,AD];omega
 have HS:=Lib.hid h.S;have HP:=Lib.hid h.P;obtain⟨a',c',he',hP⟩:=h.P;simp only[Value.slice.injEq,true_and] at he';obtain⟨rfl,rfl⟩:=he';rcases hP with h0|⟨bp,op,rfl,hbp,hcp⟩
 . exfalso;rw[h0] at hp;simp at hp
 clear h;go_enter Tryz.func54,Tryz.ntmps54
 go_wp2
 go_region_law ((first
  | (refine DF rfl (.tmp 5) (.tmp 7) 28 rfl w.heap.size 2 i0 (.int .i64 0) 1 8 Tryz.underlying28 hi hz0 hz1 hz2 rfl (by decide) _ b.sn.length (b.sn.map (Value.int .i64)) rfl (O1.Az (Nat.le_trans KW.size (Nat.le_refl _))) ⟨bp,op,none⟩ b.AM.length cP (b.AM.map (Value.int .i64)) rfl (by simp) (Sb (fun i hi=>(K1.cell hbp).trans (hcp i hi))) (by intro u hu;simp at hu;obtain⟨x,_,rfl⟩:=hu;rfl) (by unfold maxLen;omega) (by omega) (Nat.le_trans KW.size k1.size) ?_;intro v' w2 hown' hgrow _;have O2:BM w2 w.heap.size v' (b.sn++b.AM):=(by unfold BM;rw[List.length_append,List.map_append];exact hown');have K2:AC w w2:=K1.grown hgrow (fun k hk=>Nat.le_trans KW.size (O1.ge k hk));clear hown' hgrow)
  | (go_simp;refine (DI _ _ b.sn (HS.out.keep KW) hs).mono ?_;rintro e w1 ⟨v1,rfl,O1,k1⟩;have K1:=KW.trans k1;have c1':=(k1.cell z1).trans c1;obtain⟨g1,m1,hv1,-⟩:=id O1.rd;subst hv1)))
 all_goals
  go_wp2;go_ret;exact⟨_,rfl,O2,K2⟩
theorem RB.Xr {AA:List (List Dd)}{b:Bd}{n m:Nat}(h:RB AA b (fun _=>n) m)(k:Nat)(h1:n<=k)(h2:m<=k):Di AA b k:=
 ⟨h.work,h.AM,h.AO,h.rws,h.AG,h.AL,h.sn,h.fr,fun p=>Nat.le_trans (h.rl p).1 h2,fun c=>Nat.le_trans (h.nl c).1 h1⟩
theorem QM (w:World)(m D:Nat)(v:BV)(nv rv:List Value)(bs N:Nat)(AA:List (List Dd))(b:Bd)(c:Nat)(h:AR w m D v nv rv bs N AA b)(hb:AW AA b=true)(hc:c<AA.length)(hcan:Bh AA b c=true):
  Calls Tryz.prog 79 #[.pointer (some ⟨D,0,none⟩),.int .i64 (c:Int)] w fun e w'=>e = .returned (.tuple #[])/\∃nv' rv',AR w' m D v nv' rv' bs N AA (Bf AA (AB AA) b c)/\Ak w w' (Bp D v nv rv) (Bp D v nv' rv'):=by
 have S0:=Di.of hb;have R0:RB AA b (fun _=>20) 20:=RB.of hb S0.nl S0.rl;have h3:AA.length<=3:=(Ay R0.work).1;have R1:=R0.stepped hc hcan (by omega)
 have hs:Gv (Ad AA b) (c:Int)=true:=by
  rw[Gv,List.any_eq_true];exact⟨(c:Int),List.mem_append.2 (.inl (List.mem_map.2 ⟨c,List.mem_filter.2 ⟨List.mem_range.2 hc,hcan⟩,rfl⟩)),by simp⟩
 have HQ:Hid (Bf AA (AB AA) b c=if ((Am AA (AB AA) b (c:Int)).AG.getD c []).isEmpty=true then Am AA (AB AA) b (c:Int) else Am AA (AB AA) (Am AA (AB AA) b (c:Int)) (10+(c:Int))):=Lib.hid rfl;have C:=II w m D v nv rv bs N AA b (c:Int) h hb hs;generalize Bf AA (AB AA) b c=QB at HQ ⊢;generalize Am AA (AB AA) b (c:Int)=SB at *;clear h hs hcan hb S0 R0;obtain⟨vW,vP,vL,vN,vX,vS,vF,vR⟩:=v;go_enter Tryz.func79,Tryz.ntmps79
 go_wp2_with fail
 refine C.mono ?_;rintro e w1 ⟨rfl,nv1,rv1,H1,T1⟩;clear C;have hcn':c<SB.AG.length:=by rw[R1.AG];exact hc
 have r1:=H1.rd;have c3:=H1.cells.2.2.2.1;obtain⟨a',c',eN,hN⟩:=r1.N;simp only at eN c3;subst eN;rcases hN with h0|⟨bn,on,rfl,hbn,hcn⟩
 . exfalso;rw[h0] at hcn';simp at hcn'
 obtain⟨vn,d3,r3⟩:=hcn c hcn';obtain⟨an,cn,rfl,r3⟩:=r3;have i1:IntKind.i64.wrap (10+(c:Int))=10+(c:Int):=by rw[IntKind.wrap_i64];omega
 have i2:(0:Int)<=(c:Int):=Int.natCast_nonneg _;have i3:(c:Int)<(SB.AG.length:Int):=by omega
 clear hcn r1 r3
 cases hz:SB.AG.getD c [] with
 |nil=>
  rw[hz] at d3;have HE:Hid (QB=SB):=Lib.hid (by rw[HQ.out,hz];rfl);clear HQ hz R1;go_wp2;go_end0;exact⟨rfl,nv1,rv1,by rw[HE.out];exact H1,T1⟩
 |cons x r=>
  have hx:=((R1.nl c).2 x (by rw[hz];simp)).1
  have HE:Hid (QB=BT SB c):=Lib.hid (by
   rw[HQ.out,hz];simp only[List.isEmpty_cons,Bool.false_eq_true,if_false];unfold Am;rw[if_pos (by omega)];have:(10+(c:Int)-10).toNat=c:=by omega
   rw[this])
  have CF:=JL w1 m D _ nv1 rv1 bs N AA SB 30 c x r H1 (R1.Xr 30 (by omega) (by omega)) (by omega) hc hz hx;rw[hz] at d3;have hl:decide ((0:Int)<(((x::r).length:Nat):Int))=true:=by simp
  have hL:0<(x::r).length:=by simp
  generalize (x::r).length=L at *;clear HQ hz R1;go_wp2_with fail
  refine CF.mono ?_;rintro e w2 ⟨rfl,nv2,rv2,H2,T2⟩;go_wp2;go_end0;exact⟨rfl,nv2,rv2,by rw[HE.out];exact H2,T1.trans T2⟩
theorem Tryz.mF:(Tryz.prog.info? 36).map (fun i=>(i.zero,i.size,i.bytes))=some (some (.agg #[AE,AE,AE,AE,AE,AE,AE,AE]),8,192):=by kernel_rfl
theorem Lv (w:World)(v:Value)(AA:List (List Dd))(quick:Bool)(h:JJ w v AA)(hb:AQ AA=true):
  Calls Tryz.prog 39 #[v,.bool quick] w fun e w'=>∃v' l,e = .returned v'/\GK w.heap.size w' v' l/\Dg AA quick l/\l.length<=1099511627776/\AC w w':=by
 have C0:=M5 (two w) v AA (h.keep (((AC.refl w).alloc _).alloc _)) hb;obtain⟨j0,hj,hy0,hy1,hy2⟩:=info_parts Tryz.mF;clear h;go_enter Tryz.func39,Tryz.ntmps39
 go_wp2_with fail
 refine C0.mono ?_;rintro e w1 ⟨bv,nv,rv,bs,N,rfl,V1,hm1,k1⟩;obtain⟨aW,aP,aL,aN,aX,aS,aF,aR,cW,cP,cL,cN,cX,cS,cF,cR,rfl⟩:=V1.rd0.shapes;have I0:=lC k1 V1 hm1;have G0:=nM hb quick;clear C0 V1 hm1 k1;go_wp2_with fail
 go_loopg [5,6,7,8,9,10,11,12] (Jp AA [Cd AA]) (fun k s5 s6 s7 _ _ _ _ _ wr=>∃(E Sn:List (List Int)) (O:List Bd) (ve vs vo:Value) (he hs:List Value) (ho:List BV) (P:Nat->Prop),ve=s5/\vs=s6/\vo=s7/\Jp AA O=k/\EI w wr P AA E Sn O ve vs vo he hs ho/\SG AA quick E Sn O)
 case atStart=>
  exact⟨[],[],[Cd AA],_,_,_,_,_,_,_,by rfl,by rfl,by rfl,rfl,I0,G0⟩
 case round=>
  obtain⟨E,Sn,O,ve,vs,vo,he,hs,ho,P,rfl,rfl,rfl,hk,I1,G1⟩:=hrel;clear I0 G0;rcases O.eq_nil_or_concat with rfl|⟨l,b,rfl⟩
  ·
   obtain⟨a0,c0,rfl⟩:=I1.o.shape;have HE:=Lib.hid (Sg hb G1.si rfl);have HL:=Lib.hid (G1.lens hb).1;have RE:=I1.e.wE;have RH:=Lib.hid (I1.e.rM I1.low);have KK:=I1.K;obtain⟨ae,ce,rfl,-⟩:=id RE;clear G1 I1;go_wp2;go_ret;exact⟨_,rfl,E,RH.out,HE.out,HL.out,KK⟩
  ·
   rw[List.concat_eq_append] at hk I1 G1;obtain⟨g,cap,bz,rfl,hcap,H1,I2,hg,hcells⟩:=I1.pop;have hO:=(G1.lens hb).2.2;rw[List.length_append,List.length_singleton] at hO;have HR:=Ki hb G1.reach;have HRR:=Lib.hid G1.reach;have HG:=Lib.hid G1;have HK:=Lib.hid hk;obtain⟨bW,bP,bL,bN,bX,bS,bF,bR,dW,dP,dL,dN,dX,dS,dF,dR,rfl⟩:=H1.rd.shapes;have x0:=hcells 0 (by omega);have x1:=hcells 1 (by omega);have x2:=hcells 2 (by omega);have x3:=hcells 3 (by omega);have x4:=hcells 4 (by omega);have x5:=hcells 5 (by omega);have x6:=hcells 6 (by omega);have x7:=hcells 7 (by omega);simp only[cB,List.getElem?_cons_zero,List.getElem?_cons_succ,Nat.add_zero] at x0 x1 x2 x3 x4 x5 x6 x7;have i1:(0:Int)<=(l.length:Int):=Int.natCast_nonneg _;have i2:(l.length:Int)<(l.length:Int)+1:=by omega
   have i3:(l.length:Int)<=(cap:Int):=by omega
   clear hcells I1 G1 hk;go_upto_region 6 with fail
   obtain⟨w2,hw2⟩:∃W:World,W=wr.alloc (.cells #[.slice bW AA.length dW,.slice bP b.AM.length dP,.slice bL b.AO.length dL,.slice bN b.AG.length dN,.slice bX b.AL.length dX,.slice bS b.sn.length dS,.slice bF b.fr.length dF,.slice bR b.rws.length dR] 36):=⟨_,rfl⟩;have kb:AC wr w2:=by rw[hw2];exact (AC.refl wr).alloc _
   have hD:w2.heap[wr.heap.size]? = some (.cells #[.slice bW AA.length dW,.slice bP b.AM.length dP,.slice bL b.AO.length dL,.slice bN b.AG.length dN,.slice bX b.AL.length dX,.slice bS b.sn.length dS,.slice bF b.fr.length dF,.slice bR b.rws.length dR] 36 (0,0)):=by rw[hw2];exact heap_alloc_new _ _
   have s2:wr.heap.size<w2.heap.size:=by rw[hw2,AD];omega
   rw[<-hw2];clear hw2 x0 x1 x2 x3 x4 x5 x6 x7;have CK:=Tm w2 _ AA b (H1.on (Au.Bq kb)).rd HR.x HR.l HR.s HR.n HR.q;have Xb:=Lib.hid HR;clear HR;go_wp2_with (first|refine wpList_load_row rfl 36 _ rfl (wr.heap.size) rfl 36 _ (0,0) _ hD Tryz.underlying36 rfl AK ?_|fail)
   refine CK.mono ?_;rintro e w3 ⟨vk,rfl,OK,k3⟩;have k13:=kb.trans k3;have I4:=I2.wide k13;have pk:∀g,vk.ownBlock=some g->P g\/(wr.heap.size<=g/\g<w3.heap.size):=fun g hg => .inr ⟨Nat.le_trans (Nat.le_of_lt s2) (OK.ge g hg),(World.ownsRow.lt OK g hg).2⟩
   have CP:=M8 w3 _ w.heap.size vs vk hs Sn (Cm b) I4.s (fun g hg=>(I4.low g hg).2) OK.rd pk HG.out.si.os (HG.out.lens hb).2.1 (HG.out.tQ hb) I4.K.size;have O4:=Lib.hid (show Jq w3 (fun g=>P g\/(wr.heap.size<=g/\g<w3.heap.size)) wr.heap.size ⟨.slice bW AA.length dW,.slice bP b.AM.length dP,.slice bL b.AO.length dL,.slice bN b.AG.length dN,.slice bX b.AL.length dX,.slice bS b.sn.length dS,.slice bF b.fr.length dF,.slice bR b.rws.length dR⟩ AA b (.slice none 0 0) [] from ⟨(Below.block k3 _ s2).trans hD,.inr ⟨Nat.le_refl _,by have:=k3.size;omega⟩,(H1.on (Au.Bq k13)).mono (fun _ => .inl),⟨none,0,rfl,.inl rfl⟩,by simp[Value.ownBlock]⟩);obtain⟨P4,hP4⟩:∃P4:Nat->Prop,P4=fun g=>P g\/(wr.heap.size<=g/\g<w3.heap.size):=⟨_,rfl⟩
   rw[<-hP4] at I4 CP O4;obtain⟨D,hDe⟩:∃D,D=wr.heap.size:=⟨_,rfl⟩;rw[<-hDe] at O4 ⊢;have k1w:=I2.K;clear CK OK pk k13 hD kb k3 I2 H1 hP4 hDe s2;go_wp2_with fail
   refine CP.mono ?_;rintro e w5 ⟨v',hs',rfl,o5,g5,b5⟩;obtain⟨I5,S5⟩:=I4.iU o5 g5 b5;have O5:=Lib.hid (O4.out.on S5);clear CP o5 g5 b5 I4 O4 S5;obtain⟨q,hq⟩:∃q,q=QG Sn (Cm b):=⟨_,rfl⟩;rw[<-hq];cases q
   ·
    have hs0:=hq.symm;have d5:=O5.out.box;have CE:=QJ w5 _ AA b O5.out.held.rd (by have:=Xb.out.d;omega) Xb.out.dx Xb.out.dn;rw[Rm Xb.out.ok] at CE;have HS0:=Lib.hid hs0;clear hq hs0;go_wp2_with (first|refine wpList_load_row rfl 36 _ rfl (D) rfl 36 _ (0,0) _ d5 Tryz.underlying36 rfl AK ?_|fail)
    refine CE.mono ?_;rintro e w6 ⟨rfl,k6⟩;have I6:=I5.keep k6;have O6:=Lib.hid (O5.out.on (Au.Bq k6));have d6:=O6.out.box;clear CE I5 O5 d5 k6;obtain⟨q,hq⟩:∃q,q=Co AA b:=⟨_,rfl⟩;rw[<-hq];cases q
    ·
     have HE0:=Lib.hid hq.symm;clear hq;have CO:=Ei w6 _ AA b O6.out.held.rd (VH Xb.out.ok);go_wp2_with (first|refine wpList_load_row rfl 36 _ rfl (D) rfl 36 _ (0,0) _ d6 Tryz.underlying36 rfl AK ?_|fail)
     refine CO.mono ?_;rintro e w7 ⟨vp,rfl,OP,k7⟩;have I7:=I6.wide k7
     have O7:=Lib.hid (show Jq w7 (fun g=>P4 g\/(w6.heap.size<=g/\g<w7.heap.size)) D ⟨.slice bW AA.length dW,.slice bP b.AM.length dP,.slice bL b.AO.length dL,.slice bN b.AG.length dN,.slice bX b.AL.length dX,.slice bS b.sn.length dS,.slice bF b.fr.length dF,.slice bR b.rws.length dR⟩ AA b vp (Ad AA b) from by
      have q:=(O6.out.on (Au.Bq k7)).mono (P':=fun g=>P4 g\/(w6.heap.size<=g/\g<w7.heap.size)) (fun _ => .inl)
      exact⟨q.box,q.pD,q.held,OP.rd,fun g hg => .inr ⟨OP.ge g hg,(World.ownsRow.lt OP g hg).2⟩⟩)
     obtain⟨P7,hP7⟩:∃P7:Nat->Prop,P7=fun g=>P4 g\/(w6.heap.size<=g/\g<w7.heap.size):=⟨_,rfl⟩
     rw[<-hP7] at I7 O7;obtain⟨ap,cp,rfl,-⟩:=id O7.out.rp;have hp6:=Wm hb b;clear CO OP k7 I6 O6 d6 hP7;obtain⟨wo,rfl⟩:∃wo:World,wo=wr:=⟨_,rfl⟩;go_wp2;go_loopw [7,11,12] (fun s7 s11 _ wq=>∃(i:Nat) (vo:Value) (ho:List BV) (P:Nat->Prop),vo=s7/\i<=(Ad AA b).length/\s11 = .int .i64 (i:Int)/\EI w wq P AA E (EL Sn (Cm b)) (l++DC AA (AB AA) quick b i) ve v' vo he hs' ho/\Jq wq P D ⟨.slice bW AA.length dW,.slice bP b.AM.length dP,.slice bL b.AO.length dL,.slice bN b.AG.length dN,.slice bX b.AL.length dX,.slice bS b.sn.length dS,.slice bF b.fr.length dF,.slice bR b.rws.length dR⟩ AA b (.slice ap (Ad AA b).length cp) (Ad AA b)) (fun _ s11 _ _=>(Ad AA b).length-(intOf s11).toNat)
     case atStart=>
      exact⟨0,_,_,P7,rfl,Nat.zero_le _,rfl,by simpa [DC] using I7,O7.out⟩
     case round=>
      obtain⟨i,vo,ho,Pq,rfl,hi,rfl,Iq,Oq⟩:=hrel;clear I7 O7;by_cases hlt:i<(Ad AA b).length
      ·
       have hmem:(Ad AA b).getD i 0∈Ad AA b:=by rw[List.getD_eq_getElem?_getD,List.getElem?_eq_getElem hlt];exact List.getElem_mem hlt
       obtain⟨a',c',e',hp⟩:=id Oq.rp;simp only[Value.slice.injEq,true_and] at e';obtain⟨rfl,rfl⟩:=e';rcases hp with h0|⟨bp,op,rfl,hbp,hcp⟩
       . exfalso;rw[h0] at hlt;simp at hlt
       have d1:=hcp i hlt;clear hcp;obtain⟨x,hx⟩:∃x,x=(Ad AA b).getD i 0:=⟨_,rfl⟩;rw[<-hx] at d1 hmem;have HX:=Lib.hid hx;clear hx;have j1:(0:Int)<=(i:Int):=Int.natCast_nonneg _;have j2:(i:Int)<((Ad AA b).length:Int):=by omega
       cases quick
       ·
        have pu:=Lib.hid (show DC AA (AB AA) false b (i+1)=DC AA (AB AA) false b i++[Am AA (AB AA) b x] from by rw[IL _ _ _ _ hlt,HX.out];rfl);have HMB:=Lib.hid (Ij hmem);clear hmem;have CC:=IE wr _ AA b Oq.held.rd Xb.out.ok;have dq:=Oq.box;go_wp2_with (first|refine wpList_load_row rfl 36 _ rfl (D) rfl 36 _ (0,0) _ dq Tryz.underlying36 rfl AK ?_|fail)
        refine CC.mono ?_;rintro e w8 ⟨bv',nv,rv,bs',N',rfl,V8,hm8,k8⟩;obtain⟨xW,xP,xL,xN,xX,xS,xF,xR,yW,yP,yL,yN,yX,yS,yF,yR,rfl⟩:=V8.rd0.shapes;have s8:=k8.size;go_upto_region 18 with fail
        have B9:=V8.box s8;have k9:AC wr (w8.alloc (.cells #[.slice xW AA.length yW,.slice xP b.AM.length yP,.slice xL b.AO.length yL,.slice xN b.AG.length yN,.slice xX b.AL.length yX,.slice xS b.sn.length yS,.slice xF b.fr.length yF,.slice xR b.rws.length yR] 36)):=k8.trans ((AC.refl w8).alloc _);obtain⟨w9,hw9⟩:∃W:World,W=w8.alloc (.cells #[.slice xW AA.length yW,.slice xP b.AM.length yP,.slice xL b.AO.length yL,.slice xN b.AG.length yN,.slice xX b.AL.length yX,.slice xS b.sn.length yS,.slice xF b.fr.length yF,.slice xR b.rws.length yR] 36):=⟨_,rfl⟩;rw[<-hw9] at B9 k9 ⊢;have g1:=(k9.cell hbp).trans d1;have z9:wr.heap.size<=w9.heap.size:=k9.size;have z8:w8.heap.size<w9.heap.size:=by rw[hw9,AD];omega
        clear CC dq V8 hw9 d1;have CS:=II w9 wr.heap.size w8.heap.size _ nv rv bs' N' AA b x B9 Xb.out.ok HMB.out;go_wp2_with fail
        refine CS.mono ?_;clear CS;rintro e w10 ⟨rfl,nv10,rv10,B10,T10⟩;have TL:=T10.low z9 (fun g hg=>(B9.blk g hg).1);have k10:AC wr w10:=Below.trans k9 TL;have I10:=Iq.wide k10;have O10:=Lib.hid ((Oq.on (Au.Bq k10)).mono (P':=fun g=>Pq g\/(wr.heap.size<=g/\g<w10.heap.size)) (fun _ => .inl));have HB:=Lib.hid ((B10.val.held hm8).mono (P':=fun g=>Pq g\/(wr.heap.size<=g/\g<w10.heap.size)) (fun g hg => .inr hg));have d10:=B10.JK;obtain⟨P10,hP10⟩:∃P10:Nat->Prop,P10=fun g=>Pq g\/(wr.heap.size<=g/\g<w10.heap.size):=⟨_,rfl⟩
        rw[<-hP10] at I10 O10 HB;clear Iq Oq B9 B10 T10 TL k10 k9 hP10 g1;have k11:AC w10 (w10.alloc (.cells #[.slice xW AA.length yW,.slice xP b.AM.length yP,.slice xL b.AO.length yL,.slice xN b.AG.length yN,.slice xX b.AL.length yX,.slice xS b.sn.length yS,.slice xF b.fr.length yF,.slice xR b.rws.length yR] 36)):=(AC.refl w10).alloc _;have hN:=heap_alloc_new w10 (.cells #[.slice xW AA.length yW,.slice xP b.AM.length yP,.slice xL b.AO.length yL,.slice xN b.AG.length yN,.slice xX b.AL.length yX,.slice xS b.sn.length yS,.slice xF b.fr.length yF,.slice xR b.rws.length yR] 36);obtain⟨w11,hw11⟩:∃W:World,W=w10.alloc (.cells #[.slice xW AA.length yW,.slice xP b.AM.length yP,.slice xL b.AO.length yL,.slice xN b.AG.length yN,.slice xX b.AL.length yX,.slice xS b.sn.length yS,.slice xF b.fr.length yF,.slice xR b.rws.length yR] 36):=⟨_,rfl⟩;have s11:w11.heap.size=w10.heap.size+1:=by rw[hw11,AD]
        rw[<-hw11] at k11 hN;have I11:=I10.keep k11;have hO11:=NN AA (AB AA) false b i;have hlen:(l++DC AA (AB AA) false b i).length<=131:=by rw[List.length_append];omega
        go_upto_region 21 with fail
        go_wp2_with (first|refine wpList_load_row rfl 36 _ rfl (w8.heap.size) rfl 36 _ (0,0) _ d10 Tryz.underlying36 rfl AK ?_|(at_builtin;rw[<-hw11];refine wpList_append_own_at _ rfl _ _ 87 rfl w.heap.size 36 j0 (.agg #[AE,AE,AE,AE,AE,AE,AE,AE]) 8 192 Tryz.underlying87 hj hy0 hy1 hy2 rfl (by decide) _ _ _ rfl I11.o.row ⟨w10.heap.size,0,none⟩ 1 1 [.slice xW AA.length yW,.slice xP b.AM.length yP,.slice xL b.AO.length yL,.slice xN b.AG.length yN,.slice xX b.AL.length yX,.slice xS b.sn.length yS,.slice xF b.fr.length yF,.slice xR b.rws.length yR] rfl rfl (World.news_of_block (cs:=#[.slice xW AA.length yW,.slice xP b.AM.length yP,.slice xL b.AO.length yL,.slice xN b.AG.length yN,.slice xX b.AL.length yX,.slice xS b.sn.length yS,.slice xF b.fr.length yF,.slice xR b.rws.length yR]) (t:=36) (fr:=(0,0)) hN) (by simp[Value.oneCell']) ?e3 ?e4 ?e5 ?_)|fail)
        case e3=>unfold maxLen;omega
        case e4=>omega
        case e5=>exact Nat.le_trans I11.K.size (Nat.le_refl _)
        intro v12 w12 hown12 hgrow12 _ hblk12;rw[<-hw11] at hgrow12;obtain⟨I12,S12⟩:=I11.push (HB.out.on (Au.Bq k11)) (by rw[List.length_append];exact hown12) hgrow12 (by rcases hblk12 with e|e;exact .inl e;exact .inr ⟨_,e,Nat.le_of_eq s11⟩);have O12:=Lib.hid ((O10.out.on (Au.Bq k11)).on S12);rw[List.append_assoc] at I12;clear hown12 hgrow12 hblk12 I11 I10 S12 O10 HB hN d10 k11 s11 hw11;go_wp2;go_roundw;case rel=>exact⟨i+1,_,_,P10,rfl,by omega,by go_num,by rw[pu.out];exact I12,O12.out⟩
        case measure=>simp[intOf];omega
       ·
        rcases Iy hmem (Ci hb) with ⟨c,ec,hc,hcan,hlt10⟩|⟨c,ec,hc,hne,hge10⟩
        ·
         have pu:=Lib.hid (show DC AA (AB AA) true b (i+1)=DC AA (AB AA) true b i++[Bf AA (AB AA) b c] from by rw[IL _ _ _ _ hlt,<-HX.out,decide_eq_false (by omega),ec];simp);have hb1:decide ((10:Int)<=x)=false:=decide_eq_false (by omega);have HC:=Lib.hid (And.intro hc hcan);clear hmem hlt10 hc hcan;subst ec;have CC:=IE wr _ AA b Oq.held.rd Xb.out.ok;have dq:=Oq.box;go_wp2_with (first|refine wpList_load_row rfl 36 _ rfl (D) rfl 36 _ (0,0) _ dq Tryz.underlying36 rfl AK ?_|fail)
         refine CC.mono ?_;rintro e w8 ⟨bv',nv,rv,bs',N',rfl,V8,hm8,k8⟩;obtain⟨xW,xP,xL,xN,xX,xS,xF,xR,yW,yP,yL,yN,yX,yS,yF,yR,rfl⟩:=V8.rd0.shapes;have s8:=k8.size;go_upto_region 18 with fail
         have B9:=V8.box s8;have k9:AC wr (w8.alloc (.cells #[.slice xW AA.length yW,.slice xP b.AM.length yP,.slice xL b.AO.length yL,.slice xN b.AG.length yN,.slice xX b.AL.length yX,.slice xS b.sn.length yS,.slice xF b.fr.length yF,.slice xR b.rws.length yR] 36)):=k8.trans ((AC.refl w8).alloc _);obtain⟨w9,hw9⟩:∃W:World,W=w8.alloc (.cells #[.slice xW AA.length yW,.slice xP b.AM.length yP,.slice xL b.AO.length yL,.slice xN b.AG.length yN,.slice xX b.AL.length yX,.slice xS b.sn.length yS,.slice xF b.fr.length yF,.slice xR b.rws.length yR] 36):=⟨_,rfl⟩;rw[<-hw9] at B9 k9 ⊢;have g1:=(k9.cell hbp).trans d1;have z9:wr.heap.size<=w9.heap.size:=k9.size;have z8:w8.heap.size<w9.heap.size:=by rw[hw9,AD];omega
         clear CC dq V8 hw9 d1;have CS:=QM w9 wr.heap.size w8.heap.size _ nv rv bs' N' AA b c B9 Xb.out.ok HC.out.1 HC.out.2;go_wp2_with fail
         refine CS.mono ?_;clear CS;rintro e w10 ⟨rfl,nv10,rv10,B10,T10⟩;have TL:=T10.low z9 (fun g hg=>(B9.blk g hg).1);have k10:AC wr w10:=Below.trans k9 TL;have I10:=Iq.wide k10;have O10:=Lib.hid ((Oq.on (Au.Bq k10)).mono (P':=fun g=>Pq g\/(wr.heap.size<=g/\g<w10.heap.size)) (fun _ => .inl));have HB:=Lib.hid ((B10.val.held hm8).mono (P':=fun g=>Pq g\/(wr.heap.size<=g/\g<w10.heap.size)) (fun g hg => .inr hg));have d10:=B10.JK;obtain⟨P10,hP10⟩:∃P10:Nat->Prop,P10=fun g=>Pq g\/(wr.heap.size<=g/\g<w10.heap.size):=⟨_,rfl⟩
         rw[<-hP10] at I10 O10 HB;clear Iq Oq B9 B10 T10 TL k10 k9 hP10 g1;have k11:AC w10 (w10.alloc (.cells #[.slice xW AA.length yW,.slice xP b.AM.length yP,.slice xL b.AO.length yL,.slice xN b.AG.length yN,.slice xX b.AL.length yX,.slice xS b.sn.length yS,.slice xF b.fr.length yF,.slice xR b.rws.length yR] 36)):=(AC.refl w10).alloc _;have hN:=heap_alloc_new w10 (.cells #[.slice xW AA.length yW,.slice xP b.AM.length yP,.slice xL b.AO.length yL,.slice xN b.AG.length yN,.slice xX b.AL.length yX,.slice xS b.sn.length yS,.slice xF b.fr.length yF,.slice xR b.rws.length yR] 36);obtain⟨w11,hw11⟩:∃W:World,W=w10.alloc (.cells #[.slice xW AA.length yW,.slice xP b.AM.length yP,.slice xL b.AO.length yL,.slice xN b.AG.length yN,.slice xX b.AL.length yX,.slice xS b.sn.length yS,.slice xF b.fr.length yF,.slice xR b.rws.length yR] 36):=⟨_,rfl⟩;have s11:w11.heap.size=w10.heap.size+1:=by rw[hw11,AD]
         rw[<-hw11] at k11 hN;have I11:=I10.keep k11;have hO11:=NN AA (AB AA) true b i;have hlen:(l++DC AA (AB AA) true b i).length<=131:=by rw[List.length_append];omega
         go_upto_region 21 with fail
         go_wp2_with (first|refine wpList_load_row rfl 36 _ rfl (w8.heap.size) rfl 36 _ (0,0) _ d10 Tryz.underlying36 rfl AK ?_|(at_builtin;rw[<-hw11];refine wpList_append_own_at _ rfl _ _ 87 rfl w.heap.size 36 j0 (.agg #[AE,AE,AE,AE,AE,AE,AE,AE]) 8 192 Tryz.underlying87 hj hy0 hy1 hy2 rfl (by decide) _ _ _ rfl I11.o.row ⟨w10.heap.size,0,none⟩ 1 1 [.slice xW AA.length yW,.slice xP b.AM.length yP,.slice xL b.AO.length yL,.slice xN b.AG.length yN,.slice xX b.AL.length yX,.slice xS b.sn.length yS,.slice xF b.fr.length yF,.slice xR b.rws.length yR] rfl rfl (World.news_of_block (cs:=#[.slice xW AA.length yW,.slice xP b.AM.length yP,.slice xL b.AO.length yL,.slice xN b.AG.length yN,.slice xX b.AL.length yX,.slice xS b.sn.length yS,.slice xF b.fr.length yF,.slice xR b.rws.length yR]) (t:=36) (fr:=(0,0)) hN) (by simp[Value.oneCell']) ?e3 ?e4 ?e5 ?_)|fail)
         case e3=>unfold maxLen;omega
         case e4=>omega
         case e5=>exact Nat.le_trans I11.K.size (Nat.le_refl _)
         intro v12 w12 hown12 hgrow12 _ hblk12;rw[<-hw11] at hgrow12;obtain⟨I12,S12⟩:=I11.push (HB.out.on (Au.Bq k11)) (by rw[List.length_append];exact hown12) hgrow12 (by rcases hblk12 with e|e;exact .inl e;exact .inr ⟨_,e,Nat.le_of_eq s11⟩);have O12:=Lib.hid ((O10.out.on (Au.Bq k11)).on S12);rw[List.append_assoc] at I12;clear hown12 hgrow12 hblk12 I11 I10 S12 O10 HB hN d10 k11 s11 hw11;go_wp2;go_roundw;case rel=>exact⟨i+1,_,_,P10,rfl,by omega,by go_num,by rw[pu.out];exact I12,O12.out⟩
         case measure=>simp[intOf];omega
        ·
         have pu:=Lib.hid (show DC AA (AB AA) true b (i+1)=DC AA (AB AA) true b i from by rw[IL _ _ _ _ hlt,<-HX.out,decide_eq_true hge10];simp);have hb1:decide ((10:Int)<=x)=true:=decide_eq_true hge10;have HOQ:=Lib.hid Oq;clear hmem hc hne Oq;go_wp2;go_roundw;case rel=>exact⟨i+1,_,_,Pq,rfl,by omega,by go_num,by rw[pu.out];exact Iq,HOQ.out⟩
         case measure=>simp[intOf];omega
      ·
       obtain rfl:i=(Ad AA b).length:=by omega
       rw[Tu] at Iq;have GO:=HG.out.on hb HS0.out HE0.out;clear Oq;go_wp2;go_roundg (Jp AA (l++BK AA (AB AA) quick b))
       case measure=>rw[<-HK.out];exact GO.2
       case rel=>exact⟨_,_,_,_,_,_,_,_,_,_,rfl,rfl,rfl,rfl,Iq,GO.1⟩
    ·
     have GO:=HG.out.end hb HS0.out hq.symm;have CW:=KO w6 _ AA b O6.out.held.rd (by have:=Xb.out.p;omega) (by have:=Xb.out.p;omega) (by have:=Xb.out.s;omega);clear hq;go_wp2_with (first|refine wpList_load_row rfl 36 _ rfl (D) rfl 36 _ (0,0) _ d6 Tryz.underlying36 rfl AK ?_|fail)
     refine CW.mono ?_;rintro e w7 ⟨vx,rfl,OX,k7⟩;have I7:=I6.wide k7;have px:∀g,vx.ownBlock=some g->P4 g\/(w6.heap.size<=g/\g<w7.heap.size):=fun g hg => .inr ⟨OX.ge g hg,(World.ownsRow.lt OX g hg).2⟩
     have CP:=M8 w7 _ w.heap.size ve vx he E (An b) I7.e (fun g hg=>(I7.low g hg).2) OX.rd px HG.out.si.oe (HG.out.lens hb).1 (fun i hi=>by have:=HG.out.yZ hb i hi;omega) I7.K.size;obtain⟨P7,hP7⟩:∃P7:Nat->Prop,P7=fun g=>P4 g\/(w6.heap.size<=g/\g<w7.heap.size):=⟨_,rfl⟩
     rw[<-hP7] at I7 CP;clear CW OX k7 px I6 O6 d6 hP7;go_wp2_with fail
     refine CP.mono ?_;rintro e w8 ⟨v8,he8,rfl,o8,g8,b8⟩;obtain⟨I8,-⟩:=I7.ze o8 g8 b8;clear CP o8 g8 b8 I7;go_wp2;go_roundg (Jp AA l)
     case measure=>rw[<-HK.out];exact GO.2
     case rel=>exact⟨_,_,l,_,_,_,_,_,_,_,rfl,rfl,rfl,rfl,I8,GO.1⟩
   ·
    have GO:=HG.out.old hb hq.symm;have e:EL Sn (Cm b)=Sn:=by unfold EL;rw[if_pos hq.symm]
    rw[e] at I5;clear O5 e hq;go_wp2;go_roundg (Jp AA l)
    case measure=>rw[<-HK.out];exact GO.2
    case rel=>exact⟨E,Sn,l,_,_,_,_,_,_,_,rfl,rfl,rfl,rfl,I5,GO.1⟩
theorem Qs (w:World)(v:Value)(AA:List (List Dd))(h:JJ w v AA)(hx:AA.length<=1048576)(hm:∀i,i<AA.length->(AA.getD i []).length<=1048576):
  Calls Tryz.prog 12 #[v] w fun e w'=>∃v' l,e = .returned v'/\GK w.heap.size w' v' l/\Df AA false l/\AC w w':=by
 have CW:=DE w v AA h hx hm;have HH:=Lib.hid h;obtain⟨av,cv,rfl,-⟩:=id h;clear h hm;go_enter Tryz.func12,Tryz.ntmps12
 go_wp2_with fail
 refine CW.mono ?_;rintro e w1 ⟨rfl,k1⟩;clear CW;cases hb:AQ AA
 ·
  have HB:=Lib.hid hb;clear hb;go_wp2;go_ret;exact⟨_,[],rfl,Oz _ _ _ _,⟨fun h=>(by rw[HB.out] at h;cases h),fun _=>rfl⟩,k1.alloc _⟩
 ·
  have HB:=Lib.hid hb;have CE:=Lv w1 _ AA false (HH.out.keep k1) hb;clear hb;go_wp2_with fail
  refine CE.mono ?_;rintro e w2 ⟨v2,l,rfl,r2,hi,-,k2⟩;have HI:=Lib.hid hi;clear hi CE;go_wp2;go_ret;exact⟨_,l,rfl,r2.low k1.size,⟨fun _=>HI.out,fun h=>(by rw[HB.out] at h;cases h)⟩,k1.trans k2⟩
theorem Fv (w:World)(v:Value)(AA:List (List Dd))(h:JJ w v AA)(hx:AA.length<=1048576)(hm:∀i,i<AA.length->(AA.getD i []).length<=1048576):
  Calls Tryz.prog 13 #[v] w fun e w'=>∃v' l,e = .returned v'/\GK w.heap.size w' v' l/\Df AA true l/\AC w w':=by
 have CW:=DE w v AA h hx hm;have HH:=Lib.hid h;obtain⟨av,cv,rfl,-⟩:=id h;clear h hm;go_enter Tryz.func13,Tryz.ntmps13
 go_wp2_with fail
 refine CW.mono ?_;rintro e w1 ⟨rfl,k1⟩;clear CW;cases hb:AQ AA
 ·
  have HB:=Lib.hid hb;clear hb;go_wp2;go_ret;exact⟨_,[],rfl,Oz _ _ _ _,⟨fun h=>(by rw[HB.out] at h;cases h),fun _=>rfl⟩,k1.alloc _⟩
 ·
  have HB:=Lib.hid hb;have CE:=Lv w1 _ AA true (HH.out.keep k1) hb;clear hb;go_wp2_with fail
  refine CE.mono ?_;rintro e w2 ⟨v2,l,rfl,r2,hi,-,k2⟩;have HI:=Lib.hid hi;clear hi CE;go_wp2;go_ret;exact⟨_,l,rfl,r2.low k1.size,⟨fun _=>HI.out,fun h=>(by rw[HB.out] at h;cases h)⟩,k1.trans k2⟩
theorem Pv (w:World)(a:Option Addr)(cap:Nat)(zs:List Int)(hb:Q4 w w.heap.size a zs):
  Calls Tryz.prog 7 #[.slice a zs.length cap] w fun e w'=>∃v AA,e = .returned v/\JJ w' v AA/\(AA.length<=6/\∀i,i<AA.length->(AA.getD i []).length<=7)/\AC w w':=by
 go_enter Tryz.func7,Tryz.ntmps7
 go_wp2_with fail
 refine (Pw w a cap zs hb).mono ?_;rintro e w1 ⟨v,AA,rfl,hR,hs,k1⟩;have HR:=Lib.hid hR;have HS:=Lib.hid hs;clear hR hs;go_wp2;go_ret;exact⟨_,_,rfl,HR.out,HS.out,k1⟩
theorem VN (w:World)(x y z u:Int):Rd (w.alloc (.cells #[.int .i64 x,.int .i64 y,.int .i64 z,.int .i64 u] 2)) (.slice (some ⟨w.heap.size,0,none⟩) 4 4) [x,y,z,u]:=by
 refine⟨_,_,rfl,.inr ⟨w.heap.size,0,rfl,by rw[AD];omega,fun i hi=>?_⟩⟩;rw[cell_of_row _ _ _ _ _ _ (heap_alloc_new w _),Nat.zero_add]
 match i,hi with
 | 0,_=>rfl
 | 1,_=>rfl
 | 2,_=>rfl
 | 3,_=>rfl
 |n+4,h=>simp at h;omega
theorem Mm (w:World)(a:Option Addr)(cap:Nat)(zs:List Int)(hb:Q4 w w.heap.size a zs):
  Calls Tryz.prog 10 #[.slice a zs.length cap] w fun e w'=>∃vl vo l x,e = .returned (.tuple #[vl,vo])/\RJ w' vl l/\Rd w' vo x/\l.length<=78125/\(∀i,i<l.length->(l.getD i []).length<=15)/\x.length<=15/\AC w w':=by
 go_enter Tryz.func10,Tryz.ntmps10
 go_wp2_with fail
 refine (U7 _ a cap zs hb).mono ?_;rintro e w1 ⟨rfl,c1,k1⟩;go_wp2_with fail
 refine (JM _ _ _ c1).mono ?_;rintro e w2 ⟨v,AA,rfl,hR,hs,D2⟩;have K2:=D2.sI k1 (Nat.le_refl _);have z2:=D2.1.lt;have vM:=D2.1;have CQ:=Fv w2 v AA hR.rd (by have:=hs.1;omega) (fun i hi=>by have:=hs.2 i hi;omega);clear hR hs D2 c1 k1;go_wp2_with fail
 refine CQ.mono ?_;rintro e w3 ⟨v3,l,rfl,r3,eo,k3⟩;have hl:=eo.len;have HM:=Lib.hid eo.lens;have K3:=K2.trans k3;have cu3:=vM.keep k3;have z3:w.heap.size<w3.heap.size:=Nat.lt_of_lt_of_le z2 k3.size;obtain⟨al,cl,rfl,-⟩:=id r3.rd;clear CQ eo k3 K2 vM;have HH:=Lib.hid r3;clear r3;by_cases h0:0<l.length
 ·
  have i0:(0:Int)<(l.length:Int):=by omega
  go_wp2_with fail
  refine (Fd _ _ _ 2 cu3 (by omega)).mono ?_;rintro e w4 ⟨t,rfl,cu4,g4⟩;have K4:=K3.grown g4 (fun k hk=>by have:=Option.some.inj hk;omega);have H4:=Lib.hid (HH.out.on (Au.Cx g4 (fun g hg=>by have:=Option.some.inj hg;omega)));have z4:w.heap.size<w4.heap.size:=Nat.lt_of_lt_of_le z3 g4.size;clear g4 cu3 K3;cases t
  ·
   have k5:AC w4 (w4.alloc (.cells #[.int .i64 0,.int .i64 0,.int .i64 1,.int .i64 1] 2)):=(AC.refl w4).alloc _;have R5:=Lib.hid (H4.out.on (Au.Bq k5)).rd;have X5:=Lib.hid (VN w4 0 0 1 1);have K5:=K4.trans k5;clear k5;go_wp2;go_ret2
   exact⟨_,_,l,[0,0,1,1],rfl,R5.out,X5.out,hl,HM.out,by decide,K5⟩
  ·
   go_wp2_with fail
   refine (BO _ _ _ _ cu4 (by omega)).mono ?_;rintro e w5 ⟨x,rfl,x0,x1,cu5,g5⟩;have K5:=K4.grown g5 (fun k hk=>by have:=Option.some.inj hk;omega);have H5:=Lib.hid (H4.out.on (Au.Cx g5 (fun g hg=>by have:=Option.some.inj hg;omega)));obtain⟨j,rfl⟩:∃j:Nat,x=(j:Int):=⟨x.toNat,by omega⟩;have jl:j<l.length:=by omega
   obtain⟨a',c',e',h5⟩:=H5.out.rd;simp only[Value.slice.injEq,true_and] at e';obtain⟨rfl,rfl⟩:=e';rcases h5 with h5|⟨bb,oo,rfl,hbb,hcc⟩
   . exfalso;rw[h5] at jl;simp at jl
   obtain⟨vi,d1,rd⟩:=hcc j jl;have hml:=HM.out j jl;clear g5 cu4 cu5 hcc K4;go_wp2_with fail
   refine (DI _ _ _ rd (by omega)).mono ?_;rintro e w6 ⟨v6,rfl,o6,k6⟩;have R6:=Lib.hid (H5.out.on (Au.Bq k6)).rd;have X6:=Lib.hid o6.rd;have K6:=K5.trans k6;clear o6 k6 rd d1;go_wp2;go_ret2
   exact⟨_,_,l,_,rfl,R6.out,X6.out,hl,HM.out,hml,K6⟩
 ·
  have i0:¬(0:Int)<(l.length:Int):=by omega
  have k5:AC w3 (w3.alloc (.cells #[.int .i64 0,.int .i64 0,.int .i64 1,.int .i64 1] 2)):=(AC.refl w3).alloc _;have R5:=Lib.hid (HH.out.on (Au.Bq k5)).rd;have X5:=Lib.hid (VN w3 0 0 1 1);have K5:=K3.trans k5;clear k5;go_wp2;go_ret2
  exact⟨_,_,l,[0,0,1,1],rfl,R5.out,X5.out,hl,HM.out,by decide,K5⟩
theorem Rn {l:List (List Int)}{k:Nat}(hk:k<l.length):l.getD k []∈l:=by
 rw[List.getD_eq_getElem?_getD,List.getElem?_eq_getElem hk];exact List.getElem_mem hk
theorem Uv {l:List (List Int)}{x:List Int}(h:x∈l):Jb l x=true:=by
 unfold Jb;rw[decide_eq_true_eq];exact h
theorem Nz {AA:List (List Dd)}(hb:AQ AA=true){E Q:List (List Int)}(hE:Dg AA false E)(hQ:Dg AA true Q):∀k,k<Q.length->Jb E (Q.getD k [])=true:=fun k hk=>by
 obtain⟨b,hr,he,e⟩:=(hQ.2 _).1 (Rn hk);exact Uv ((hE.2 _).2 ⟨b,Ty hb hr,he,e⟩)
theorem N0 {AA:List (List Dd)}{E:List (List Int)}(hE:Dg AA false E){b:Bd}(hr:A6 AA false b)(he:Co AA b=true):Jb E (An b)=true:=Uv ((hE.2 _).2 ⟨b,hr,he,rfl⟩)
theorem WF {AA:List (List Dd)}(hb:AQ AA=true){quick:Bool}{E:List (List Int)}(hE:Dg AA quick E):∀k,k<E.length->(E.getD k []).length=(AX Ah (AB AA)).length+3:=fun k hk=>by
 obtain⟨b,hr,_,e⟩:=(hE.2 _).1 (Rn hk);have S:=Di.of (Ly hb hr);rw[e];unfold An;rw[List.length_append,S.sn,S.AM]
theorem WE {AA:List (List Dd)}{quick:Bool}{E:List (List Int)}(hE:Dg AA quick E){k:Nat}(hk:k+1<E.length):Bu (E.getD k []) (E.getD (k+1) [])=true:=by
 have:=List.pairwise_iff_getElem.1 hE.1 k (k+1) (by omega) hk (by omega);simp only[List.getD_eq_getElem?_getD];rw[List.getElem?_eq_getElem (by omega),List.getElem?_eq_getElem hk];exact this
theorem WG {AA:List (List Dd)}(hb:AQ AA=true){quick:Bool}{E:List (List Int)}(hE:Dg AA quick E):0<E.length:=by
 obtain⟨b,hr,he⟩:=Wr hb (quick:=quick) (DR AA (Cd AA)) (Cd AA) (Nat.le_refl _) .new;exact List.length_pos_of_mem ((hE.2 _).2 ⟨b,hr,he,rfl⟩)
end Go.Proofs.YtnmelakgmgenjaaGreat
