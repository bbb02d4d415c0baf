/- Gathered texts. -/
import Derived.Test.YtgakfkjjkobpiaaGreatMS
import Derived.Deep.Cut
import Derived.RegionTactic
import Derived.BigRegion
import Derived.Defers
import Derived.Recover
import Derived.Lib.Hide
import Derived.Laws.Rows
set_option maxRecDepth 100000
set_option maxHeartbeats 8000000
namespace Go.Proofs.YtgakfkjjkobpiaaGreat
open Go.ChangeShapes Go.WideShapes Go.ChangeAt Go.RowKit
def J8 (b:Bd)(o:Nat):Nat:=if o=13 then b.AH.length+1 else if o=28 then b.rws.length+1 else 1
def eu:BI->Option (Nat×Nat)
 | .bd=>none
 | .AM=>some (3,0)
 | .AQ=>some (7,0)
 | .AH=>some (13,0)
 | .AL=>some (14,0)
 | .sn=>some (18,0)
 | .fr=>some (22,0)
 | .rws=>some (28,0)
 | .nt c=>some (13,c+1)
 | .rw p=>some (28,p+1)
theorem Ys:∀a b i,eu a=some i->eu b=some i->a=b:=by
 intro a b i h1 h2;cases a<;>cases b<;>simp only[eu,Option.some.injEq,reduceCtorEq] at h1 h2<;>subst h1<;>simp_all
theorem Yh {w:World}{m bs N:Nat}{B:Nat->Bool}{R:Nat×Nat->Rw}{AA:List (List Dd)}{b:Bd}{wv nv rv:List Value}{x5 x9 x13 x16 x20 x24 x28 x31:Value}(HM:I4 w m (Bt [3,7,13,14,18,22,28] (J8 b) B) R true x5 wv bs N AA)
  (b3:B 3=true) (b7:B 7=true) (b13:B 13=true) (b14:B 14=true) (b18:B 18=true) (b22:B 22=true) (b28:B 28=true)
  (r3:R (3,0)=Bp b.AM x9) (r7:R (7,0)=Bp b.AQ x13) (ln:nv.length=b.AH.length) (rn:R (13,0)=EH 42 nv x16) (rn':∀i,R (13,i+1)=Nn (b.AH.getD i []) (nv.getD i AE))
  (r14:R (14,0)=Bp b.AL x20) (r18:R (18,0)=Bp b.sn x24) (r22:R (22,0)=Bp b.fr x28) (lr:rv.length=b.rws.length) (rr:R (28,0)=EH 26 rv x31) (rr':∀i,R (28,i+1)=Bp (b.rws.getD i []) (rv.getD i AE)):
  BA w m ⟨x5,x9,x13,x16,x20,x24,x28,x31⟩ nv rv bs N AA b:=by
 have H1:∀a i,(BN nv rv a/\a≠.bd)->eu a=some i->Bt [3,7,13,14,18,22,28] (J8 b) B i/\Ax 0 ⟨x5,x9,x13,x16,x20,x24,x28,x31⟩ nv rv b a=R i:=by
  intro a i ha hi
  match a,ha,hi with
  | .AM,_,hi=>cases hi;exact⟨⟨by decide,b3,by show 0<1;omega⟩,r3.symm⟩
  | .AQ,_,hi=>cases hi;exact⟨⟨by decide,b7,by show 0<1;omega⟩,r7.symm⟩
  | .AH,_,hi=>cases hi;exact⟨⟨by decide,b13,by show 0<b.AH.length+1;omega⟩,rn.symm⟩
  | .AL,_,hi=>cases hi;exact⟨⟨by decide,b14,by show 0<1;omega⟩,r14.symm⟩
  | .sn,_,hi=>cases hi;exact⟨⟨by decide,b18,by show 0<1;omega⟩,r18.symm⟩
  | .fr,_,hi=>cases hi;exact⟨⟨by decide,b22,by show 0<1;omega⟩,r22.symm⟩
  | .rws,_,hi=>cases hi;exact⟨⟨by decide,b28,by show 0<b.rws.length+1;omega⟩,rr.symm⟩
  | .nt c,ha,hi=>cases hi;exact⟨⟨by simp,b13,by have:c<nv.length:=ha.1;show c+1<b.AH.length+1;omega⟩,(rn' c).symm⟩
  | .rw c,ha,hi=>cases hi;exact⟨⟨by simp,b28,by have:c<rv.length:=ha.1;show c+1<b.rws.length+1;omega⟩,(rr' c).symm⟩
 have H2:∀a,(BN nv rv a/\a≠.bd)->eu a=none->(Ax 0 ⟨x5,x9,x13,x16,x20,x24,x28,x31⟩ nv rv b a).own w m/\(Ax 0 ⟨x5,x9,x13,x16,x20,x24,x28,x31⟩ nv rv b a).v.ownBlock=none:=by
  intro a ha hn
  match a,ha,hn with
  | .bd,ha,_=>exact absurd rfl ha.2
 refine⟨HM.Al.via eu Ys H1 H2,ln,lr,(HM.work rfl).1,(HM.work rfl).2.2.1,fun a ha hbd k hk=>?_⟩
 cases e:eu a with
 |none=>rw[(H2 a ⟨ha,hbd⟩ e).2] at hk;cases hk
 |some i=>rw[(H1 a i ⟨ha,hbd⟩ e).2] at hk;exact HM.out rfl i (H1 a i ⟨ha,hbd⟩ e).1 k hk
structure jM (w:World)(w1:World)(AA:List (List Dd))(b:Bd)(aW:Option Addr)(aP:Option Addr)(aL:Option Addr)(aN:Option Addr)(aX:Option Addr)(aT:Option Addr)(aF:Option Addr)(aR:Option Addr)(cW:Nat)(cP:Nat)(cL:Nat)(cQ:Nat)(cX:Nat)(cT:Nat)(cF:Nat)(cR:Nat)(B:Nat->Bool)(R:Nat×Nat->Rw)(wv:List Value)(nv:List Value)(rv:List Value)(bs:Nat)(N:Nat)(x3 x4 x5 x6 x7 x8 x9 x10 x11 x12 x13 x14 x15 x16 x17 x18 x19 x20 x21 x22 x23 x24 x25 x26 x27 x28 x29 x30 x31 x32:Value)(w3:World):Prop where
 HM:I4 w3 w1.heap.size (Bt [3,7,13,14,18,22,28] (J8 b) B) R (B 2) x5 wv bs N AA
 HK:AC w w3
 HS:w1.heap.size<=w3.heap.size
 HB:w3.heap[w.heap.size]? = some (.cells #[.slice aW AA.length cW,.slice aP b.AM.length cP,.slice aL b.AQ.length cL,.slice aN b.AH.length cQ,.slice aX b.AL.length cX,.slice aT b.sn.length cT,.slice aF b.fr.length cF,.slice aR b.rws.length cR] 30 (0,0))
 HZ:B 30=false->w3.heap[w.heap.size+1]? = some (.cells #[AE,AE,AE,AE,AE,AE,AE,AE] 30 (0,0))
 F3:B 3=true->(∃g,x6 = .slice (some ⟨g,0,none⟩) 0 0)/\(B 6=false->R (3,0)=Bp [] x6)
 F4:B 4=true->x7 = .pointer (some ⟨w.heap.size,1,none⟩)
 F5:B 5=true->x8 = .slice aP b.AM.length cP
 F6:B 6=true->B 3=true/\(∃a c,x9 = .slice a b.AM.length c)/\R (3,0)=Bp b.AM x9
 F7:B 7=true->(∃g,x10 = .slice (some ⟨g,0,none⟩) 0 0)/\(B 10=false->R (7,0)=Bp [] x10)
 F8:B 8=true->x11 = .pointer (some ⟨w.heap.size,2,none⟩)
 F9:B 9=true->x12 = .slice aL b.AQ.length cL
 F10:B 10=true->B 7=true/\(∃a c,x13 = .slice a b.AQ.length c)/\R (7,0)=Bp b.AQ x13
 F14:B 14=true->(∃g,x17 = .slice (some ⟨g,0,none⟩) 0 0)/\(B 17=false->R (14,0)=Bp [] x17)
 F15:B 15=true->x18 = .pointer (some ⟨w.heap.size,4,none⟩)
 F16:B 16=true->x19 = .slice aX b.AL.length cX
 F17:B 17=true->B 14=true/\(∃a c,x20 = .slice a b.AL.length c)/\R (14,0)=Bp b.AL x20
 F18:B 18=true->(∃g,x21 = .slice (some ⟨g,0,none⟩) 0 0)/\(B 21=false->R (18,0)=Bp [] x21)
 F19:B 19=true->x22 = .pointer (some ⟨w.heap.size,5,none⟩)
 F20:B 20=true->x23 = .slice aT b.sn.length cT
 F21:B 21=true->B 18=true/\(∃a c,x24 = .slice a b.sn.length c)/\R (18,0)=Bp b.sn x24
 F22:B 22=true->(∃g,x25 = .slice (some ⟨g,0,none⟩) 0 0)/\(B 25=false->R (22,0)=Bp [] x25)
 F23:B 23=true->x26 = .pointer (some ⟨w.heap.size,6,none⟩)
 F24:B 24=true->x27 = .slice aF b.fr.length cF
 F25:B 25=true->B 22=true/\(∃a c,x28 = .slice a b.fr.length c)/\R (22,0)=Bp b.fr x28
 F0:B 0=true->x3 = .pointer (some ⟨w.heap.size,0,none⟩)
 F1:B 1=true->x4 = .slice aW AA.length cW
 F2:B 2=true->∃a c,x5 = .slice a AA.length c
 F11:B 11=true->x14 = .pointer (some ⟨w.heap.size,3,none⟩)
 F12:B 12=true->x15 = .slice aN b.AH.length cQ
 F13:B 13=true->(∃a c,x16 = .slice a b.AH.length c)/\nv.length=b.AH.length/\R (13,0)=EH 42 nv x16/\∀i,R (13,i+1)=Nn (b.AH.getD i []) (nv.getD i AE)
 F26:B 26=true->x29 = .pointer (some ⟨w.heap.size,7,none⟩)
 F27:B 27=true->x30 = .slice aR b.rws.length cR
 F28:B 28=true->(∃a c,x31 = .slice a b.rws.length c)/\rv.length=b.rws.length/\R (28,0)=EH 26 rv x31/\∀i,R (28,i+1)=Bp (b.rws.getD i []) (rv.getD i AE)
 F29:B 29=true->(B 2=true/\B 6=true/\B 10=true/\B 13=true/\B 17=true/\B 21=true/\B 25=true/\B 28=true)/\x32 = .agg #[x5,x9,x13,x16,x20,x24,x28,x31]
 F30:B 30=true->B 29=true/\w3.heap[w.heap.size+1]? = some (.cells #[x5,x9,x13,x16,x20,x24,x28,x31] 30 (0,0))
theorem KV (w:World)(bv:BV)(AA:List (List Dd))(b:Bd)(h:CJ w bv AA b)(hb:Af AA b=true):
  Calls Tryz.prog 62 #[bv.agg] w fun e w'=>∃bv' nv rv wv bs N,e = .returned (BV.agg bv')/\BA w' w.heap.size bv' nv rv bs N AA b/\Db w' bs N bv'.W wv AA/\w.heap.size<=bs/\AC w w':=by
 obtain⟨hwk,q1,q2,q3,q4,q5,q6,q7,q8,q9⟩:=En hb;obtain⟨u1,hll⟩:=FV hwk;have g1:b.AM.length<=1048576:=by omega
 have g2:b.AQ.length<=1048576:=by omega
 have g3:b.AL.length<=1048576:=by omega
 have g4:b.AH.length<=1048576:=by omega
 have g5:b.rws.length<=1048576:=by omega
 have hln:∀i,i<b.AH.length->(b.AH.getD i []).length<=1048576:=fun i hi=>by have:=q9 i (by omega);omega
 have hlr:∀i,i<b.rws.length->(b.rws.getD i []).length<=1048576:=fun i hi=>by have:=q8 i (by omega);omega
 clear q1 q2 q3 q4 q5 q8 q9 hwk;obtain⟨aW,aP,aL,aN,aX,aT,aF,aR,cW,cP,cL,cQ,cX,cT,cF,cR,rfl⟩:=h.shapes;go_enter Tryz.func62,Tryz.ntmps62
 go_upto_region 1 with fail
 obtain⟨w1,hw1⟩:∃W:World,W=(w.alloc (.cells #[.slice aW AA.length cW,.slice aP b.AM.length cP,.slice aL b.AQ.length cL,.slice aN b.AH.length cQ,.slice aX b.AL.length cX,.slice aT b.sn.length cT,.slice aF b.fr.length cF,.slice aR b.rws.length cR] 30)).alloc (.cells #[AE,AE,AE,AE,AE,AE,AE,AE] 30):=⟨_,rfl⟩;have K1:AC w w1:=by rw[hw1];exact ((AC.refl w).alloc _).alloc _
 have s1:w1.heap.size=w.heap.size+1+1:=by rw[hw1,AD,AD]
 have hB1:w1.heap[w.heap.size]? = some (.cells #[.slice aW AA.length cW,.slice aP b.AM.length cP,.slice aL b.AQ.length cL,.slice aN b.AH.length cQ,.slice aX b.AL.length cX,.slice aT b.sn.length cT,.slice aF b.fr.length cF,.slice aR b.rws.length cR] 30 (0,0)):=by rw[hw1];exact Ce ((AC.refl _).alloc _)
 have hR1:w1.heap[w.heap.size+1]? = some (.cells #[AE,AE,AE,AE,AE,AE,AE,AE] 30 (0,0)):=by rw[hw1,<-AD w (.cells #[.slice aW AA.length cW,.slice aP b.AM.length cP,.slice aL b.AQ.length cL,.slice aN b.AH.length cQ,.slice aX b.AL.length cX,.slice aT b.sn.length cT,.slice aF b.fr.length cF,.slice aR b.rws.length cR] 30)];exact heap_alloc_new _ _
 rw[<-hw1];clear hw1;have y1:w.heap.size+1<w1.heap.size:=by omega
 clear s1;refine Bk (by kernel_rfl) (fun listed a w3=>∃(B:Nat->Bool) (R:Nat×Nat->Rw) (wv:List Value) (nv:List Value) (rv:List Value) (bs:Nat) (N:Nat) (x3 x4 x5 x6 x7 x8 x9 x10 x11 x12 x13 x14 x15 x16 x17 x18 x19 x20 x21 x22 x23 x24 x25 x26 x27 x28 x29 x30 x31 x32:Value),listed=#[B 0,B 1,B 2,B 3,B 4,B 5,B 6,B 7,B 8,B 9,B 10,B 11,B 12,B 13,B 14,B 15,B 16,B 17,B 18,B 19,B 20,B 21,B 22,B 23,B 24,B 25,B 26,B 27,B 28,B 29,B 30]/\a=⟨#[.agg #[.slice aW AA.length cW,.slice aP b.AM.length cP,.slice aL b.AQ.length cL,.slice aN b.AH.length cQ,.slice aX b.AL.length cX,.slice aT b.sn.length cT,.slice aF b.fr.length cF,.slice aR b.rws.length cR],.pointer (some ⟨w.heap.size,0,none⟩),.pointer (some ⟨w.heap.size+1,0,none⟩),x3,x4,x5,x6,x7,x8,x9,x10,x11,x12,x13,x14,x15,x16,x17,x18,x19,x20,x21,x22,x23,x24,x25,x26,x27,x28,x29,x30,x31,x32],[]⟩/\jM w w1 AA b aW aP aL aN aX aT aF aR cW cP cL cQ cX cT cF cR B R wv nv rv bs N x3 x4 x5 x6 x7 x8 x9 x10 x11 x12 x13 x14 x15 x16 x17 x18 x19 x20 x21 x22 x23 x24 x25 x26 x27 x28 x29 x30 x31 x32 w3) ?_ ?_ ?_
 . exact⟨fun _=>false,fun _=>⟨0,0,AE,0,[]⟩,[],[],[],0,0,undef,undef,undef,undef,undef,undef,undef,undef,undef,undef,undef,undef,undef,undef,undef,undef,undef,undef,undef,undef,undef,undef,undef,undef,undef,undef,undef,undef,undef,undef,rfl,rfl,⟨I4.start _ _ _ _ _ _ _ _ _ _,K1.drew,Nat.le_refl _,hB1,(fun _=>hR1),(fun q=>by cases q),(fun q=>by cases q),(fun q=>by cases q),(fun q=>by cases q),(fun q=>by cases q),(fun q=>by cases q),(fun q=>by cases q),(fun q=>by cases q),(fun q=>by cases q),(fun q=>by cases q),(fun q=>by cases q),(fun q=>by cases q),(fun q=>by cases q),(fun q=>by cases q),(fun q=>by cases q),(fun q=>by cases q),(fun q=>by cases q),(fun q=>by cases q),(fun q=>by cases q),(fun q=>by cases q),(fun q=>by cases q),(fun q=>by cases q),(fun q=>by cases q),(fun q=>by cases q),(fun q=>by cases q),(fun q=>by cases q),(fun q=>by cases q),(fun q=>by cases q),(fun q=>by cases q),(fun q=>by cases q),(fun q=>by cases q)⟩⟩
 ·
  rintro listed a w3 ⟨B,R,wv,nv,rv,bs,N,x3,x4,x5,x6,x7,x8,x9,x10,x11,x12,x13,x14,x15,x16,x17,x18,x19,x20,x21,x22,x23,x24,x25,x26,x27,x28,x29,x30,x31,x32,rfl,rfl,h'⟩ i hi;have hlt:=(AG hi).1;have hcs:i=0\/i=1\/i=2\/i=3\/i=4\/i=5\/i=6\/i=7\/i=8\/i=9\/i=10\/i=11\/i=12\/i=13\/i=14\/i=15\/i=16\/i=17\/i=18\/i=19\/i=20\/i=21\/i=22\/i=23\/i=24\/i=25\/i=26\/i=27\/i=28\/i=29\/i=30:=by simp at hlt;omega
  rcases hcs with rfl|rfl|rfl|rfl|rfl|rfl|rfl|rfl|rfl|rfl|rfl|rfl|rfl|rfl|rfl|rfl|rfl|rfl|rfl|rfl|rfl|rfl|rfl|rfl|rfl|rfl|rfl|rfl|rfl|rfl|rfl
  ·
   have hbi:B 0=false:=by simpa using (AG hi).2.1
   refine AJ rfl rfl (fun K hK=>?_);simp only[List.getElem_toArray,List.getElem_cons_zero];go_simp;refine hK.out _ _ ?_;exact⟨AY B 0,R,wv,nv,rv,bs,N,_,_,_,_,_,_,_,_,_,_,_,_,_,_,_,_,_,_,_,_,_,_,_,_,_,_,_,_,_,_,rfl,rfl,{ h' with F0:=(fun _=>rfl),HM:=h'.HM.pass (by decide) }⟩
  ·
   have hbi:B 1=false:=by simpa using (AG hi).2.1
   have d0:B 0=true:=AK hi 0 rfl (by kernel_rfl);have dc:w3.cell? ⟨w.heap.size,0,none⟩=some (.slice aW AA.length cW):=by rw[cell_of_row w3 _ 0 _ _ _ h'.HB];rfl
   have Ex:=Lib.hid (h'.F0 d0);rw[Ex.out];refine AJ rfl rfl (fun K hK=>?_);simp only[List.getElem_toArray,List.getElem_cons_succ,List.getElem_cons_zero];go_simp;refine hK.out _ _ ?_;have ex:=Ex.out;subst ex;exact⟨AY B 1,R,wv,nv,rv,bs,N,_,_,_,_,_,_,_,_,_,_,_,_,_,_,_,_,_,_,_,_,_,_,_,_,_,_,_,_,_,_,rfl,rfl,{ h' with F1:=(fun _=>rfl),HM:=h'.HM.pass (by decide) }⟩
  ·
   have hbi:B 2=false:=by simpa using (AG hi).2.1
   have d1:B 1=true:=AK hi 1 rfl (by kernel_rfl);have hsz:=h'.HS;have hy:=y1;have Ex:=Lib.hid (h'.F1 d1);rw[Ex.out];refine AJ rfl rfl (fun K hK=>?_);simp only[List.getElem_toArray,List.getElem_cons_succ,List.getElem_cons_zero];go_simp;refine (Hd _ _ _ (h.W.keep h'.HK) (by omega) hll).mono ?_;rintro e wz ⟨vz,V,rfl,hx,kk⟩;go_wp2_with fail
   refine hK.out _ _ ?_;have ex:=Ex.out;subst ex;have HM:=h'.HM;rw[hbi] at HM;obtain⟨az,cz,ez,-⟩:=id hx.zL;exact⟨AY B 2,R,_,nv,rv,_,_,_,_,_,_,_,_,_,_,_,_,_,_,_,_,_,_,_,_,_,_,_,_,_,_,_,_,_,_,_,_,rfl,rfl,{ h' with F29:=(fun q=>absurd (h'.F29 q).1.1 (by rw[hbi];simp)),F30:=(fun q=>absurd (h'.F29 (h'.F30 q).1).1.1 (by rw[hbi];simp)),F2:=(fun _=>⟨az,cz,ez⟩),HM:=HM.copied (by decide) kk hx hsz,HK:=h'.HK.trans kk,HS:=Nat.le_trans h'.HS kk.size,HB:=(Below.block kk w.heap.size (by omega)).trans h'.HB,HZ:=(fun q=>(Below.block kk (w.heap.size+1) (by omega)).trans (h'.HZ q)) }⟩
  ·
   have hbi:B 3=false:=by simpa using (AG hi).2.1
   have hsz:=h'.HS;have hy:=y1;refine AJ rfl rfl (fun K hK=>?_);simp only[List.getElem_toArray,List.getElem_cons_succ,List.getElem_cons_zero];go_simp;refine hK.out _ _ ?_;exact⟨AY B 3,_,wv,nv,rv,bs,N,_,_,_,_,_,_,_,_,_,_,_,_,_,_,_,_,_,_,_,_,_,_,_,_,_,_,_,_,_,_,rfl,rfl,{ h' with HM:=h'.HM.one hbi rfl (r:=Bp [] (.slice (some ⟨w3.heap.size,0,none⟩) 0 0)) ((AC.refl w3).alloc _) (World.ownsRow_lit w3 #[] 0 hsz (by decide) rfl) (fun q hq=>Nat.le_of_eq (Option.some.inj hq)),F3:=(fun _=>⟨⟨_,rfl⟩,fun _=>rfl⟩),F6:=(fun q=>absurd (h'.F6 q).1 (by rw[hbi];simp)),HK:=h'.HK.trans ((AC.refl w3).alloc _),HS:=Nat.le_trans h'.HS ((AC.refl w3).alloc _).size,HB:=(Below.block ((AC.refl w3).alloc _) w.heap.size (by omega)).trans h'.HB,HZ:=(fun q=>(Below.block ((AC.refl w3).alloc _) (w.heap.size+1) (by omega)).trans (h'.HZ q)),F29:=(fun q=>absurd (h'.F6 ((h'.F29 q).1.2.1)).1 (by rw[hbi];simp)),F30:=(fun q=>absurd (h'.F6 ((h'.F29 (h'.F30 q).1).1.2.1)).1 (by rw[hbi];simp)) }⟩
  ·
   have hbi:B 4=false:=by simpa using (AG hi).2.1
   refine AJ rfl rfl (fun K hK=>?_);simp only[List.getElem_toArray,List.getElem_cons_succ,List.getElem_cons_zero];go_simp;refine hK.out _ _ ?_;exact⟨AY B 4,R,wv,nv,rv,bs,N,_,_,_,_,_,_,_,_,_,_,_,_,_,_,_,_,_,_,_,_,_,_,_,_,_,_,_,_,_,_,rfl,rfl,{ h' with F4:=(fun _=>rfl),HM:=h'.HM.pass (by decide) }⟩
  ·
   have hbi:B 5=false:=by simpa using (AG hi).2.1
   have d4:B 4=true:=AK hi 4 rfl (by kernel_rfl);have dc:w3.cell? ⟨w.heap.size,1,none⟩=some (.slice aP b.AM.length cP):=by rw[cell_of_row w3 _ 1 _ _ _ h'.HB];rfl
   have Ex:=Lib.hid (h'.F4 d4);rw[Ex.out];refine AJ rfl rfl (fun K hK=>?_);simp only[List.getElem_toArray,List.getElem_cons_succ,List.getElem_cons_zero];go_simp;refine hK.out _ _ ?_;have ex:=Ex.out;subst ex;exact⟨AY B 5,R,wv,nv,rv,bs,N,_,_,_,_,_,_,_,_,_,_,_,_,_,_,_,_,_,_,_,_,_,_,_,_,_,_,_,_,_,_,rfl,rfl,{ h' with F5:=(fun _=>rfl),HM:=h'.HM.pass (by decide) }⟩
  ·
   have hbi:B 6=false:=by simpa using (AG hi).2.1
   have d3:B 3=true:=AK hi 3 rfl (by kernel_rfl);have d5:B 5=true:=AK hi 5 rfl (by kernel_rfl);have hsz:=h'.HS;have hy:=y1;have lv:Bt [3,7,13,14,18,22,28] (J8 b) B (3,0):=⟨by decide,d3,by show 0<1;omega⟩;have er:=(h'.F3 d3).2 hbi;have ow:A8 w3 w1.heap.size x6 []:=by have:=h'.HM.Al.own (3,0) lv;rw[er] at this;exact this
   have hge:=ow.ge;obtain⟨⟨g0,eg⟩,-⟩:=h'.F3 d3;have Ex:=Lib.hid (h'.F5 d5);rw[Ex.out];refine AJ rfl rfl (fun K hK=>?_);simp only[List.getElem_toArray,List.getElem_cons_succ,List.getElem_cons_zero];refine Cn _ _ rfl w1.heap.size x6 [] rfl ow _ rfl b.AM (h.P.keep h'.HK) (by simp) (by omega) hsz ?_;intro vz wz oz gz bz;simp only[Act.put,List.setIfInBounds_toArray,List.set_cons_zero,List.set_cons_succ];refine hK.out _ _ ?_;have ex:=Ex.out;subst ex;rw[List.nil_append] at oz;obtain⟨az,cz,ez,-⟩:=oz.rd;exact⟨AY B 6,_,wv,nv,rv,bs,N,_,_,_,_,_,_,_,_,_,_,_,_,_,_,_,_,_,_,_,_,_,_,_,_,_,_,_,_,_,_,rfl,rfl,{ h' with F29:=(fun q=>absurd (h'.F29 q).1.2.1 (by rw[hbi];simp)),F30:=(fun q=>absurd (h'.F29 (h'.F30 q).1).1.2.1 (by rw[hbi];simp)),HM:=h'.HM.grow (by decide) rfl lv (r:=Bp b.AM vz) (by rw[er];exact gz) (by rw[er];exact bz) oz,HK:=h'.HK.grown gz (fun q hq=>by have:=hge q hq;omega),HS:=Nat.le_trans h'.HS gz.size,HB:=(gz.block w.heap.size (by omega) (fun e=>by have:=hge _ e.symm;omega)).trans h'.HB,HZ:=(fun q=>(gz.block (w.heap.size+1) (by omega) (fun e=>by have:=hge _ e.symm;omega)).trans (h'.HZ q)),F3:=(fun _=>⟨⟨g0,eg⟩,fun q=>by cases q⟩),F6:=(fun _=>⟨d3,⟨az,cz,ez⟩,rfl⟩) }⟩
  ·
   have hbi:B 7=false:=by simpa using (AG hi).2.1
   have hsz:=h'.HS;have hy:=y1;refine AJ rfl rfl (fun K hK=>?_);simp only[List.getElem_toArray,List.getElem_cons_succ,List.getElem_cons_zero];go_simp;refine hK.out _ _ ?_;exact⟨AY B 7,_,wv,nv,rv,bs,N,_,_,_,_,_,_,_,_,_,_,_,_,_,_,_,_,_,_,_,_,_,_,_,_,_,_,_,_,_,_,rfl,rfl,{ h' with HM:=h'.HM.one hbi rfl (r:=Bp [] (.slice (some ⟨w3.heap.size,0,none⟩) 0 0)) ((AC.refl w3).alloc _) (World.ownsRow_lit w3 #[] 0 hsz (by decide) rfl) (fun q hq=>Nat.le_of_eq (Option.some.inj hq)),F7:=(fun _=>⟨⟨_,rfl⟩,fun _=>rfl⟩),F10:=(fun q=>absurd (h'.F10 q).1 (by rw[hbi];simp)),HK:=h'.HK.trans ((AC.refl w3).alloc _),HS:=Nat.le_trans h'.HS ((AC.refl w3).alloc _).size,HB:=(Below.block ((AC.refl w3).alloc _) w.heap.size (by omega)).trans h'.HB,HZ:=(fun q=>(Below.block ((AC.refl w3).alloc _) (w.heap.size+1) (by omega)).trans (h'.HZ q)),F29:=(fun q=>absurd (h'.F10 ((h'.F29 q).1.2.2.1)).1 (by rw[hbi];simp)),F30:=(fun q=>absurd (h'.F10 ((h'.F29 (h'.F30 q).1).1.2.2.1)).1 (by rw[hbi];simp)) }⟩
  ·
   have hbi:B 8=false:=by simpa using (AG hi).2.1
   refine AJ rfl rfl (fun K hK=>?_);simp only[List.getElem_toArray,List.getElem_cons_succ,List.getElem_cons_zero];go_simp;refine hK.out _ _ ?_;exact⟨AY B 8,R,wv,nv,rv,bs,N,_,_,_,_,_,_,_,_,_,_,_,_,_,_,_,_,_,_,_,_,_,_,_,_,_,_,_,_,_,_,rfl,rfl,{ h' with F8:=(fun _=>rfl),HM:=h'.HM.pass (by decide) }⟩
  ·
   have hbi:B 9=false:=by simpa using (AG hi).2.1
   have d8:B 8=true:=AK hi 8 rfl (by kernel_rfl);have dc:w3.cell? ⟨w.heap.size,2,none⟩=some (.slice aL b.AQ.length cL):=by rw[cell_of_row w3 _ 2 _ _ _ h'.HB];rfl
   have Ex:=Lib.hid (h'.F8 d8);rw[Ex.out];refine AJ rfl rfl (fun K hK=>?_);simp only[List.getElem_toArray,List.getElem_cons_succ,List.getElem_cons_zero];go_simp;refine hK.out _ _ ?_;have ex:=Ex.out;subst ex;exact⟨AY B 9,R,wv,nv,rv,bs,N,_,_,_,_,_,_,_,_,_,_,_,_,_,_,_,_,_,_,_,_,_,_,_,_,_,_,_,_,_,_,rfl,rfl,{ h' with F9:=(fun _=>rfl),HM:=h'.HM.pass (by decide) }⟩
  ·
   have hbi:B 10=false:=by simpa using (AG hi).2.1
   have d7:B 7=true:=AK hi 7 rfl (by kernel_rfl);have d9:B 9=true:=AK hi 9 rfl (by kernel_rfl);have hsz:=h'.HS;have hy:=y1;have lv:Bt [3,7,13,14,18,22,28] (J8 b) B (7,0):=⟨by decide,d7,by show 0<1;omega⟩;have er:=(h'.F7 d7).2 hbi;have ow:A8 w3 w1.heap.size x10 []:=by have:=h'.HM.Al.own (7,0) lv;rw[er] at this;exact this
   have hge:=ow.ge;obtain⟨⟨g0,eg⟩,-⟩:=h'.F7 d7;have Ex:=Lib.hid (h'.F9 d9);rw[Ex.out];refine AJ rfl rfl (fun K hK=>?_);simp only[List.getElem_toArray,List.getElem_cons_succ,List.getElem_cons_zero];refine Cn _ _ rfl w1.heap.size x10 [] rfl ow _ rfl b.AQ (h.L.keep h'.HK) (by simp) (by omega) hsz ?_;intro vz wz oz gz bz;simp only[Act.put,List.setIfInBounds_toArray,List.set_cons_zero,List.set_cons_succ];refine hK.out _ _ ?_;have ex:=Ex.out;subst ex;rw[List.nil_append] at oz;obtain⟨az,cz,ez,-⟩:=oz.rd;exact⟨AY B 10,_,wv,nv,rv,bs,N,_,_,_,_,_,_,_,_,_,_,_,_,_,_,_,_,_,_,_,_,_,_,_,_,_,_,_,_,_,_,rfl,rfl,{ h' with F29:=(fun q=>absurd (h'.F29 q).1.2.2.1 (by rw[hbi];simp)),F30:=(fun q=>absurd (h'.F29 (h'.F30 q).1).1.2.2.1 (by rw[hbi];simp)),HM:=h'.HM.grow (by decide) rfl lv (r:=Bp b.AQ vz) (by rw[er];exact gz) (by rw[er];exact bz) oz,HK:=h'.HK.grown gz (fun q hq=>by have:=hge q hq;omega),HS:=Nat.le_trans h'.HS gz.size,HB:=(gz.block w.heap.size (by omega) (fun e=>by have:=hge _ e.symm;omega)).trans h'.HB,HZ:=(fun q=>(gz.block (w.heap.size+1) (by omega) (fun e=>by have:=hge _ e.symm;omega)).trans (h'.HZ q)),F7:=(fun _=>⟨⟨g0,eg⟩,fun q=>by cases q⟩),F10:=(fun _=>⟨d7,⟨az,cz,ez⟩,rfl⟩) }⟩
  ·
   have hbi:B 11=false:=by simpa using (AG hi).2.1
   refine AJ rfl rfl (fun K hK=>?_);simp only[List.getElem_toArray,List.getElem_cons_succ,List.getElem_cons_zero];go_simp;refine hK.out _ _ ?_;exact⟨AY B 11,R,wv,nv,rv,bs,N,_,_,_,_,_,_,_,_,_,_,_,_,_,_,_,_,_,_,_,_,_,_,_,_,_,_,_,_,_,_,rfl,rfl,{ h' with F11:=(fun _=>rfl),HM:=h'.HM.pass (by decide) }⟩
  ·
   have hbi:B 12=false:=by simpa using (AG hi).2.1
   have d11:B 11=true:=AK hi 11 rfl (by kernel_rfl);have dc:w3.cell? ⟨w.heap.size,3,none⟩=some (.slice aN b.AH.length cQ):=by rw[cell_of_row w3 _ 3 _ _ _ h'.HB];rfl
   have Ex:=Lib.hid (h'.F11 d11);rw[Ex.out];refine AJ rfl rfl (fun K hK=>?_);simp only[List.getElem_toArray,List.getElem_cons_succ,List.getElem_cons_zero];go_simp;refine hK.out _ _ ?_;have ex:=Ex.out;subst ex;exact⟨AY B 12,R,wv,nv,rv,bs,N,_,_,_,_,_,_,_,_,_,_,_,_,_,_,_,_,_,_,_,_,_,_,_,_,_,_,_,_,_,_,rfl,rfl,{ h' with F12:=(fun _=>rfl),HM:=h'.HM.pass (by decide) }⟩
  ·
   have hbi:B 13=false:=by simpa using (AG hi).2.1
   have d12:B 12=true:=AK hi 12 rfl (by kernel_rfl);have hsz:=h'.HS;have hy:=y1;have Ex:=Lib.hid (h'.F12 d12);rw[Ex.out];refine AJ rfl rfl (fun K hK=>?_);simp only[List.getElem_toArray,List.getElem_cons_succ,List.getElem_cons_zero];go_simp;refine (Pt _ _ _ (h.N.keep h'.HK) (by omega) hln).mono ?_;rintro e wz ⟨vz,hs,rfl,oz,kk⟩;go_wp2_with fail
   refine hK.out _ _ ?_;have ex:=Ex.out;subst ex;obtain⟨az,cz,ez,-⟩:=Bn (oz.Al.own none trivial);rw[oz.len] at ez;exact⟨AY B 13,_,wv,hs,rv,bs,N,_,_,_,_,_,_,_,_,_,_,_,_,_,_,_,_,_,_,_,_,_,_,_,_,_,_,_,_,_,_,rfl,rfl,{ h' with F29:=(fun q=>absurd (h'.F29 q).1.2.2.2.1 (by rw[hbi];simp)),F30:=(fun q=>absurd (h'.F29 (h'.F30 q).1).1.2.2.2.1 (by rw[hbi];simp)),HM:=h'.HM.Zn hbi rfl kk hsz oz,F13:=(fun _=>⟨⟨az,cz,ez⟩,oz.len,rfl,fun _=>rfl⟩),HK:=h'.HK.trans kk,HS:=Nat.le_trans h'.HS kk.size,HB:=(Below.block kk w.heap.size (by omega)).trans h'.HB,HZ:=(fun q=>(Below.block kk (w.heap.size+1) (by omega)).trans (h'.HZ q)) }⟩
  ·
   have hbi:B 14=false:=by simpa using (AG hi).2.1
   have hsz:=h'.HS;have hy:=y1;refine AJ rfl rfl (fun K hK=>?_);simp only[List.getElem_toArray,List.getElem_cons_succ,List.getElem_cons_zero];go_simp;refine hK.out _ _ ?_;exact⟨AY B 14,_,wv,nv,rv,bs,N,_,_,_,_,_,_,_,_,_,_,_,_,_,_,_,_,_,_,_,_,_,_,_,_,_,_,_,_,_,_,rfl,rfl,{ h' with HM:=h'.HM.one hbi rfl (r:=Bp [] (.slice (some ⟨w3.heap.size,0,none⟩) 0 0)) ((AC.refl w3).alloc _) (World.ownsRow_lit w3 #[] 0 hsz (by decide) rfl) (fun q hq=>Nat.le_of_eq (Option.some.inj hq)),F14:=(fun _=>⟨⟨_,rfl⟩,fun _=>rfl⟩),F17:=(fun q=>absurd (h'.F17 q).1 (by rw[hbi];simp)),HK:=h'.HK.trans ((AC.refl w3).alloc _),HS:=Nat.le_trans h'.HS ((AC.refl w3).alloc _).size,HB:=(Below.block ((AC.refl w3).alloc _) w.heap.size (by omega)).trans h'.HB,HZ:=(fun q=>(Below.block ((AC.refl w3).alloc _) (w.heap.size+1) (by omega)).trans (h'.HZ q)),F29:=(fun q=>absurd (h'.F17 ((h'.F29 q).1.2.2.2.2.1)).1 (by rw[hbi];simp)),F30:=(fun q=>absurd (h'.F17 ((h'.F29 (h'.F30 q).1).1.2.2.2.2.1)).1 (by rw[hbi];simp)) }⟩
  ·
   have hbi:B 15=false:=by simpa using (AG hi).2.1
   refine AJ rfl rfl (fun K hK=>?_);simp only[List.getElem_toArray,List.getElem_cons_succ,List.getElem_cons_zero];go_simp;refine hK.out _ _ ?_;exact⟨AY B 15,R,wv,nv,rv,bs,N,_,_,_,_,_,_,_,_,_,_,_,_,_,_,_,_,_,_,_,_,_,_,_,_,_,_,_,_,_,_,rfl,rfl,{ h' with F15:=(fun _=>rfl),HM:=h'.HM.pass (by decide) }⟩
  ·
   have hbi:B 16=false:=by simpa using (AG hi).2.1
   have d15:B 15=true:=AK hi 15 rfl (by kernel_rfl);have dc:w3.cell? ⟨w.heap.size,4,none⟩=some (.slice aX b.AL.length cX):=by rw[cell_of_row w3 _ 4 _ _ _ h'.HB];rfl
   have Ex:=Lib.hid (h'.F15 d15);rw[Ex.out];refine AJ rfl rfl (fun K hK=>?_);simp only[List.getElem_toArray,List.getElem_cons_succ,List.getElem_cons_zero];go_simp;refine hK.out _ _ ?_;have ex:=Ex.out;subst ex;exact⟨AY B 16,R,wv,nv,rv,bs,N,_,_,_,_,_,_,_,_,_,_,_,_,_,_,_,_,_,_,_,_,_,_,_,_,_,_,_,_,_,_,rfl,rfl,{ h' with F16:=(fun _=>rfl),HM:=h'.HM.pass (by decide) }⟩
  ·
   have hbi:B 17=false:=by simpa using (AG hi).2.1
   have d14:B 14=true:=AK hi 14 rfl (by kernel_rfl);have d16:B 16=true:=AK hi 16 rfl (by kernel_rfl);have hsz:=h'.HS;have hy:=y1;have lv:Bt [3,7,13,14,18,22,28] (J8 b) B (14,0):=⟨by decide,d14,by show 0<1;omega⟩;have er:=(h'.F14 d14).2 hbi;have ow:A8 w3 w1.heap.size x17 []:=by have:=h'.HM.Al.own (14,0) lv;rw[er] at this;exact this
   have hge:=ow.ge;obtain⟨⟨g0,eg⟩,-⟩:=h'.F14 d14;have Ex:=Lib.hid (h'.F16 d16);rw[Ex.out];refine AJ rfl rfl (fun K hK=>?_);simp only[List.getElem_toArray,List.getElem_cons_succ,List.getElem_cons_zero];refine Cn _ _ rfl w1.heap.size x17 [] rfl ow _ rfl b.AL (h.X.keep h'.HK) (by simp) (by omega) hsz ?_;intro vz wz oz gz bz;simp only[Act.put,List.setIfInBounds_toArray,List.set_cons_zero,List.set_cons_succ];refine hK.out _ _ ?_;have ex:=Ex.out;subst ex;rw[List.nil_append] at oz;obtain⟨az,cz,ez,-⟩:=oz.rd;exact⟨AY B 17,_,wv,nv,rv,bs,N,_,_,_,_,_,_,_,_,_,_,_,_,_,_,_,_,_,_,_,_,_,_,_,_,_,_,_,_,_,_,rfl,rfl,{ h' with F29:=(fun q=>absurd (h'.F29 q).1.2.2.2.2.1 (by rw[hbi];simp)),F30:=(fun q=>absurd (h'.F29 (h'.F30 q).1).1.2.2.2.2.1 (by rw[hbi];simp)),HM:=h'.HM.grow (by decide) rfl lv (r:=Bp b.AL vz) (by rw[er];exact gz) (by rw[er];exact bz) oz,HK:=h'.HK.grown gz (fun q hq=>by have:=hge q hq;omega),HS:=Nat.le_trans h'.HS gz.size,HB:=(gz.block w.heap.size (by omega) (fun e=>by have:=hge _ e.symm;omega)).trans h'.HB,HZ:=(fun q=>(gz.block (w.heap.size+1) (by omega) (fun e=>by have:=hge _ e.symm;omega)).trans (h'.HZ q)),F14:=(fun _=>⟨⟨g0,eg⟩,fun q=>by cases q⟩),F17:=(fun _=>⟨d14,⟨az,cz,ez⟩,rfl⟩) }⟩
  ·
   have hbi:B 18=false:=by simpa using (AG hi).2.1
   have hsz:=h'.HS;have hy:=y1;refine AJ rfl rfl (fun K hK=>?_);simp only[List.getElem_toArray,List.getElem_cons_succ,List.getElem_cons_zero];go_simp;refine hK.out _ _ ?_;exact⟨AY B 18,_,wv,nv,rv,bs,N,_,_,_,_,_,_,_,_,_,_,_,_,_,_,_,_,_,_,_,_,_,_,_,_,_,_,_,_,_,_,rfl,rfl,{ h' with HM:=h'.HM.one hbi rfl (r:=Bp [] (.slice (some ⟨w3.heap.size,0,none⟩) 0 0)) ((AC.refl w3).alloc _) (World.ownsRow_lit w3 #[] 0 hsz (by decide) rfl) (fun q hq=>Nat.le_of_eq (Option.some.inj hq)),F18:=(fun _=>⟨⟨_,rfl⟩,fun _=>rfl⟩),F21:=(fun q=>absurd (h'.F21 q).1 (by rw[hbi];simp)),HK:=h'.HK.trans ((AC.refl w3).alloc _),HS:=Nat.le_trans h'.HS ((AC.refl w3).alloc _).size,HB:=(Below.block ((AC.refl w3).alloc _) w.heap.size (by omega)).trans h'.HB,HZ:=(fun q=>(Below.block ((AC.refl w3).alloc _) (w.heap.size+1) (by omega)).trans (h'.HZ q)),F29:=(fun q=>absurd (h'.F21 ((h'.F29 q).1.2.2.2.2.2.1)).1 (by rw[hbi];simp)),F30:=(fun q=>absurd (h'.F21 ((h'.F29 (h'.F30 q).1).1.2.2.2.2.2.1)).1 (by rw[hbi];simp)) }⟩
  ·
   have hbi:B 19=false:=by simpa using (AG hi).2.1
   refine AJ rfl rfl (fun K hK=>?_);simp only[List.getElem_toArray,List.getElem_cons_succ,List.getElem_cons_zero];go_simp;refine hK.out _ _ ?_;exact⟨AY B 19,R,wv,nv,rv,bs,N,_,_,_,_,_,_,_,_,_,_,_,_,_,_,_,_,_,_,_,_,_,_,_,_,_,_,_,_,_,_,rfl,rfl,{ h' with F19:=(fun _=>rfl),HM:=h'.HM.pass (by decide) }⟩
  ·
   have hbi:B 20=false:=by simpa using (AG hi).2.1
   have d19:B 19=true:=AK hi 19 rfl (by kernel_rfl);have dc:w3.cell? ⟨w.heap.size,5,none⟩=some (.slice aT b.sn.length cT):=by rw[cell_of_row w3 _ 5 _ _ _ h'.HB];rfl
   have Ex:=Lib.hid (h'.F19 d19);rw[Ex.out];refine AJ rfl rfl (fun K hK=>?_);simp only[List.getElem_toArray,List.getElem_cons_succ,List.getElem_cons_zero];go_simp;refine hK.out _ _ ?_;have ex:=Ex.out;subst ex;exact⟨AY B 20,R,wv,nv,rv,bs,N,_,_,_,_,_,_,_,_,_,_,_,_,_,_,_,_,_,_,_,_,_,_,_,_,_,_,_,_,_,_,rfl,rfl,{ h' with F20:=(fun _=>rfl),HM:=h'.HM.pass (by decide) }⟩
  ·
   have hbi:B 21=false:=by simpa using (AG hi).2.1
   have d18:B 18=true:=AK hi 18 rfl (by kernel_rfl);have d20:B 20=true:=AK hi 20 rfl (by kernel_rfl);have hsz:=h'.HS;have hy:=y1;have lv:Bt [3,7,13,14,18,22,28] (J8 b) B (18,0):=⟨by decide,d18,by show 0<1;omega⟩;have er:=(h'.F18 d18).2 hbi;have ow:A8 w3 w1.heap.size x21 []:=by have:=h'.HM.Al.own (18,0) lv;rw[er] at this;exact this
   have hge:=ow.ge;obtain⟨⟨g0,eg⟩,-⟩:=h'.F18 d18;have Ex:=Lib.hid (h'.F20 d20);rw[Ex.out];refine AJ rfl rfl (fun K hK=>?_);simp only[List.getElem_toArray,List.getElem_cons_succ,List.getElem_cons_zero];refine Cn _ _ rfl w1.heap.size x21 [] rfl ow _ rfl b.sn (h.S.keep h'.HK) (by simp) (by omega) hsz ?_;intro vz wz oz gz bz;simp only[Act.put,List.setIfInBounds_toArray,List.set_cons_zero,List.set_cons_succ];refine hK.out _ _ ?_;have ex:=Ex.out;subst ex;rw[List.nil_append] at oz;obtain⟨az,cz,ez,-⟩:=oz.rd;exact⟨AY B 21,_,wv,nv,rv,bs,N,_,_,_,_,_,_,_,_,_,_,_,_,_,_,_,_,_,_,_,_,_,_,_,_,_,_,_,_,_,_,rfl,rfl,{ h' with F29:=(fun q=>absurd (h'.F29 q).1.2.2.2.2.2.1 (by rw[hbi];simp)),F30:=(fun q=>absurd (h'.F29 (h'.F30 q).1).1.2.2.2.2.2.1 (by rw[hbi];simp)),HM:=h'.HM.grow (by decide) rfl lv (r:=Bp b.sn vz) (by rw[er];exact gz) (by rw[er];exact bz) oz,HK:=h'.HK.grown gz (fun q hq=>by have:=hge q hq;omega),HS:=Nat.le_trans h'.HS gz.size,HB:=(gz.block w.heap.size (by omega) (fun e=>by have:=hge _ e.symm;omega)).trans h'.HB,HZ:=(fun q=>(gz.block (w.heap.size+1) (by omega) (fun e=>by have:=hge _ e.symm;omega)).trans (h'.HZ q)),F18:=(fun _=>⟨⟨g0,eg⟩,fun q=>by cases q⟩),F21:=(fun _=>⟨d18,⟨az,cz,ez⟩,rfl⟩) }⟩
  ·
   have hbi:B 22=false:=by simpa using (AG hi).2.1
   have hsz:=h'.HS;have hy:=y1;refine AJ rfl rfl (fun K hK=>?_);simp only[List.getElem_toArray,List.getElem_cons_succ,List.getElem_cons_zero];go_simp;refine hK.out _ _ ?_;exact⟨AY B 22,_,wv,nv,rv,bs,N,_,_,_,_,_,_,_,_,_,_,_,_,_,_,_,_,_,_,_,_,_,_,_,_,_,_,_,_,_,_,rfl,rfl,{ h' with HM:=h'.HM.one hbi rfl (r:=Bp [] (.slice (some ⟨w3.heap.size,0,none⟩) 0 0)) ((AC.refl w3).alloc _) (World.ownsRow_lit w3 #[] 0 hsz (by decide) rfl) (fun q hq=>Nat.le_of_eq (Option.some.inj hq)),F22:=(fun _=>⟨⟨_,rfl⟩,fun _=>rfl⟩),F25:=(fun q=>absurd (h'.F25 q).1 (by rw[hbi];simp)),HK:=h'.HK.trans ((AC.refl w3).alloc _),HS:=Nat.le_trans h'.HS ((AC.refl w3).alloc _).size,HB:=(Below.block ((AC.refl w3).alloc _) w.heap.size (by omega)).trans h'.HB,HZ:=(fun q=>(Below.block ((AC.refl w3).alloc _) (w.heap.size+1) (by omega)).trans (h'.HZ q)),F29:=(fun q=>absurd (h'.F25 ((h'.F29 q).1.2.2.2.2.2.2.1)).1 (by rw[hbi];simp)),F30:=(fun q=>absurd (h'.F25 ((h'.F29 (h'.F30 q).1).1.2.2.2.2.2.2.1)).1 (by rw[hbi];simp)) }⟩
  ·
   have hbi:B 23=false:=by simpa using (AG hi).2.1
   refine AJ rfl rfl (fun K hK=>?_);simp only[List.getElem_toArray,List.getElem_cons_succ,List.getElem_cons_zero];go_simp;refine hK.out _ _ ?_;exact⟨AY B 23,R,wv,nv,rv,bs,N,_,_,_,_,_,_,_,_,_,_,_,_,_,_,_,_,_,_,_,_,_,_,_,_,_,_,_,_,_,_,rfl,rfl,{ h' with F23:=(fun _=>rfl),HM:=h'.HM.pass (by decide) }⟩
  ·
   have hbi:B 24=false:=by simpa using (AG hi).2.1
   have d23:B 23=true:=AK hi 23 rfl (by kernel_rfl);have dc:w3.cell? ⟨w.heap.size,6,none⟩=some (.slice aF b.fr.length cF):=by rw[cell_of_row w3 _ 6 _ _ _ h'.HB];rfl
   have Ex:=Lib.hid (h'.F23 d23);rw[Ex.out];refine AJ rfl rfl (fun K hK=>?_);simp only[List.getElem_toArray,List.getElem_cons_succ,List.getElem_cons_zero];go_simp;refine hK.out _ _ ?_;have ex:=Ex.out;subst ex;exact⟨AY B 24,R,wv,nv,rv,bs,N,_,_,_,_,_,_,_,_,_,_,_,_,_,_,_,_,_,_,_,_,_,_,_,_,_,_,_,_,_,_,rfl,rfl,{ h' with F24:=(fun _=>rfl),HM:=h'.HM.pass (by decide) }⟩
  ·
   have hbi:B 25=false:=by simpa using (AG hi).2.1
   have d22:B 22=true:=AK hi 22 rfl (by kernel_rfl);have d24:B 24=true:=AK hi 24 rfl (by kernel_rfl);have hsz:=h'.HS;have hy:=y1;have lv:Bt [3,7,13,14,18,22,28] (J8 b) B (22,0):=⟨by decide,d22,by show 0<1;omega⟩;have er:=(h'.F22 d22).2 hbi;have ow:A8 w3 w1.heap.size x25 []:=by have:=h'.HM.Al.own (22,0) lv;rw[er] at this;exact this
   have hge:=ow.ge;obtain⟨⟨g0,eg⟩,-⟩:=h'.F22 d22;have Ex:=Lib.hid (h'.F24 d24);rw[Ex.out];refine AJ rfl rfl (fun K hK=>?_);simp only[List.getElem_toArray,List.getElem_cons_succ,List.getElem_cons_zero];refine Cn _ _ rfl w1.heap.size x25 [] rfl ow _ rfl b.fr (h.F.keep h'.HK) (by simp) (by omega) hsz ?_;intro vz wz oz gz bz;simp only[Act.put,List.setIfInBounds_toArray,List.set_cons_zero,List.set_cons_succ];refine hK.out _ _ ?_;have ex:=Ex.out;subst ex;rw[List.nil_append] at oz;obtain⟨az,cz,ez,-⟩:=oz.rd;exact⟨AY B 25,_,wv,nv,rv,bs,N,_,_,_,_,_,_,_,_,_,_,_,_,_,_,_,_,_,_,_,_,_,_,_,_,_,_,_,_,_,_,rfl,rfl,{ h' with F29:=(fun q=>absurd (h'.F29 q).1.2.2.2.2.2.2.1 (by rw[hbi];simp)),F30:=(fun q=>absurd (h'.F29 (h'.F30 q).1).1.2.2.2.2.2.2.1 (by rw[hbi];simp)),HM:=h'.HM.grow (by decide) rfl lv (r:=Bp b.fr vz) (by rw[er];exact gz) (by rw[er];exact bz) oz,HK:=h'.HK.grown gz (fun q hq=>by have:=hge q hq;omega),HS:=Nat.le_trans h'.HS gz.size,HB:=(gz.block w.heap.size (by omega) (fun e=>by have:=hge _ e.symm;omega)).trans h'.HB,HZ:=(fun q=>(gz.block (w.heap.size+1) (by omega) (fun e=>by have:=hge _ e.symm;omega)).trans (h'.HZ q)),F22:=(fun _=>⟨⟨g0,eg⟩,fun q=>by cases q⟩),F25:=(fun _=>⟨d22,⟨az,cz,ez⟩,rfl⟩) }⟩
  ·
   have hbi:B 26=false:=by simpa using (AG hi).2.1
   refine AJ rfl rfl (fun K hK=>?_);simp only[List.getElem_toArray,List.getElem_cons_succ,List.getElem_cons_zero];go_simp;refine hK.out _ _ ?_;exact⟨AY B 26,R,wv,nv,rv,bs,N,_,_,_,_,_,_,_,_,_,_,_,_,_,_,_,_,_,_,_,_,_,_,_,_,_,_,_,_,_,_,rfl,rfl,{ h' with F26:=(fun _=>rfl),HM:=h'.HM.pass (by decide) }⟩
  ·
   have hbi:B 27=false:=by simpa using (AG hi).2.1
   have d26:B 26=true:=AK hi 26 rfl (by kernel_rfl);have dc:w3.cell? ⟨w.heap.size,7,none⟩=some (.slice aR b.rws.length cR):=by rw[cell_of_row w3 _ 7 _ _ _ h'.HB];rfl
   have Ex:=Lib.hid (h'.F26 d26);rw[Ex.out];refine AJ rfl rfl (fun K hK=>?_);simp only[List.getElem_toArray,List.getElem_cons_succ,List.getElem_cons_zero];go_simp;refine hK.out _ _ ?_;have ex:=Ex.out;subst ex;exact⟨AY B 27,R,wv,nv,rv,bs,N,_,_,_,_,_,_,_,_,_,_,_,_,_,_,_,_,_,_,_,_,_,_,_,_,_,_,_,_,_,_,rfl,rfl,{ h' with F27:=(fun _=>rfl),HM:=h'.HM.pass (by decide) }⟩
  ·
   have hbi:B 28=false:=by simpa using (AG hi).2.1
   have d27:B 27=true:=AK hi 27 rfl (by kernel_rfl);have hsz:=h'.HS;have hy:=y1;have Ex:=Lib.hid (h'.F27 d27);rw[Ex.out];refine AJ rfl rfl (fun K hK=>?_);simp only[List.getElem_toArray,List.getElem_cons_succ,List.getElem_cons_zero];go_simp;refine (Ps _ _ _ (h.R.keep h'.HK) (by omega) hlr).mono ?_;rintro e wz ⟨vz,hs,rfl,oz,kk⟩;go_wp2_with fail
   refine hK.out _ _ ?_;have ex:=Ex.out;subst ex;obtain⟨az,cz,ez,-⟩:=Bn (oz.Al.own none trivial);rw[oz.len] at ez;exact⟨AY B 28,_,wv,nv,hs,bs,N,_,_,_,_,_,_,_,_,_,_,_,_,_,_,_,_,_,_,_,_,_,_,_,_,_,_,_,_,_,_,rfl,rfl,{ h' with F29:=(fun q=>absurd (h'.F29 q).1.2.2.2.2.2.2.2 (by rw[hbi];simp)),F30:=(fun q=>absurd (h'.F29 (h'.F30 q).1).1.2.2.2.2.2.2.2 (by rw[hbi];simp)),HM:=h'.HM.Zn hbi rfl kk hsz oz,F28:=(fun _=>⟨⟨az,cz,ez⟩,oz.len,rfl,fun _=>rfl⟩),HK:=h'.HK.trans kk,HS:=Nat.le_trans h'.HS kk.size,HB:=(Below.block kk w.heap.size (by omega)).trans h'.HB,HZ:=(fun q=>(Below.block kk (w.heap.size+1) (by omega)).trans (h'.HZ q)) }⟩
  ·
   have hbi:B 29=false:=by simpa using (AG hi).2.1
   have d2:B 2=true:=AK hi 2 rfl (by kernel_rfl);have d6:B 6=true:=AK hi 6 rfl (by kernel_rfl);have d10:B 10=true:=AK hi 10 rfl (by kernel_rfl);have d13:B 13=true:=AK hi 13 rfl (by kernel_rfl);have d17:B 17=true:=AK hi 17 rfl (by kernel_rfl);have d21:B 21=true:=AK hi 21 rfl (by kernel_rfl);have d25:B 25=true:=AK hi 25 rfl (by kernel_rfl);have d28:B 28=true:=AK hi 28 rfl (by kernel_rfl);obtain⟨a2,c2,e2⟩:=h'.F2 d2;obtain⟨-,⟨a6,c6,e6⟩,-⟩:=h'.F6 d6;obtain⟨-,⟨a10,c10,e10⟩,-⟩:=h'.F10 d10;obtain⟨⟨a13,c13,e13⟩,-⟩:=h'.F13 d13;obtain⟨-,⟨a17,c17,e17⟩,-⟩:=h'.F17 d17;obtain⟨-,⟨a21,c21,e21⟩,-⟩:=h'.F21 d21;obtain⟨-,⟨a25,c25,e25⟩,-⟩:=h'.F25 d25;obtain⟨⟨a28,c28,e28⟩,-⟩:=h'.F28 d28;have wE:=Lib.hid (e2);rw[wE.out];have wG:=Lib.hid (e6);rw[wG.out];have jP:=Lib.hid (e10);rw[jP.out];have jR:=Lib.hid (e13);rw[jR.out];have U8:=Lib.hid (e17);rw[U8.out];have jT:=Lib.hid (e21);rw[jT.out];have jU:=Lib.hid (e25);rw[jU.out];have jV:=Lib.hid (e28);rw[jV.out];refine AJ rfl rfl (fun K hK=>?_);simp only[List.getElem_toArray,List.getElem_cons_succ,List.getElem_cons_zero];clear e2 e6 e10 e13 e17 e21 e25 e28;go_simp;refine hK.out _ _ ?_;have ep2:=wE.out;subst ep2;have ep6:=wG.out;subst ep6;have ep10:=jP.out;subst ep10;have ep13:=jR.out;subst ep13;have ep17:=U8.out;subst ep17;have ep21:=jT.out;subst ep21;have ep25:=jU.out;subst ep25;have ep28:=jV.out;subst ep28;exact⟨AY B 29,R,wv,nv,rv,bs,N,_,_,_,_,_,_,_,_,_,_,_,_,_,_,_,_,_,_,_,_,_,_,_,_,_,_,_,_,_,_,rfl,rfl,{ h' with F29:=(fun _=>⟨⟨d2,d6,d10,d13,d17,d21,d25,d28⟩,rfl⟩),F30:=(fun q=>absurd (h'.F30 q).1 (by rw[hbi];simp)),HM:=h'.HM.pass (by decide) }⟩
  ·
   have hbi:B 30=false:=by simpa using (AG hi).2.1
   have d29:B 29=true:=AK hi 29 rfl (by kernel_rfl);have hsz:=h'.HS;have hy:=y1;obtain⟨dd,e32⟩:=h'.F29 d29;have hz0:=h'.HZ hbi;obtain⟨a2,c2,e2⟩:=h'.F2 dd.1;obtain⟨-,⟨a6,c6,e6⟩,-⟩:=h'.F6 dd.2.1;obtain⟨-,⟨a10,c10,e10⟩,-⟩:=h'.F10 dd.2.2.1;obtain⟨⟨a13,c13,e13⟩,-⟩:=h'.F13 dd.2.2.2.1;obtain⟨-,⟨a17,c17,e17⟩,-⟩:=h'.F17 dd.2.2.2.2.1;obtain⟨-,⟨a21,c21,e21⟩,-⟩:=h'.F21 dd.2.2.2.2.2.1;obtain⟨-,⟨a25,c25,e25⟩,-⟩:=h'.F25 dd.2.2.2.2.2.2.1;obtain⟨⟨a28,c28,e28⟩,-⟩:=h'.F28 dd.2.2.2.2.2.2.2;have hone:(#[x5,x9,x13,x16,x20,x24,x28,x31]:Array Value).all (·.oneCell')=true:=by rw[e2,e6,e10,e13,e17,e21,e25,e28];simp[Value.oneCell']
   clear e2 e6 e10 e13 e17 e21 e25 e28;have gg:=AV w3 (w.heap.size+1) #[x5,x9,x13,x16,x20,x24,x28,x31];have hh:=setRow_heap w3 (w.heap.size+1) _ #[x5,x9,x13,x16,x20,x24,x28,x31] _ _ hz0;have Ep:=Lib.hid (e32);rw[Ep.out];refine AJ rfl rfl (fun K hK=>?_);simp only[List.getElem_toArray,List.getElem_cons_succ,List.getElem_cons_zero];clear e32;refine wp_store_row 30 _ _ rfl (w.heap.size+1) _ rfl rfl 30 _ hz0 AF rfl hone ?_;refine hK.out _ _ ?_;have ep:=Ep.out;subst ep;exact⟨AY B 30,R,wv,nv,rv,bs,N,_,_,_,_,_,_,_,_,_,_,_,_,_,_,_,_,_,_,_,_,_,_,_,_,_,_,_,_,_,_,rfl,rfl,{ h' with HM:=h'.HM.far (by decide) gg (by omega),HK:=h'.HK.grown gg (fun q hq=>by have:=Option.some.inj hq;omega),HS:=Nat.le_trans h'.HS gg.size,HB:=(gg.block w.heap.size (by omega) (fun e=>by have:=Option.some.inj e;omega)).trans h'.HB,HZ:=(fun q=>by cases q),F30:=(fun _=>⟨d29,hh⟩) }⟩
 ·
  rintro listed a w3 ⟨B,R,wv,nv,rv,bs,N,x3,x4,x5,x6,x7,x8,x9,x10,x11,x12,x13,x14,x15,x16,x17,x18,x19,x20,x21,x22,x23,x24,x25,x26,x27,x28,x29,x30,x31,x32,rfl,rfl,h'⟩ hr;have hall:=DV hr rfl (by kernel_rfl);have b2:B 2=true:=hall 2 (by simp);have b3:B 3=true:=hall 3 (by simp);have b6:B 6=true:=hall 6 (by simp);have b7:B 7=true:=hall 7 (by simp);have b10:B 10=true:=hall 10 (by simp);have b13:B 13=true:=hall 13 (by simp);have b14:B 14=true:=hall 14 (by simp);have b17:B 17=true:=hall 17 (by simp);have b18:B 18=true:=hall 18 (by simp);have b21:B 21=true:=hall 21 (by simp);have b22:B 22=true:=hall 22 (by simp);have b25:B 25=true:=hall 25 (by simp);have b28:B 28=true:=hall 28 (by simp);have b30:B 30=true:=hall 30 (by simp);clear hall;obtain⟨HM,HK,HS,HB,HZ,F3,F4,F5,F6,F7,F8,F9,F10,F14,F15,F16,F17,F18,F19,F20,F21,F22,F23,F24,F25,F0,F1,F2,F11,F12,F13,F26,F27,F28,F29,F30⟩:=h';clear hr;have HV:=Yh (by rw[b2] at HM;exact HM) b3 b7 b13 b14 b18 b22 b28 (F6 b6).2.2 (F10 b10).2.2 (F13 b13).2.1 (F13 b13).2.2.1 (F13 b13).2.2.2 (F17 b17).2.2 (F21 b21).2.2 (F25 b25).2.2 (F28 b28).2.1 (F28 b28).2.2.1 (F28 b28).2.2.2;have HW:=((by rw[b2] at HM;exact HM):I4 w3 w1.heap.size _ R true x5 wv bs N AA).work rfl;have HR:=(F30 b30).2;clear HM HZ HB F3 F4 F5 F6 F7 F8 F9 F10 F14 F15 F16 F17 F18 F19 F20 F21 F22 F23 F24 F25 F0 F1 F2 F11 F12 F13 F26 F27 F28 F29 F30;go_wp2;refine bodyPost_ret (Ac (by rfl) _ _ (w.heap.size+1) _ _ (0,0) _ rfl HR Tryz.underlying30 rfl AF) rfl ?_;exact⟨⟨x5,x9,x13,x16,x20,x24,x28,x31⟩,nv,rv,wv,bs,N,rfl,HV.BE (by omega),HW.2.1,Nat.le_trans (by omega) HW.2.2.2,HK⟩
structure bJ (w:World)(wc:World)(m:Nat)(b:Bd)(p:Nat)(x:Int)(ev:Int)(rv:List Value)(Z:List Int)(au:Option Addr)(cu:Nat)(gp:Nat)(gl:Nat)(gr:Nat)(aW:Option Addr)(aN:Option Addr)(aX:Option Addr)(aS:Option Addr)(aF:Option Addr)(nW:Nat)(nN:Nat)(nX:Nat)(nS:Nat)(nF:Nat)(cW:Nat)(cP:Nat)(cL:Nat)(cQ:Nat)(cX:Nat)(cS:Nat)(cF:Nat)(cR:Nat)(B:Nat->Bool)(G:Nat)(x18 x19 x20 x21 x22 x23 x24 x25 x26 x27 x28 x29 x30 x31 x32:Value)(w3:World):Prop where
 HB:w3.heap[w.heap.size]? = some (.cells #[.slice aW nW cW,.slice (some ⟨gp,0,none⟩) b.AM.length cP,.slice (some ⟨gl,0,none⟩) b.AQ.length cL,.slice aN nN cQ,.slice aX nX cX,.slice aS nS cS,.slice aF nF cF,.slice (some ⟨gr,0,none⟩) b.rws.length cR] 30 (0,0))
 HN:w3.heap[w.heap.size+1]? = some (.cells #[.int .i64 (p:Int),.int .i64 x,.int .i64 ev] 44 (0,0))
 HS:wc.heap.size<=w3.heap.size
 HO:B 13=false->AC wc w3
 F0:B 0=true->x18 = .pointer (some ⟨w.heap.size,7,none⟩)
 F1:B 1=true->x19 = .slice (some ⟨gr,0,none⟩) b.rws.length cR
 F2:B 2=true->x20 = .pointer (some ⟨w.heap.size+1,0,none⟩)
 F3:B 3=true->x21 = .int .i64 (p:Int)
 F4:B 4=true->x22 = .pointer (some ⟨w.heap.size,7,none⟩)
 F5:B 5=true->x23 = .slice (some ⟨gr,0,none⟩) b.rws.length cR
 F6:B 6=true->x24 = .pointer (some ⟨w.heap.size+1,0,none⟩)
 F7:B 7=true->x25 = .int .i64 (p:Int)
 F8:B 8=true->x26 = .pointer (some ⟨gr,p,none⟩)
 F9:B 9=true->x27 = .slice au Z.length cu
 F10:B 10=true->x28 = .pointer (some ⟨w.heap.size+1,2,none⟩)
 F11:B 11=true->x29 = .int .i64 ev
 F12:B 12=true->x30 = .slice (some ⟨G,0,none⟩) 1 1/\(B 13=false->w3.cell? ⟨G,0,none⟩=some (.int .i64 ev))
 F13:B 13=true->(B 9=true/\B 12=true)/\∃a c,x31 = .slice a (Z.length+1) c
 P13:B 13=true->B 15=false->DQ (w3.setCell ⟨gr,p,none⟩ x31) m ⟨.slice aW nW cW,.slice (some ⟨gp,0,none⟩) b.AM.length cP,.slice (some ⟨gl,0,none⟩) b.AQ.length cL,.slice aN nN cQ,.slice aX nX cX,.slice aS nS cS,.slice aF nF cF,.slice (some ⟨gr,0,none⟩) b.rws.length cR⟩ (rv.set p x31) { { { b with AM:=b.AM.set p x } with AQ:=b.AQ.set p ev } with rws:=b.rws.set p (Z++[ev]) }/\w3.cell? ⟨gr,p,none⟩=some (rv.getD p AE)/\w3.frozen? ⟨gr,p,none⟩=false/\Ak w w3 (E4 ⟨.slice aW nW cW,.slice (some ⟨gp,0,none⟩) b.AM.length cP,.slice (some ⟨gl,0,none⟩) b.AQ.length cL,.slice aN nN cQ,.slice aX nX cX,.slice aS nS cS,.slice aF nF cF,.slice (some ⟨gr,0,none⟩) b.rws.length cR⟩ rv) (E4 ⟨.slice aW nW cW,.slice (some ⟨gp,0,none⟩) b.AM.length cP,.slice (some ⟨gl,0,none⟩) b.AQ.length cL,.slice aN nN cQ,.slice aX nX cX,.slice aS nS cS,.slice aF nF cF,.slice (some ⟨gr,0,none⟩) b.rws.length cR⟩ rv)/\(∀g,x31.ownBlock=some g->E4 ⟨.slice aW nW cW,.slice (some ⟨gp,0,none⟩) b.AM.length cP,.slice (some ⟨gl,0,none⟩) b.AQ.length cL,.slice aN nN cQ,.slice aX nX cX,.slice aS nS cS,.slice aF nF cF,.slice (some ⟨gr,0,none⟩) b.rws.length cR⟩ rv g\/w.heap.size<=g)
 F14:B 14=true->x32 = .pointer (some ⟨gr,p,none⟩)
 F15:B 15=true->B 13=true/\DQ w3 m ⟨.slice aW nW cW,.slice (some ⟨gp,0,none⟩) b.AM.length cP,.slice (some ⟨gl,0,none⟩) b.AQ.length cL,.slice aN nN cQ,.slice aX nX cX,.slice aS nS cS,.slice aF nF cF,.slice (some ⟨gr,0,none⟩) b.rws.length cR⟩ (rv.set p x31) { { { b with AM:=b.AM.set p x } with AQ:=b.AQ.set p ev } with rws:=b.rws.set p (Z++[ev]) }/\Ak w w3 (E4 ⟨.slice aW nW cW,.slice (some ⟨gp,0,none⟩) b.AM.length cP,.slice (some ⟨gl,0,none⟩) b.AQ.length cL,.slice aN nN cQ,.slice aX nX cX,.slice aS nS cS,.slice aF nF cF,.slice (some ⟨gr,0,none⟩) b.rws.length cR⟩ rv) (E4 ⟨.slice aW nW cW,.slice (some ⟨gp,0,none⟩) b.AM.length cP,.slice (some ⟨gl,0,none⟩) b.AQ.length cL,.slice aN nN cQ,.slice aX nX cX,.slice aS nS cS,.slice aF nF cF,.slice (some ⟨gr,0,none⟩) b.rws.length cR⟩ (rv.set p x31))
theorem Oy (w:World)(m:Nat)(v:BV)(rv:List Value)(b:Bd)(p:Nat)(x ev:Int)(h:DQ w m v rv b)(hs:v.Sl)(hm:m<=w.heap.size)(hp:p<b.AM.length)(hl:p<b.AQ.length)(hr:p<b.rws.length)(ht:(b.rws.getD p []).length<=1048576):
  Calls Tryz.prog 113 #[v.agg,.agg #[.int .i64 (p:Int),.int .i64 x,.int .i64 ev]] w fun e w'=>e = .returned (.tuple #[])/\∃rv',DQ w' m v rv' (Dw b p x ev)/\Ak w w' (E4 v rv) (E4 v rv'):=by
 obtain⟨i0,hii,hz0,hz1,hz2⟩:=info_parts Tryz.FL;obtain⟨aW,aP,aL,aN,aX,aS,aF,aR,nW,nP,nL,nN,nX,nS,nF,nR,cW,cP,cL,cQ,cX,cS,cF,cR,rfl⟩:=hs;obtain⟨gp,cp,eP,lp,-,-⟩:=h.oP.lit hp;obtain⟨gl,cl,eL,ll,-,-⟩:=h.oL.lit hl;obtain⟨xR,cR',eR,hR⟩:=h.hR;rcases hR with h0|⟨gr,rfl,lr,-⟩
 . exfalso;rw[h0] at hr;simp at hr
 simp only[Value.slice.injEq] at eP eL eR;obtain⟨rfl,rfl,rfl⟩:=eP;obtain⟨rfl,rfl,rfl⟩:=eL;obtain⟨rfl,rfl,rfl⟩:=eR;obtain⟨Z,hZ⟩:∃Z,Z=b.rws.getD p []:=⟨_,rfl⟩;rw[<-hZ] at ht;have XZ:Hid (Dw b p x ev={ { { b with AM:=b.AM.set p x } with AQ:=b.AQ.set p ev } with rws:=b.rws.set p (Z++[ev]) }):=Lib.hid (by rw[hZ];rfl);have YB:Hid (∀q,w.heap.size<=q->¬E4 ⟨.slice aW nW cW,.slice (some ⟨gp,0,none⟩) b.AM.length cP,.slice (some ⟨gl,0,none⟩) b.AQ.length cL,.slice aN nN cQ,.slice aX nX cX,.slice aS nS cS,.slice aF nF cF,.slice (some ⟨gr,0,none⟩) b.rws.length cR⟩ rv q):=Lib.hid (fun q hq hB=>by have:=(h.blk q hB).2;omega);have HH:=Lib.hid h;have i1:(0:Int)<=(p:Int):=Int.natCast_nonneg _;have i2:(p:Int)<(b.AM.length:Int):=by omega
 have i3:(p:Int)<(b.AQ.length:Int):=by omega
 have i4:(p:Int)<(b.rws.length:Int):=by omega
 clear h;go_enter Tryz.func113,Tryz.ntmps113
 go_upto_region 1 with fail
 go_cut [] from 4 (fun wx=>DQ wx m ⟨.slice aW nW cW,.slice (some ⟨gp,0,none⟩) b.AM.length cP,.slice (some ⟨gl,0,none⟩) b.AQ.length cL,.slice aN nN cQ,.slice aX nX cX,.slice aS nS cS,.slice aF nF cF,.slice (some ⟨gr,0,none⟩) b.rws.length cR⟩ rv { { b with AM:=b.AM.set p x } with AQ:=b.AQ.set p ev }/\Ak w wx (E4 ⟨.slice aW nW cW,.slice (some ⟨gp,0,none⟩) b.AM.length cP,.slice (some ⟨gl,0,none⟩) b.AQ.length cL,.slice aN nN cQ,.slice aX nX cX,.slice aS nS cS,.slice aF nF cF,.slice (some ⟨gr,0,none⟩) b.rws.length cR⟩ rv) (E4 ⟨.slice aW nW cW,.slice (some ⟨gp,0,none⟩) b.AM.length cP,.slice (some ⟨gl,0,none⟩) b.AQ.length cL,.slice aN nN cQ,.slice aX nX cX,.slice aS nS cS,.slice aF nF cF,.slice (some ⟨gr,0,none⟩) b.rws.length cR⟩ rv)/\wx.heap[w.heap.size]? = some (.cells #[.slice aW nW cW,.slice (some ⟨gp,0,none⟩) b.AM.length cP,.slice (some ⟨gl,0,none⟩) b.AQ.length cL,.slice aN nN cQ,.slice aX nX cX,.slice aS nS cS,.slice aF nF cF,.slice (some ⟨gr,0,none⟩) b.rws.length cR] 30 (0,0))/\wx.heap[w.heap.size+1]? = some (.cells #[.int .i64 (p:Int),.int .i64 x,.int .i64 ev] 44 (0,0))/\w.heap.size+1<wx.heap.size)
 case first=>
  obtain⟨w1,hw1⟩:∃W:World,W=(w.alloc (.cells #[.slice aW nW cW,.slice (some ⟨gp,0,none⟩) b.AM.length cP,.slice (some ⟨gl,0,none⟩) b.AQ.length cL,.slice aN nN cQ,.slice aX nX cX,.slice aS nS cS,.slice aF nF cF,.slice (some ⟨gr,0,none⟩) b.rws.length cR] 30)).alloc (.cells #[.int .i64 (p:Int),.int .i64 x,.int .i64 ev] 44):=⟨_,rfl⟩;have K1:AC w w1:=by rw[hw1];exact ((AC.refl w).alloc _).alloc _
  have s1:w1.heap.size=w.heap.size+1+1:=by rw[hw1,AD,AD]
  have hB1:w1.heap[w.heap.size]? = some (.cells #[.slice aW nW cW,.slice (some ⟨gp,0,none⟩) b.AM.length cP,.slice (some ⟨gl,0,none⟩) b.AQ.length cL,.slice aN nN cQ,.slice aX nX cX,.slice aS nS cS,.slice aF nF cF,.slice (some ⟨gr,0,none⟩) b.rws.length cR] 30 (0,0)):=by rw[hw1];exact Ce ((AC.refl _).alloc _)
  have hN1:w1.heap[w.heap.size+1]? = some (.cells #[.int .i64 (p:Int),.int .i64 x,.int .i64 ev] 44 (0,0)):=by rw[hw1,<-AD w (.cells #[.slice aW nW cW,.slice (some ⟨gp,0,none⟩) b.AM.length cP,.slice (some ⟨gl,0,none⟩) b.AQ.length cL,.slice aN nN cQ,.slice aX nX cX,.slice aS nS cS,.slice aF nF cF,.slice (some ⟨gr,0,none⟩) b.rws.length cR] 30)];exact heap_alloc_new _ _
  rw[<-hw1];clear hw1;have H1:=HH.out.keep K1;obtain⟨gp',cp',eP,lp1,dp,fp⟩:=H1.oP.lit hp;simp only[Value.slice.injEq,Option.some.injEq,Addr.mk.injEq,and_true,true_and] at eP;obtain⟨rfl,rfl⟩:=eP;have d1:=dp p hp;have f1:=fp p;have H2:=H1.Ox (k:=p) (x:=x) rfl;obtain⟨gl',cl',eL,ll2,dl,fl⟩:=H2.oL.lit hl;simp only[Value.slice.injEq,Option.some.injEq,Addr.mk.injEq,and_true,true_and] at eL;obtain⟨rfl,rfl⟩:=eL;have d2:=dl p hl;have f2:=fl p;have c1:w1.cell? ⟨w.heap.size,1,none⟩=some (.slice (some ⟨gp,0,none⟩) b.AM.length cP):=by rw[cell_of_row w1 _ 1 _ _ _ hB1];rfl
  have c2:w1.cell? ⟨w.heap.size,2,none⟩=some (.slice (some ⟨gl,0,none⟩) b.AQ.length cL):=by rw[cell_of_row w1 _ 2 _ _ _ hB1];rfl
  have n0:w1.cell? ⟨w.heap.size+1,0,none⟩=some (.int .i64 (p:Int)):=by rw[cell_of_row w1 _ 0 _ _ _ hN1];rfl
  have n1:w1.cell? ⟨w.heap.size+1,1,none⟩=some (.int .i64 x):=by rw[cell_of_row w1 _ 1 _ _ _ hN1];rfl
  have n2:w1.cell? ⟨w.heap.size+1,2,none⟩=some (.int .i64 ev):=by rw[cell_of_row w1 _ 2 _ _ _ hN1];rfl
  have T4:Hid (Ak w1 _ (E4 ⟨.slice aW nW cW,.slice (some ⟨gp,0,none⟩) b.AM.length cP,.slice (some ⟨gl,0,none⟩) b.AQ.length cL,.slice aN nN cQ,.slice aX nX cX,.slice aS nS cS,.slice aF nF cF,.slice (some ⟨gr,0,none⟩) b.rws.length cR⟩ rv) (E4 ⟨.slice aW nW cW,.slice (some ⟨gp,0,none⟩) b.AM.length cP,.slice (some ⟨gl,0,none⟩) b.AQ.length cL,.slice aN nN cQ,.slice aX nX cX,.slice aS nS cS,.slice aF nF cF,.slice (some ⟨gr,0,none⟩) b.rws.length cR⟩ rv)):=Lib.hid ((((Ak.refl w1 _).grown (Ad w1 gp p (.int .i64 x)) (fun g hg=>⟨.AM,trivial,hg⟩)).grown (Ad _ gl p (.int .i64 ev)) (fun g hg=>⟨.AQ,trivial,hg⟩)).keep (AC.refl _).drew);have H3:=Lib.hid ((H2.ZM (k:=p) (x:=ev) rfl).keep (AC.refl _).drew);have XB:=Lib.hid hB1;have XN:=Lib.hid hN1;clear dp fp dl fl H1 H2 hB1 hN1 lp1 ll2;go_region
  go_wp2;go_meet;case rel=>exact⟨H3.out,((Ak.refl w _).keep K1).trans T4.out,(T4.out.block _ (by omega) (YB.out _ (Nat.le_refl _))).trans XB.out,(T4.out.block _ (by omega) (YB.out _ (by omega))).trans XN.out,Nat.lt_of_lt_of_le (by omega) T4.out.size⟩
 case rest=>
  obtain⟨H3,T3,hB2,hN2,y2⟩:=hcut;obtain⟨xR,cR',eR',hR'⟩:=H3.hR;simp only[Value.slice.injEq,true_and] at eR';obtain⟨rfl,rfl⟩:=eR';rcases hR' with h0|⟨gr',er,lr2,dr⟩
  . exfalso;rw[h0] at hr;simp at hr
  simp only[Option.some.injEq,Addr.mk.injEq,and_true] at er;subst er;have d3:=dr p hr;have ow:A8 wc m (rv.getD p AE) Z:=by rw[hZ];exact H3.oR hr
  obtain⟨au,cu,hu⟩:∃a c,rv.getD p AE = .slice a Z.length c:=by obtain⟨a,c,e,_⟩:=ow.rd;exact⟨a,c,e⟩
  rw[hu] at d3;have hpr:p<rv.length:=by rw[H3.lr];exact hr
  have XH3:=Lib.hid H3;have YL:=Lib.hid T3;have XU:=Lib.hid hu;have XO:Hid (wc.ownsRow m 2 1 (.slice au Z.length cu) Z.length (Z.map (Value.int .i64))):=Lib.hid (by rw[<-hu];exact ow);have XB:=Lib.hid hB2;have XN:=Lib.hid hN2;have XD:=Lib.hid d3;clear H3 T3 hZ hu hB2 hN2 d3 ow dr HH;go_wp2_with fail
  refine Bk (by kernel_rfl) (fun listed a w3=>∃(B:Nat->Bool) (G:Nat) (x18 x19 x20 x21 x22 x23 x24 x25 x26 x27 x28 x29 x30 x31 x32:Value),listed=#[B 0,B 1,B 2,B 3,B 4,B 5,B 6,B 7,B 8,B 9,B 10,B 11,B 12,B 13,B 14,B 15]/\a=⟨#[.agg #[.slice aW nW cW,.slice (some ⟨gp,0,none⟩) b.AM.length cP,.slice (some ⟨gl,0,none⟩) b.AQ.length cL,.slice aN nN cQ,.slice aX nX cX,.slice aS nS cS,.slice aF nF cF,.slice (some ⟨gr,0,none⟩) b.rws.length cR],.agg #[.int .i64 (p:Int),.int .i64 x,.int .i64 ev],.pointer (some ⟨w.heap.size,0,none⟩),.pointer (some ⟨w.heap.size+1,0,none⟩),u4,u5,u6,u7,u8,u9,u10,u11,u12,u13,u14,u15,u16,u17,x18,x19,x20,x21,x22,x23,x24,x25,x26,x27,x28,x29,x30,x31,x32],[]⟩/\bJ w wc m b p x ev rv Z au cu gp gl gr aW aN aX aS aF nW nN nX nS nF cW cP cL cQ cX cS cF cR B G x18 x19 x20 x21 x22 x23 x24 x25 x26 x27 x28 x29 x30 x31 x32 w3) ?_ ?_ ?_
  . exact⟨fun _=>false,0,u18,u19,u20,u21,u22,u23,u24,u25,u26,u27,u28,u29,u30,u31,u32,rfl,rfl,⟨XB.out,XN.out,Nat.le_refl _,(fun _=>(AC.refl wc).drew),(fun q=>by cases q),(fun q=>by cases q),(fun q=>by cases q),(fun q=>by cases q),(fun q=>by cases q),(fun q=>by cases q),(fun q=>by cases q),(fun q=>by cases q),(fun q=>by cases q),(fun q=>by cases q),(fun q=>by cases q),(fun q=>by cases q),(fun q=>by cases q),(fun q=>by cases q),(fun q=>by cases q),(fun q=>by cases q),(fun q=>by cases q)⟩⟩
  ·
   rintro listed a w3 ⟨B,G,x18,x19,x20,x21,x22,x23,x24,x25,x26,x27,x28,x29,x30,x31,x32,rfl,rfl,h'⟩ i hi;have hlt:=(AG hi).1;have hcs:i=0\/i=1\/i=2\/i=3\/i=4\/i=5\/i=6\/i=7\/i=8\/i=9\/i=10\/i=11\/i=12\/i=13\/i=14\/i=15:=by simp at hlt;omega
   rcases hcs with rfl|rfl|rfl|rfl|rfl|rfl|rfl|rfl|rfl|rfl|rfl|rfl|rfl|rfl|rfl|rfl
   ·
    have hbi:B 0=false:=by simpa using (AG hi).2.1
    refine AJ rfl rfl (fun K hK=>?_);simp only[List.getElem_toArray,List.getElem_cons_zero];go_simp;refine hK.out _ _ ?_;exact⟨AY B 0,G,_,_,_,_,_,_,_,_,_,_,_,_,_,_,_,rfl,rfl,{ h' with F0:=(fun _=>rfl) }⟩
   ·
    have hbi:B 1=false:=by simpa using (AG hi).2.1
    have d0:B 0=true:=AK hi 0 rfl (by kernel_rfl);have dc:w3.cell? ⟨w.heap.size,7,none⟩=some (.slice (some ⟨gr,0,none⟩) b.rws.length cR):=by rw[cell_of_row w3 _ 7 _ _ _ h'.HB];rfl
    have Ex:=Lib.hid (h'.F0 d0);rw[Ex.out];refine AJ rfl rfl (fun K hK=>?_);simp only[List.getElem_toArray,List.getElem_cons_succ,List.getElem_cons_zero];go_simp;refine hK.out _ _ ?_;have ex:=Ex.out;subst ex;exact⟨AY B 1,G,_,_,_,_,_,_,_,_,_,_,_,_,_,_,_,rfl,rfl,{ h' with F1:=(fun _=>rfl) }⟩
   ·
    have hbi:B 2=false:=by simpa using (AG hi).2.1
    refine AJ rfl rfl (fun K hK=>?_);simp only[List.getElem_toArray,List.getElem_cons_succ,List.getElem_cons_zero];go_simp;refine hK.out _ _ ?_;exact⟨AY B 2,G,_,_,_,_,_,_,_,_,_,_,_,_,_,_,_,rfl,rfl,{ h' with F2:=(fun _=>rfl) }⟩
   ·
    have hbi:B 3=false:=by simpa using (AG hi).2.1
    have d2:B 2=true:=AK hi 2 rfl (by kernel_rfl);have dc:w3.cell? ⟨w.heap.size+1,0,none⟩=some (.int .i64 (p:Int)):=by rw[cell_of_row w3 _ 0 _ _ _ h'.HN];rfl
    have Ex:=Lib.hid (h'.F2 d2);rw[Ex.out];refine AJ rfl rfl (fun K hK=>?_);simp only[List.getElem_toArray,List.getElem_cons_succ,List.getElem_cons_zero];go_simp;refine hK.out _ _ ?_;have ex:=Ex.out;subst ex;exact⟨AY B 3,G,_,_,_,_,_,_,_,_,_,_,_,_,_,_,_,rfl,rfl,{ h' with F3:=(fun _=>rfl) }⟩
   ·
    have hbi:B 4=false:=by simpa using (AG hi).2.1
    refine AJ rfl rfl (fun K hK=>?_);simp only[List.getElem_toArray,List.getElem_cons_succ,List.getElem_cons_zero];go_simp;refine hK.out _ _ ?_;exact⟨AY B 4,G,_,_,_,_,_,_,_,_,_,_,_,_,_,_,_,rfl,rfl,{ h' with F4:=(fun _=>rfl) }⟩
   ·
    have hbi:B 5=false:=by simpa using (AG hi).2.1
    have d4:B 4=true:=AK hi 4 rfl (by kernel_rfl);have dc:w3.cell? ⟨w.heap.size,7,none⟩=some (.slice (some ⟨gr,0,none⟩) b.rws.length cR):=by rw[cell_of_row w3 _ 7 _ _ _ h'.HB];rfl
    have Ex:=Lib.hid (h'.F4 d4);rw[Ex.out];refine AJ rfl rfl (fun K hK=>?_);simp only[List.getElem_toArray,List.getElem_cons_succ,List.getElem_cons_zero];go_simp;refine hK.out _ _ ?_;have ex:=Ex.out;subst ex;exact⟨AY B 5,G,_,_,_,_,_,_,_,_,_,_,_,_,_,_,_,rfl,rfl,{ h' with F5:=(fun _=>rfl) }⟩
   ·
    have hbi:B 6=false:=by simpa using (AG hi).2.1
    refine AJ rfl rfl (fun K hK=>?_);simp only[List.getElem_toArray,List.getElem_cons_succ,List.getElem_cons_zero];go_simp;refine hK.out _ _ ?_;exact⟨AY B 6,G,_,_,_,_,_,_,_,_,_,_,_,_,_,_,_,rfl,rfl,{ h' with F6:=(fun _=>rfl) }⟩
   ·
    have hbi:B 7=false:=by simpa using (AG hi).2.1
    have d6:B 6=true:=AK hi 6 rfl (by kernel_rfl);have dc:w3.cell? ⟨w.heap.size+1,0,none⟩=some (.int .i64 (p:Int)):=by rw[cell_of_row w3 _ 0 _ _ _ h'.HN];rfl
    have Ex:=Lib.hid (h'.F6 d6);rw[Ex.out];refine AJ rfl rfl (fun K hK=>?_);simp only[List.getElem_toArray,List.getElem_cons_succ,List.getElem_cons_zero];go_simp;refine hK.out _ _ ?_;have ex:=Ex.out;subst ex;exact⟨AY B 7,G,_,_,_,_,_,_,_,_,_,_,_,_,_,_,_,rfl,rfl,{ h' with F7:=(fun _=>rfl) }⟩
   ·
    have hbi:B 8=false:=by simpa using (AG hi).2.1
    have d5:B 5=true:=AK hi 5 rfl (by kernel_rfl);have d7:B 7=true:=AK hi 7 rfl (by kernel_rfl);have Ex:=Lib.hid (h'.F5 d5);rw[Ex.out];have Ey:=Lib.hid (h'.F7 d7);rw[Ey.out];refine AJ rfl rfl (fun K hK=>?_);simp only[List.getElem_toArray,List.getElem_cons_succ,List.getElem_cons_zero];go_simp;refine hK.out _ _ ?_;have ex:=Ex.out;subst ex;have ey:=Ey.out;subst ey;exact⟨AY B 8,G,_,_,_,_,_,_,_,_,_,_,_,_,_,_,_,rfl,rfl,{ h' with F8:=(fun _=>rfl) }⟩
   ·
    have hbi:B 9=false:=by simpa using (AG hi).2.1
    have d8:B 8=true:=AK hi 8 rfl (by kernel_rfl)
    have hac:B 13=false:=by
     cases e:B 13 with
     |false=>rfl
     |true=>exact absurd (h'.F13 e).1.1 (by rw[hbi];simp)
    have dc:w3.cell? ⟨gr,p,none⟩=some (.slice au Z.length cu):=((h'.HO hac).cell lr2).trans XD.out;have Ex:=Lib.hid (h'.F8 d8);rw[Ex.out];refine AJ rfl rfl (fun K hK=>?_);simp only[List.getElem_toArray,List.getElem_cons_succ,List.getElem_cons_zero];go_simp;refine hK.out _ _ ?_;have ex:=Ex.out;subst ex;exact⟨AY B 9,G,_,_,_,_,_,_,_,_,_,_,_,_,_,_,_,rfl,rfl,{ h' with F13:=(fun q=>absurd (h'.F13 q).1.1 (by rw[hbi];simp)),P13:=(fun q=>absurd (h'.F13 q).1.1 (by rw[hbi];simp)),F15:=(fun q=>absurd (h'.F13 (h'.F15 q).1).1.1 (by rw[hbi];simp)),F9:=(fun _=>rfl) }⟩
   ·
    have hbi:B 10=false:=by simpa using (AG hi).2.1
    refine AJ rfl rfl (fun K hK=>?_);simp only[List.getElem_toArray,List.getElem_cons_succ,List.getElem_cons_zero];go_simp;refine hK.out _ _ ?_;exact⟨AY B 10,G,_,_,_,_,_,_,_,_,_,_,_,_,_,_,_,rfl,rfl,{ h' with F10:=(fun _=>rfl) }⟩
   ·
    have hbi:B 11=false:=by simpa using (AG hi).2.1
    have d10:B 10=true:=AK hi 10 rfl (by kernel_rfl);have dc:w3.cell? ⟨w.heap.size+1,2,none⟩=some (.int .i64 ev):=by rw[cell_of_row w3 _ 2 _ _ _ h'.HN];rfl
    have Ex:=Lib.hid (h'.F10 d10);rw[Ex.out];refine AJ rfl rfl (fun K hK=>?_);simp only[List.getElem_toArray,List.getElem_cons_succ,List.getElem_cons_zero];go_simp;refine hK.out _ _ ?_;have ex:=Ex.out;subst ex;exact⟨AY B 11,G,_,_,_,_,_,_,_,_,_,_,_,_,_,_,_,rfl,rfl,{ h' with F11:=(fun _=>rfl) }⟩
   ·
    have hbi:B 12=false:=by simpa using (AG hi).2.1
    have d11:B 11=true:=AK hi 11 rfl (by kernel_rfl)
    have hac:B 13=false:=by
     cases e:B 13 with
     |false=>rfl
     |true=>exact absurd (h'.F13 e).1.2 (by rw[hbi];simp)
    have KQ:=h'.HO hac;have sq:=KQ.size;have Ex:=Lib.hid (h'.F11 d11);rw[Ex.out];refine AJ rfl rfl (fun K hK=>?_);simp only[List.getElem_toArray,List.getElem_cons_succ,List.getElem_cons_zero];go_simp;refine hK.out _ _ ?_;have ex:=Ex.out;subst ex;exact⟨AY B 12,w3.heap.size,_,_,_,_,_,_,_,_,_,_,_,_,_,_,_,rfl,rfl,{ h' with F13:=(fun q=>absurd (h'.F13 q).1.2 (by rw[hbi];simp)),P13:=(fun q=>absurd (h'.F13 q).1.2 (by rw[hbi];simp)),F15:=(fun q=>absurd (h'.F13 (h'.F15 q).1).1.2 (by rw[hbi];simp)),HB:=(Below.block ((AC.refl w3).alloc _) w.heap.size (by omega)).trans h'.HB,HN:=(Below.block ((AC.refl w3).alloc _) (w.heap.size+1) (by omega)).trans h'.HN,HS:=Nat.le_trans h'.HS ((AC.refl w3).alloc _).size,HO:=(fun q=>(h'.HO q).alloc _),F12:=(fun _=>⟨rfl,fun _=>AS (AC.refl _) 0⟩) }⟩
   ·
    have hbi:B 13=false:=by simpa using (AG hi).2.1
    have d9:B 9=true:=AK hi 9 rfl (by kernel_rfl);have d12:B 12=true:=AK hi 12 rfl (by kernel_rfl);have KQ:=h'.HO hbi;have sq:=KQ.size;obtain⟨eG,cG⟩:=h'.F12 d12;have cG2:=cG hbi;have HR:=World.ownsRow.kept XO.out KQ.grownBy (by cases (Value.slice au Z.length cu).ownBlock<;>simp);have Ex:=Lib.hid (h'.F9 d9);rw[Ex.out];have Ey:=Lib.hid (eG);rw[Ey.out];refine AJ rfl rfl (fun K hK=>?_);simp only[List.getElem_toArray,List.getElem_cons_succ,List.getElem_cons_zero];clear eG;refine Dt _ _ 26 rfl m 2 i0 (.int .i64 0) 1 8 Tryz.underlying26 hii hz0 hz1 hz2 rfl (by decide) (.slice au Z.length cu) Z.length (Z.map (Value.int .i64)) rfl HR ⟨G,0,none⟩ 1 1 [.int .i64 ev] rfl rfl (fun j u hu=>?_) (fun u hu=>by simp at hu;subst hu;rfl) (by unfold maxLen;omega) (by omega) (by omega) ?_
    ·
     match j,hu with
     | 0,hu=>simp at hu;subst hu;simpa [Addr.add] using cG2
    intro vz wz oz gz bz;simp only[Act.put,List.setIfInBounds_toArray,List.set_cons_zero,List.set_cons_succ];refine hK.out _ _ ?_;have ex:=Ex.out;subst ex;have ey:=Ey.out;subst ey;have mg:∀q,w.heap.size<=q->q<wc.heap.size->wz.heap[q]? = w3.heap[q]?:=fun q h1 h2=>gz.block q (by omega) (fun e=>YB.out q h1 ⟨.rw p,hpr,by show (rv.getD p AE).ownBlock=_;rw[XU.out];exact e.symm⟩)
    obtain⟨P1,P2,P3⟩:=(XH3.out.keep KQ).Nd hr (u:=vz) (zs:=Z++[ev]) (by rw[XU.out];exact gz) (by rw[XU.out];rcases bz with e|e;exact .inl e;exact .inr (.inl e)) (Dp oz) rfl;obtain⟨a5,q5,hv5,-⟩:=(Dp oz).rd;rw[List.length_append,List.length_singleton] at hv5;have TQ:=(YL.out.keep KQ).grown gz (fun k hk=>⟨.rw p,hpr,by show (rv.getD p AE).ownBlock=_;rw[XU.out];exact hk⟩)
    have BQ:∀g,vz.ownBlock=some g->E4 ⟨.slice aW nW cW,.slice (some ⟨gp,0,none⟩) b.AM.length cP,.slice (some ⟨gl,0,none⟩) b.AQ.length cL,.slice aN nN cQ,.slice aX nX cX,.slice aS nS cS,.slice aF nF cF,.slice (some ⟨gr,0,none⟩) b.rws.length cR⟩ rv g\/w.heap.size<=g:=fun g hg=>by
     rcases bz with e|e
     . exact .inl ⟨.rw p,hpr,by show (rv.getD p AE).ownBlock=_;rw[XU.out,<-e];exact hg⟩
     ·
      rw[e] at hg;have:=Option.some.inj hg;right;omega
    exact⟨AY B 13,G,_,_,_,_,_,_,_,_,_,_,_,_,_,_,_,rfl,rfl,{ h' with HB:=(mg w.heap.size (by omega) (by omega)).trans h'.HB,HN:=(mg (w.heap.size+1) (by omega) (by omega)).trans h'.HN,HS:=Nat.le_trans h'.HS gz.size,HO:=(fun q=>by cases q),F12:=(fun _=>⟨rfl,fun q=>by cases q⟩),F13:=(fun _=>⟨⟨d9,d12⟩,a5,q5,hv5⟩),P13:=(fun _ _=>⟨P1,P2,P3,TQ,BQ⟩),F15:=(fun q=>absurd (h'.F15 q).1 (by rw[hbi];simp)) }⟩
   ·
    have hbi:B 14=false:=by simpa using (AG hi).2.1
    have d1:B 1=true:=AK hi 1 rfl (by kernel_rfl);have d3:B 3=true:=AK hi 3 rfl (by kernel_rfl);have Ex:=Lib.hid (h'.F1 d1);rw[Ex.out];have Ey:=Lib.hid (h'.F3 d3);rw[Ey.out];refine AJ rfl rfl (fun K hK=>?_);simp only[List.getElem_toArray,List.getElem_cons_succ,List.getElem_cons_zero];go_simp;refine hK.out _ _ ?_;have ex:=Ex.out;subst ex;have ey:=Ey.out;subst ey;exact⟨AY B 14,G,_,_,_,_,_,_,_,_,_,_,_,_,_,_,_,rfl,rfl,{ h' with F14:=(fun _=>rfl) }⟩
   ·
    have hbi:B 15=false:=by simpa using (AG hi).2.1
    have d13:B 13=true:=AK hi 13 rfl (by kernel_rfl);have d14:B 14=true:=AK hi 14 rfl (by kernel_rfl);obtain⟨P1,P2,P3,P4,P5⟩:=h'.P13 d13 hbi;obtain⟨-,a5,q5,e9⟩:=h'.F13 d13;have HP1:=Lib.hid P1;have gs:=Ad w3 gr p x31;have y9:∀q,w.heap.size<=q->gr≠q:=fun q hq e=>YB.out q hq ⟨.rws,trivial,by show some gr=_;rw[e]⟩
    clear P1;have Ex:=Lib.hid (h'.F14 d14);rw[Ex.out];have Ey:=Lib.hid (e9);rw[Ey.out];refine AJ rfl rfl (fun K hK=>?_);simp only[List.getElem_toArray,List.getElem_cons_succ,List.getElem_cons_zero];clear e9;go_simp;refine hK.out _ _ ?_;have ex:=Ex.out;subst ex;have ey:=Ey.out;subst ey;have P1:=HP1.out;exact⟨AY B 15,G,_,_,_,_,_,_,_,_,_,_,_,_,_,_,_,rfl,rfl,{ h' with HB:=(gs.block w.heap.size (by have:=h'.HS;omega) (fun e=>y9 _ (Nat.le_refl _) (Option.some.inj e).symm)).trans h'.HB,HN:=(gs.block (w.heap.size+1) (by have:=h'.HS;omega) (fun e=>y9 _ (by omega) (Option.some.inj e).symm)).trans h'.HN,HS:=Nat.le_trans h'.HS gs.size,HO:=(fun q=>GK d13 q),F12:=(fun q=>⟨(h'.F12 q).1,fun r=>GK d13 r⟩),P13:=(fun _ q=>by cases q),F15:=(fun _=>⟨d13,P1,(P4.grown gs (fun g hg=>⟨.rws,trivial,hg⟩)).more (fun g hg=>by rcases Tt hpr hg with q|q;exact .inl q;exact P5 g q)⟩) }⟩
  ·
   rintro listed a w3 ⟨B,G,x18,x19,x20,x21,x22,x23,x24,x25,x26,x27,x28,x29,x30,x31,x32,rfl,rfl,h'⟩ hr;have hall:=DV hr rfl (by kernel_rfl);have b15:B 15=true:=hall 15 (by simp);clear hall;obtain⟨HB,HN,HS,HO,F0,F1,F2,F3,F4,F5,F6,F7,F8,F9,F10,F11,F12,F13,P13,F14,F15⟩:=h';clear hr;obtain⟨-,Q2,Q3⟩:=F15 b15;have HQ2:=Lib.hid Q2;have HQ3:=Lib.hid Q3;clear Q2 Q3 HB HN HS HO F0 F1 F2 F3 F4 F5 F6 F7 F8 F9 F10 F11 F12 F13 P13 F14 F15;go_wp2;go_end0;exact⟨rfl,_,by rw[XZ.out];exact HQ2.out,HQ3.out⟩
abbrev Nm (p x l:Int):Obj:= .cells #[.int .i64 p,.int .i64 x,.int .i64 l] 44
theorem Jy:(Tryz.prog.info? 44).map (·.size)=some 3:=by kernel_rfl
abbrev Z4 (w:World)(B:Nat)(a0 a1 a2:Value):World:=((w.setCell ⟨B,0,none⟩ a0).setCell ⟨B,1,none⟩ a1).setCell ⟨B,2,none⟩ a2
theorem gZ {w:World}{B:Nat}{T:TypeId}{b0 b1 b2:Value}(h:w.heap[B]? = some (.cells #[b0,b1,b2] T))(a0 a1 a2:Value):
  (Z4 w B a0 a1 a2).heap[B]? = some (.cells #[a0,a1,a2] T):=by
 have h0:=heap_setCell_same w B 0 _ _ a0 h;have h1:=heap_setCell_same _ B 1 _ _ a1 h0;exact heap_setCell_same _ B 2 _ _ a2 h1
theorem WV {w wr:World}(h:AC w wr){g:Nat}(hg:w.heap.size<=g)(i:Nat)(x:Value):AC w (wr.setCell ⟨g,i,none⟩ x):=
 h.grown (row:=some g) ⟨rfl,rfl,rfl,by simp,fun k _ hk=>heap_setCell_other wr ⟨g,i,none⟩ k x (fun e=>hk (by simp[e]))⟩ (fun k hk=>by simp at hk;omega)
theorem WU {w wr:World}(h:AC w wr){g:Nat}(hg:w.heap.size<=g)(a0 a1 a2:Value):AC w (Z4 wr g a0 a1 a2):=WV (WV (WV h hg 0 a0) hg 1 a1) hg 2 a2
theorem Ma (w:World)(v:BV)(AA:List (List Dd))(b:Bd)(p:Nat)(h:CJ w v AA b)(hp:p<b.AM.length)(hq:p<b.AQ.length):
  Calls Tryz.prog 79 #[v.agg,.int .i64 p] w fun e w'=>e = .returned (.agg #[.int .i64 p,.int .i64 (b.AM.getD p 0),.int .i64 (b.AQ.getD p 0)])/\AC w w':=by
 obtain⟨aW,aP,aL,aN,aX,aS,aF,aR,cW,cP,cL,cN,cX,cS,cF,cR,rfl⟩:=h.shapes;obtain⟨w1,hw1⟩:∃W:World,W=(w.alloc (.cells #[.slice aW AA.length cW,.slice aP b.AM.length cP,.slice aL b.AQ.length cL,.slice aN b.AH.length cN,.slice aX b.AL.length cX,.slice aS b.sn.length cS,.slice aF b.fr.length cF,.slice aR b.rws.length cR] 30)).alloc (Nm 0 0 0):=⟨_,rfl⟩;have K1:AC w w1:=by rw[hw1];exact ((AC.refl w).alloc _).alloc _
 have s1:w1.heap.size=w.heap.size+2:=by rw[hw1,AD,AD]
 have hR1:w1.heap[w.heap.size+1]? = some (.cells #[.int .i64 0,.int .i64 0,.int .i64 0] 44 (0,0)):=by
  rw[hw1,<-AD w (.cells #[.slice aW AA.length cW,.slice aP b.AM.length cP,.slice aL b.AQ.length cL,.slice aN b.AH.length cN,.slice aX b.AL.length cX,.slice aS b.sn.length cS,.slice aF b.fr.length cF,.slice aR b.rws.length cR] 30)];exact heap_alloc_new _ _
 have hB1:w1.heap[w.heap.size]? = some (.cells #[.slice aW AA.length cW,.slice aP b.AM.length cP,.slice aL b.AQ.length cL,.slice aN b.AH.length cN,.slice aX b.AL.length cX,.slice aS b.sn.length cS,.slice aF b.fr.length cF,.slice aR b.rws.length cR] 30 (0,0)):=by rw[hw1];exact (Below.block ((AC.refl _).alloc _) _ (by rw[AD];omega)).trans (heap_alloc_new _ _)
 have h':=h.keep K1;obtain⟨a',c',he',hP⟩:=h'.P;simp only[Value.slice.injEq,true_and] at he';obtain⟨rfl,rfl⟩:=he';rcases hP with h0|⟨bp,op,rfl,hbp,hcp⟩
 . exfalso;rw[h0] at hp;simp at hp
 obtain⟨a',c',he',hL⟩:=h'.L;simp only[Value.slice.injEq,true_and] at he';obtain⟨rfl,rfl⟩:=he';rcases hL with h0|⟨bl,ol,rfl,hbl,hcl⟩
 . exfalso;rw[h0] at hq;simp at hq
 have d1:=hcp p hp;have d2:=hcl p hq;have f1:w1.cell? ⟨w.heap.size,1,none⟩=some (.slice (some ⟨bp,op,none⟩) b.AM.length cP):=by rw[cell_of_row w1 _ 1 _ _ _ hB1];rfl
 have f2:w1.cell? ⟨w.heap.size,2,none⟩=some (.slice (some ⟨bl,ol,none⟩) b.AQ.length cL):=by rw[cell_of_row w1 _ 2 _ _ _ hB1];rfl
 have g0:w1.cell? ⟨w.heap.size+1,0,none⟩=some (.int .i64 0):=by rw[cell_of_row w1 _ 0 _ _ _ hR1];rfl
 have g1:w1.cell? ⟨w.heap.size+1,1,none⟩=some (.int .i64 0):=by rw[cell_of_row w1 _ 1 _ _ _ hR1];rfl
 have g2:w1.cell? ⟨w.heap.size+1,2,none⟩=some (.int .i64 0):=by rw[cell_of_row w1 _ 2 _ _ _ hR1];rfl
 have hfr:=fun j=>frozen_of_row w1 (w.heap.size+1) j _ _ hR1
 have i1:(0:Int)<=(p:Int):=Int.natCast_nonneg _;have i2:(p:Int)<(b.AM.length:Int):=by omega
 have i3:(p:Int)<(b.AQ.length:Int):=by omega
 generalize b.AM.getD p 0=xp at *;generalize b.AQ.getD p 0=xl at *;have S:=fun (W:World) (e:W.heap=w1.heap)=>gZ (w:=W) (B:=w.heap.size+1) (by rw[e];exact hR1) (.int .i64 p) (.int .i64 xp) (.int .i64 xl)
 have HS:=Lib.hid S;clear S hcp hcl h h';go_enter Tryz.func79,Tryz.ntmps79
 go_upto_region 1 with fail
 rw[<-hw1];clear hw1 hB1 hR1;go_region
 go_wp2;refine bodyPost_ret (Ac (by rfl) _ _ (w.heap.size+1) _ _ _ _ rfl (HS.out w1 rfl) Tryz.underlying44 rfl Jy) rfl ?_;exact⟨rfl,(WU K1 (by omega) _ _ _).drew⟩
theorem Gm {w:World}{B:Nat}{T:TypeId}{a0 a1 a2:Value}(h:w.heap[B]? = some (.cells #[a0,a1,a2] T)):w.cell? ⟨B,0,none⟩=some a0/\w.cell? ⟨B,1,none⟩=some a1/\w.cell? ⟨B,2,none⟩=some a2/\∀j,w.frozen? ⟨B,j,none⟩=false:=
 ⟨by rw[cell_of_row w _ 0 _ _ _ h];rfl,by rw[cell_of_row w _ 1 _ _ _ h];rfl,by rw[cell_of_row w _ 2 _ _ _ h];rfl,fun j=>frozen_of_row w B j _ _ h⟩
theorem SY (w:World)(v:BV)(AA:List (List Dd))(b:Bd)(c p:Nat)(h:CJ w v AA b)(hc:c<b.AH.length)(hp:p<b.AM.length)(hq:p<b.AQ.length)(hz:Cg AA b):
  Calls Tryz.prog 43 #[v.agg,.int .i64 c,.int .i64 p] w fun e w'=>∃y:Nt,e = .returned (.agg #[.int .i64 y.1,.int .i64 y.2.1,.int .i64 y.2.2])/\y.2=C3 b c p/\AC w w':=by
 obtain⟨aW,aP,aL,aN,aX,aS,aF,aR,cW,cP,cL,cN,cX,cS,cF,cR,rfl⟩:=h.shapes;have CS:=fun (W:World) (kW:AC w W)=>Ma W _ AA b p (h.keep kW) hp hq
 have HA:=Lib.hid (Un b c p);have hzn:=hz.n2 c hc;obtain⟨w1,hw1⟩:∃W:World,W=(w.alloc (.cells #[.slice aW AA.length cW,.slice aP b.AM.length cP,.slice aL b.AQ.length cL,.slice aN b.AH.length cN,.slice aX b.AL.length cX,.slice aS b.sn.length cS,.slice aF b.fr.length cF,.slice aR b.rws.length cR] 30)).alloc (Nm 0 0 0):=⟨_,rfl⟩;have K1:AC w w1:=by rw[hw1];exact ((AC.refl w).alloc _).alloc _
 have s1:w1.heap.size=w.heap.size+2:=by rw[hw1,AD,AD]
 have hR1:w1.heap[w.heap.size+1]? = some (.cells #[.int .i64 0,.int .i64 0,.int .i64 0] 44 (0,0)):=by
  rw[hw1,<-AD w (.cells #[.slice aW AA.length cW,.slice aP b.AM.length cP,.slice aL b.AQ.length cL,.slice aN b.AH.length cN,.slice aX b.AL.length cX,.slice aS b.sn.length cS,.slice aF b.fr.length cF,.slice aR b.rws.length cR] 30)];exact heap_alloc_new _ _
 have hB1:w1.heap[w.heap.size]? = some (.cells #[.slice aW AA.length cW,.slice aP b.AM.length cP,.slice aL b.AQ.length cL,.slice aN b.AH.length cN,.slice aX b.AL.length cX,.slice aS b.sn.length cS,.slice aF b.fr.length cF,.slice aR b.rws.length cR] 30 (0,0)):=by rw[hw1];exact (Below.block ((AC.refl _).alloc _) _ (by rw[AD];omega)).trans (heap_alloc_new _ _)
 have h':=h.keep K1;obtain⟨a',c',he',hN⟩:=h'.N;simp only[Value.slice.injEq,true_and] at he';obtain⟨rfl,rfl⟩:=he';rcases hN with h0|⟨bn,on,rfl,hbn,hcn⟩
 . exfalso;rw[h0] at hc;simp at hc
 obtain⟨vn,d3,r3⟩:=hcn c hc;obtain⟨an,cn,rfl,r3⟩:=r3;clear hcn h h' hz;generalize b.AH.getD c []=ns at *;generalize b.AM.getD p 0=xp at *;generalize b.AQ.getD p 0=xl at *;generalize C3 b c p=ANS at *;have i1:(0:Int)<=(c:Int):=Int.natCast_nonneg _;have i2:(c:Int)<(b.AH.length:Int):=by omega
 go_enter Tryz.func43,Tryz.ntmps43
 go_upto_region 1 with fail
 rw[<-hw1];clear hw1;go_wp2_with (first|refine wpList_load_row rfl 30 _ rfl w.heap.size rfl 30 _ (0,0) _ hB1 Tryz.underlying30 rfl AF ?_|fail)
 refine (CS _ K1).mono ?_;rintro e w2 ⟨rfl,k2⟩;have K2:=K1.trans k2;have z2:=k2.size;have hB2:=(Below.block k2 w.heap.size (by omega)).trans hB1;have hR2:=(Below.block k2 (w.heap.size+1) (by omega)).trans hR1;obtain⟨w3,hw3⟩:∃W:World,W=w2.alloc (Nm p xp xl):=⟨_,rfl⟩;have k3:AC w2 w3:=by rw[hw3];exact (AC.refl w2).alloc _
 have z3:w3.heap.size=w2.heap.size+1:=by rw[hw3,AD]
 have hS3:w3.heap[w2.heap.size]? = some (.cells #[.int .i64 p,.int .i64 xp,.int .i64 xl] 44 (0,0)):=by rw[hw3];exact heap_alloc_new _ _
 have f3:w3.cell? ⟨w.heap.size,3,none⟩=some (.slice (some ⟨bn,on,none⟩) b.AH.length cN):=by rw[k3.cell (by omega),cell_of_row w2 _ 3 _ _ _ hB2];rfl
 have d4:=((k2.trans k3).cell hbn).trans d3;have hbn3:bn<w3.heap.size:=by omega
 clear hB1 hB2 hR1 CS d3;go_upto_region 2 with fail
 rw[<-hw3];clear hw3;go_wp2;go_loopw [19] (fun i wr=>∃k:Nat,∃y:Nt,k<=ns.length/\i = .int .i64 k/\Hid (y=KI ns (p:Int) ((p:Int),xp,xl) k)/\wr.heap[w2.heap.size]? = some (.cells #[.int .i64 y.1,.int .i64 y.2.1,.int .i64 y.2.2] 44 (0,0))/\AC w2 wr/\w2.heap.size<wr.heap.size) (fun i _=>ns.length-(intOf i).toNat)
 case atStart=>exact⟨0,((p:Int),xp,xl),Nat.zero_le _,rfl,Lib.hid rfl,hS3,k3,by omega⟩
 case round=>
  obtain⟨k,y,hk,rfl,hY,hS,hK,zr⟩:=hrel;by_cases hlt:k<ns.length
  ·
   rcases r3 with h|⟨bq,oq,rfl,hbq,hcq⟩
   . exfalso;rw[h] at hlt;simp at hlt
   obtain⟨g0,g1,g2⟩:=VT (hcq k _ (Gh hlt));have q0:=((k2.trans hK).cell hbq).trans g0;have q1:=((k2.trans hK).cell hbq).trans g1;have q2:=((k2.trans hK).cell hbq).trans g2;have HM:=Lib.hid (SZ ns (p:Int) ((p:Int),xp,xl) k hlt);have hbw:bq<wr.heap.size:=by have:=hK.size;omega
   have j1:(0:Int)<=(k:Int):=Int.natCast_nonneg _;have j2:(k:Int)<(ns.length:Int):=by omega
   clear hcq g0 g1 g2;change Hid (_=if (ns.getD k zN).1=_ then ns.getD k zN else _) at HM;generalize ns.getD k zN=x at *;obtain⟨x0,x1,x2⟩:=x;obtain⟨y0,y1,y2⟩:=y;simp only at q0 q1 q2 HM hS;obtain⟨w4,hw4⟩:∃W:World,W=wr.alloc (Nm x0 x1 x2):=⟨_,rfl⟩;have k4:AC wr w4:=by rw[hw4];exact (AC.refl wr).alloc _
   have z4:w4.heap.size=wr.heap.size+1:=by rw[hw4,AD]
   obtain⟨n0,n1,n2,-⟩:=Gm (w:=w4) (B:=wr.heap.size) (T:=44) (a0:= .int .i64 x0) (a1:= .int .i64 x1) (a2:= .int .i64 x2) (by rw[hw4];exact heap_alloc_new _ _);have hS4:=(Below.block k4 _ zr).trans hS;obtain⟨m0,m1,m2,hfr⟩:=Gm hS4;have S:=gZ hS4 (.int .i64 x0) (.int .i64 x1) (.int .i64 x2);have KS:=WU (hK.trans k4) (Nat.le_refl w2.heap.size) (.int .i64 x0) (.int .i64 x1) (.int .i64 x2);by_cases t:x0=(p:Int)
   ·
    have HE:Hid (KI ns (p:Int) ((p:Int),xp,xl) (k+1)=(x0,x1,x2)):=Lib.hid (by rw[HM.out,if_pos t]);subst t;go_upto_region 5 with fail
    rw[<-hw4];clear hw4 HM hY;go_wp2;go_roundw;case rel=>exact⟨k+1,((p:Int),x1,x2),by omega,by go_num,Lib.hid HE.out.symm,S,KS,by simp;omega⟩
    case measure=>simp[intOf];omega
   ·
    have HE:Hid (KI ns (p:Int) ((p:Int),xp,xl) (k+1)=(y0,y1,y2)):=Lib.hid (by rw[HM.out,if_neg t,<-hY.out]);have t':(x0==(p:Int))=false:=by simpa using t
    clear S KS;go_upto_region 5 with fail
    rw[<-hw4];clear hw4 HM hY t;go_wp2;go_roundw;case rel=>exact⟨k+1,(y0,y1,y2),by omega,by go_num,Lib.hid HE.out.symm,hS4,hK.trans k4,by omega⟩
    case measure=>simp[intOf];omega
  have HE:Hid (y.2=ANS):=Lib.hid (by rw[<-HA.out,hY.out,show k=ns.length by omega]);obtain rfl:k=ns.length:=by omega
  clear hY HA;obtain⟨y0,y1,y2⟩:=y;obtain⟨n0,n1,n2,-⟩:=Gm hS;have hR3:=(Below.block hK (w.heap.size+1) (by omega)).trans hR2;obtain⟨m0,m1,m2,hfr⟩:=Gm hR3;have S:=gZ hR3 (.int .i64 y0) (.int .i64 y1) (.int .i64 y2);have KS:=WU (K2.trans hK) (g:=w.heap.size+1) (by omega) (.int .i64 y0) (.int .i64 y1) (.int .i64 y2);simp only at n0 n1 n2;go_wp2;refine bodyPost_ret (Ac (by rfl) _ _ (w.heap.size+1) _ _ _ _ rfl S Tryz.underlying44 rfl Jy) rfl ?_;exact⟨y0,y1,y2,rfl,HE.out,KS⟩
end Go.Proofs.YtgakfkjjkobpiaaGreat
