/- Gathered texts. -/
import Derived.Test.YtgakfkjjkobpiaaMJ
import Derived.Deep.Cut
import Derived.Laws.Tables
import Derived.Deep.RegionLaw
import Derived.RegionTactic
import Derived.BigRegion
import Derived.Lib.Hide
set_option maxRecDepth 100000
set_option maxHeartbeats 8000000
namespace Go.Proofs.Ytgakfkjjkobpiaa
open Go.ChangeShapes Go.WideShapes Go.ChangeAt Go.RowKit
def cb0 (b:Bd):Bd:={ b with nts:=[],rws:=[] }
def gCB:BI→Option Nat
 | .bd=>some 19
 | .plc=>some 5
 | .lst=>some 8
 | .nxt=>some 11
 | .sn=>some 14
 | .fr=>some 17
 |_=>none
theorem gCB_inj:∀a b i,gCB a=some i→gCB b=some i→a=b:=by
 intro a b i h1 h2;unfold gCB at h1 h2;split at h1<;>split at h2<;>first|rfl|(simp only[Option.some.injEq] at h1 h2;omega)|(cases h2;done)|(cases h1;done)
theorem cb_own {w:World}{m D bs N:Nat}{B:Nat→Bool}{R:Nat→Rw}{dss:List (List Dd)}{b:Bd}{x8 x11 x14 x17 x20 x23:Value}(HM:Mk w m (liveM [5,8,11,14,17,19] B) R true x8 bs N dss)
  (b5:B 5=true) (b8:B 8=true) (b11:B 11=true) (b14:B 14=true) (b17:B 17=true) (b19:B 19=true)
  (r5:R 5=ivR b.plc x11) (r8:R 8=ivR b.lst x14) (r11:R 11=ivR b.nxt x17) (r14:R 14=ivR b.sn x20) (r17:R 17=ivR b.fr x23) (r19:R 19=bdR D ⟨x8,x11,x14,nilS,x17,x20,x23,nilS⟩):OwnBd w m D ⟨x8,x11,x14,nilS,x17,x20,x23,nilS⟩ [] [] bs N dss (cb0 b):=by
 have H1:∀a i,liveB [] [] a→gCB a=some i→liveM [5,8,11,14,17,19] B i∧famR D ⟨x8,x11,x14,nilS,x17,x20,x23,nilS⟩ [] [] (cb0 b) a=R i:=by
  intro a i _ hi;unfold gCB at hi;split at hi<;>simp at hi<;>subst hi
  · exact⟨⟨by decide,b19⟩,r19.symm⟩
  · exact⟨⟨by decide,b5⟩,r5.symm⟩
  · exact⟨⟨by decide,b8⟩,r8.symm⟩
  · exact⟨⟨by decide,b11⟩,r11.symm⟩
  · exact⟨⟨by decide,b14⟩,r14.symm⟩
  · exact⟨⟨by decide,b17⟩,r17.symm⟩
 have H2:∀a,liveB [] [] a→gCB a=none→(famR D ⟨x8,x11,x14,nilS,x17,x20,x23,nilS⟩ [] [] (cb0 b) a).own w m∧(famR D ⟨x8,x11,x14,nilS,x17,x20,x23,nilS⟩ [] [] (cb0 b) a).v.ownBlock=none:=by
  intro a ha hn
  match a,ha,hn with
  | .nts,_,_=>exact⟨own_none _ _ _ _,rfl⟩
  | .rws,_,_=>exact⟨own_none _ _ _ _,rfl⟩
  | .nt c,ha,_=>exact absurd (show c<0 from ha) (by omega)
  | .rw c,ha,_=>exact absurd (show c<0 from ha) (by omega)
 refine⟨HM.fam.via gCB gCB_inj H1 H2,rfl,rfl,(HM.work rfl).1,(HM.work rfl).2.1,fun a ha k hk=>?_⟩
 cases e:gCB a with
 |none=>rw[(H2 a ha e).2] at hk;cases hk
 |some i=>rw[(H1 a i ha e).2] at hk;exact HM.out rfl i (H1 a i ha e).1 k hk
structure CbOne (w:World)(w1:World)(dss:List (List Dd))(b:Bd)(aW:Option Addr)(aP:Option Addr)(aL:Option Addr)(aX:Option Addr)(aT:Option Addr)(aF:Option Addr)(cW:Nat)(cP:Nat)(cL:Nat)(cX:Nat)(cT:Nat)(cF:Nat)(B:Nat→Bool)(R:Nat→Rw)(bs:Nat)(N:Nat)(D:Nat)(x3 x6 x7 x8 x9 x10 x11 x12 x13 x14 x15 x16 x17 x18 x19 x20 x21 x22 x23 x24:Value)(w3:World):Prop where
 HM:Mk w3 w1.heap.size (liveM [5,8,11,14,17,19] B) R (B 2) x8 bs N dss
 HK:Keep w1 w3
 F0:B 0=true→x6 = .pointer (some ⟨w.heap.size,0,none⟩)
 F1:B 1=true→x7 = .slice aW dss.length cW
 F2:B 2=true→∃a c,x8 = .slice a dss.length c
 F3:B 3=true→x9 = .pointer (some ⟨w.heap.size,1,none⟩)
 F4:B 4=true→x10 = .slice aP b.plc.length cP
 F5:B 5=true→(∃a c,x11 = .slice a b.plc.length c)∧R 5=ivR b.plc x11
 F6:B 6=true→x12 = .pointer (some ⟨w.heap.size,2,none⟩)
 F7:B 7=true→x13 = .slice aL b.lst.length cL
 F8:B 8=true→(∃a c,x14 = .slice a b.lst.length c)∧R 8=ivR b.lst x14
 F9:B 9=true→x15 = .pointer (some ⟨w.heap.size,4,none⟩)
 F10:B 10=true→x16 = .slice aX b.nxt.length cX
 F11:B 11=true→(∃a c,x17 = .slice a b.nxt.length c)∧R 11=ivR b.nxt x17
 F12:B 12=true→x18 = .pointer (some ⟨w.heap.size,5,none⟩)
 F13:B 13=true→x19 = .slice aT b.sn.length cT
 F14:B 14=true→(∃a c,x20 = .slice a b.sn.length c)∧R 14=ivR b.sn x20
 F15:B 15=true→x21 = .pointer (some ⟨w.heap.size,6,none⟩)
 F16:B 16=true→x22 = .slice aF b.fr.length cF
 F17:B 17=true→(∃a c,x23 = .slice a b.fr.length c)∧R 17=ivR b.fr x23
 F18:B 18=true→(B 2=true∧B 5=true∧B 8=true∧B 11=true∧B 14=true∧B 17=true)∧x24 = .agg #[x8,x11,x14,nilS,x17,x20,x23,nilS]
 F19:B 19=true→x3 = .pointer (some ⟨D,0,none⟩)∧(R 19).v = .slice (some ⟨D,0,none⟩) 1 1∧(B 20=false→R 19=⟨29,8,.slice (some ⟨D,0,none⟩) 1 1,1,[nilS,nilS,nilS,nilS,nilS,nilS,nilS,nilS]⟩)
 F20:B 20=true→B 18=true∧B 19=true
 F21:B 20=true→R 19=bdR D ⟨x8,x11,x14,nilS,x17,x20,x23,nilS⟩
structure CbTwo (w:World)(w1:World)(wr:World)(D:Nat)(k:Nat)(aM:Option Addr)(cM:Nat)(bN:Nat)(oN:Nat)(cQ:Nat)(ai:Option Addr)(ci:Nat)(ns:List Nt)(b:Bd)(bw:BV)(nv:List Value)(bs:Nat)(N:Nat)(dss:List (List Dd))(B:Nat→Bool)(G:Nat)(x32 x33 x34 x35 x36 x37 x38 x39 x40 x41 x42 x43:Value)(w3:World):Prop where
 HK:B 10=false→Keep wr w3
 Ffa:B 0=true→x32 = .pointer (some ⟨D,3,none⟩)
 Fld:B 1=true→B 0=true∧x33 = .slice aM k cM
 Flit:B 2=true→∃g,x34 = .slice (some ⟨g,0,none⟩) 0 0
 Plit:B 2=true→B 8=false→AppT cN 66 3 w3 wr.heap.size x34 []
 Ffb:B 3=true→x35 = .pointer (some ⟨w.heap.size,3,none⟩)
 Flb:B 4=true→B 3=true∧x36 = .slice (some ⟨bN,oN,none⟩) b.nts.length cQ
 Fmv:B 5=true→x37 = .int .i64 (k:Int)
 Fix:B 6=true→(B 4=true∧B 5=true)∧x38 = .pointer (some ⟨bN,oN+k,none⟩)
 Fle:B 7=true→B 6=true∧x39 = .slice ai ns.length (ns.length+ci)
 Fap:B 8=true→(B 2=true∧B 7=true)∧∃a c,x40 = .slice a ns.length c
 Pap:B 8=true→B 10=false→AppT cN 66 3 w3 wr.heap.size x40 ns
 Fbs:B 9=true→B 8=true∧x41 = .slice (some ⟨G,0,none⟩) 1 1∧(B 10=false→w3.cell? ⟨G,0,none⟩=some x40)
 Fac:B 10=true→(∀j,j<10→B j=true)∧∃a c,x42 = .slice a (k+1) c
 Pac:B 10=true→B 12=false→OwnBd (w3.setCell ⟨D,3,none⟩ x42) w1.heap.size D { bw with N:=x42 } (nv++[x40]) [] bs N dss { cb0 b with nts:=b.nts.take (k+1) }∧w3.cell? ⟨D,3,none⟩=some bw.N∧w3.frozen? ⟨D,3,none⟩=false∧Keep w1 w3
 Ffc:B 11=true→x43 = .pointer (some ⟨D,3,none⟩)
 Fst:B 12=true→B 10=true∧OwnBd (w3) w1.heap.size D { bw with N:=x42 } (nv++[x40]) [] bs N dss { cb0 b with nts:=b.nts.take (k+1) }∧Keep w1 w3
structure CbThree (w:World)(w1:World)(wr:World)(D:Nat)(k:Nat)(aM:Option Addr)(cM:Nat)(bN:Nat)(oN:Nat)(cR:Nat)(ai:Option Addr)(ci:Nat)(zs:List Int)(b:Bd)(bw:BV)(nv:List Value)(rv:List Value)(bs:Nat)(N:Nat)(dss:List (List Dd))(B:Nat→Bool)(G:Nat)(x51 x52 x53 x54 x55 x56 x57 x58 x59 x60 x61:Value)(w3:World):Prop where
 HK:B 9=false→Keep wr w3
 Ffa:B 0=true→x51 = .pointer (some ⟨D,7,none⟩)
 Fld:B 1=true→B 0=true∧x52 = .slice aM k cM
 Ffb:B 2=true→x53 = .pointer (some ⟨w.heap.size,7,none⟩)
 Flb:B 3=true→B 2=true∧x54 = .slice (some ⟨bN,oN,none⟩) b.rws.length cR
 Fmv:B 4=true→x55 = .int .i64 (k:Int)
 Fix:B 5=true→(B 3=true∧B 4=true)∧x56 = .pointer (some ⟨bN,oN+k,none⟩)
 Fle:B 6=true→B 5=true∧x57 = .slice ai zs.length ci
 Fap:B 7=true→(B 6=true)∧∃a c,x58 = .slice a zs.length c
 Pap:B 7=true→B 9=false→Own w3 wr.heap.size x58 zs
 Fbs:B 8=true→B 7=true∧x59 = .slice (some ⟨G,0,none⟩) 1 1∧(B 9=false→w3.cell? ⟨G,0,none⟩=some x58)
 Fac:B 9=true→(∀j,j<9→B j=true)∧∃a c,x60 = .slice a (k+1) c
 Pac:B 9=true→B 11=false→OwnBd (w3.setCell ⟨D,7,none⟩ x60) w1.heap.size D { bw with R:=x60 } nv (rv++[x58]) bs N dss { cb0 b with nts:=b.nts,rws:=b.rws.take (k+1) }∧w3.cell? ⟨D,7,none⟩=some bw.R∧w3.frozen? ⟨D,7,none⟩=false∧Keep w1 w3
 Ffc:B 10=true→x61 = .pointer (some ⟨D,7,none⟩)
 Fst:B 11=true→B 9=true∧OwnBd (w3) w1.heap.size D { bw with R:=x60 } nv (rv++[x58]) bs N dss { cb0 b with nts:=b.nts,rws:=b.rws.take (k+1) }∧Keep w1 w3
theorem l14Copy_any (w:World)(bv:BV)(dss:List (List Dd))(b:Bd)(h:RdBd w bv dss b)(hb:boardB dss b=true):
  Calls Try.prog 35 #[bv.agg] w fun e w'=>∃bv' nv rv bs N,e = .returned (BV.agg bv')∧OwnVal w' w.heap.size bv' nv rv bs N dss b∧w.heap.size≤bs∧Keep w w':=by
 obtain⟨hwk,q1,q2,q3,q4,q5,q6,q7,q8,q9⟩:=board_all hb;obtain⟨u1,hll⟩:=work_small hwk;have HQ:=Lib.hid (show _∧_∧_∧_ from ⟨q3,q4,q8,q9⟩);have g1:b.plc.length≤1048576:=by omega
 have g2:b.lst.length≤1048576:=by omega
 have g3:b.nxt.length≤1048576:=by omega
 clear q1 q2 q3 q4 q5 q8 q9 hwk;obtain⟨aW,aP,aL,aN,aX,aT,aF,aR,cW,cP,cL,cQ,cX,cT,cF,cR,rfl⟩:=h.shapes;go_enter Try.func35,Try.ntmps35
 go_upto_region 1 with fail
 obtain⟨w1,hw1⟩:∃W:World,W=(w.alloc (.cells #[.slice aW dss.length cW,.slice aP b.plc.length cP,.slice aL b.lst.length cL,.slice aN b.nts.length cQ,.slice aX b.nxt.length cX,.slice aT b.sn.length cT,.slice aF b.fr.length cF,.slice aR b.rws.length cR] 29)).alloc (.cells #[nilS,nilS,nilS,nilS,nilS,nilS,nilS,nilS] 29):=⟨_,rfl⟩;have K1:Keep w w1:=by rw[hw1];exact ((Keep.refl w).alloc _).alloc _
 have s1:w1.heap.size=w.heap.size+1+1:=by rw[hw1,heap_size,heap_size]
 have hB1:w1.heap[w.heap.size]? = some (.cells #[.slice aW dss.length cW,.slice aP b.plc.length cP,.slice aL b.lst.length cL,.slice aN b.nts.length cQ,.slice aX b.nxt.length cX,.slice aT b.sn.length cT,.slice aF b.fr.length cF,.slice aR b.rws.length cR] 29 (0,0)):=by rw[hw1];exact box_heap ((Keep.refl _).alloc _)
 have hR1:w1.heap[w.heap.size+1]? = some (.cells #[nilS,nilS,nilS,nilS,nilS,nilS,nilS,nilS] 29 (0,0)):=by rw[hw1,←heap_size w (.cells #[.slice aW dss.length cW,.slice aP b.plc.length cP,.slice aL b.lst.length cL,.slice aN b.nts.length cQ,.slice aX b.nxt.length cX,.slice aT b.sn.length cT,.slice aF b.fr.length cF,.slice aR b.rws.length cR] 29)];exact heap_alloc_new _ _
 rw[←hw1];clear hw1;have CC:Hid (∀k u,(#[.slice aW dss.length cW,.slice aP b.plc.length cP,.slice aL b.lst.length cL,.slice aN b.nts.length cQ,.slice aX b.nxt.length cX,.slice aT b.sn.length cT,.slice aF b.fr.length cF,.slice aR b.rws.length cR]:Array Value)[k]? = some u→w1.cell? ⟨w.heap.size,k,none⟩=some u):=Lib.hid (fun k u hk=>by rw[cell_of_row w1 _ k _ _ _ hB1];exact hk);have S1:=Lib.hid s1;have s2:w.heap.size+1<w1.heap.size:=by omega
 clear s1;go_cut [3] from 6 (fun s3 wx=>∃D bv' bs N,s3 = .pointer (some ⟨D,0,none⟩)∧OwnBd wx w1.heap.size D bv' [] [] bs N dss (cb0 b)∧w1.heap.size≤bs∧Keep w1 wx)
 case first=>
  refine wp_region_inv (by kernel_rfl) (fun listed a w3=>∃(B:Nat→Bool) (R:Nat→Rw) (bs:Nat) (N:Nat) (D:Nat) (x3 x6 x7 x8 x9 x10 x11 x12 x13 x14 x15 x16 x17 x18 x19 x20 x21 x22 x23 x24:Value),listed=#[B 0,B 1,B 2,B 3,B 4,B 5,B 6,B 7,B 8,B 9,B 10,B 11,B 12,B 13,B 14,B 15,B 16,B 17,B 18,B 19,B 20]∧a=⟨#[.agg #[.slice aW dss.length cW,.slice aP b.plc.length cP,.slice aL b.lst.length cL,.slice aN b.nts.length cQ,.slice aX b.nxt.length cX,.slice aT b.sn.length cT,.slice aF b.fr.length cF,.slice aR b.rws.length cR],.pointer (some ⟨w.heap.size,0,none⟩),.pointer (some ⟨w.heap.size+1,0,none⟩),x3,undef,undef,x6,x7,x8,x9,x10,x11,x12,x13,x14,x15,x16,x17,x18,x19,x20,x21,x22,x23,x24,undef,undef,undef,undef,undef,undef,undef,undef,undef,undef,undef,undef,undef,undef,undef,undef,undef,undef,undef,undef,undef,undef,undef,undef,undef,undef,undef,undef,undef,undef,undef,undef,undef,undef,undef,undef,undef,undef],[]⟩∧CbOne w w1 dss b aW aP aL aX aT aF cW cP cL cX cT cF B R bs N D x3 x6 x7 x8 x9 x10 x11 x12 x13 x14 x15 x16 x17 x18 x19 x20 x21 x22 x23 x24 w3) ?_ ?_ ?_
  · exact⟨fun _=>false,fun _=>⟨0,0,nilS,0,[]⟩,0,0,0,undef,undef,undef,undef,undef,undef,undef,undef,undef,undef,undef,undef,undef,undef,undef,undef,undef,undef,undef,undef,rfl,rfl,⟨Mk.start _ _ _ _ _ _ _ _,(Keep.refl w1).drew,(fun q=>by cases q),(fun q=>by cases q),(fun q=>by cases q),(fun q=>by cases q),(fun q=>by cases q),(fun q=>by cases q),(fun q=>by cases q),(fun q=>by cases q),(fun q=>by cases q),(fun q=>by cases q),(fun q=>by cases q),(fun q=>by cases q),(fun q=>by cases q),(fun q=>by cases q),(fun q=>by cases q),(fun q=>by cases q),(fun q=>by cases q),(fun q=>by cases q),(fun q=>by cases q),(fun q=>by cases q),(fun q=>by cases q),(fun q=>by cases q)⟩⟩
  ·
   rintro listed a w3 ⟨B,R,bs,N,D,x3,x6,x7,x8,x9,x10,x11,x12,x13,x14,x15,x16,x17,x18,x19,x20,x21,x22,x23,x24,rfl,rfl,h'⟩ i hi;have hlt:=(ready_use hi).1;have hcs:i=0∨i=1∨i=2∨i=3∨i=4∨i=5∨i=6∨i=7∨i=8∨i=9∨i=10∨i=11∨i=12∨i=13∨i=14∨i=15∨i=16∨i=17∨i=18∨i=19∨i=20:=by simp at hlt;omega
   rcases hcs with rfl|rfl|rfl|rfl|rfl|rfl|rfl|rfl|rfl|rfl|rfl|rfl|rfl|rfl|rfl|rfl|rfl|rfl|rfl|rfl|rfl
   ·
    have hbi:B 0=false:=by simpa using (ready_use hi).2.1
    refine wpOp_law rfl rfl (fun K hK=>?_);simp only[List.getElem_toArray,List.getElem_cons_zero];go_simp;refine hK.out _ _ ?_;exact⟨updB B 0,R,bs,N,D,_,_,_,_,_,_,_,_,_,_,_,_,_,_,_,_,_,_,_,_,rfl,rfl,{ h' with F0:=(fun _=>rfl),HM:=h'.HM.pass (by decide) }⟩
   ·
    have hbi:B 1=false:=by simpa using (ready_use hi).2.1
    have d0:B 0=true:=ready_dep hi 0 rfl (by kernel_rfl);have dc:w3.cell? ⟨w.heap.size,0,none⟩=some (.slice aW dss.length cW):=(h'.HK.cell (by omega)).trans (CC.out 0 _ rfl);have Ex:=Lib.hid (h'.F0 d0);rw[Ex.out];refine wpOp_law rfl rfl (fun K hK=>?_);simp only[List.getElem_toArray,List.getElem_cons_succ,List.getElem_cons_zero];go_simp;refine hK.out _ _ ?_;have ex:=Ex.out;subst ex;exact⟨updB B 1,R,bs,N,D,_,_,_,_,_,_,_,_,_,_,_,_,_,_,_,_,_,_,_,_,rfl,rfl,{ h' with F1:=(fun _=>rfl),HM:=h'.HM.pass (by decide) }⟩
   ·
    have hbi:B 2=false:=by simpa using (ready_use hi).2.1
    have d1:B 1=true:=ready_dep hi 1 rfl (by kernel_rfl);have hsz:=h'.HK.size;have Ex:=Lib.hid (h'.F1 d1);rw[Ex.out];refine wpOp_law rfl rfl (fun K hK=>?_);simp only[List.getElem_toArray,List.getElem_cons_succ,List.getElem_cons_zero];go_simp;refine (l5Copy_any _ _ _ (h.W.keep (K1.trans h'.HK)) (by omega) hll).mono ?_;rintro e wz ⟨vz,rfl,hx,kk⟩;go_wp2_with fail
    refine hK.out _ _ ?_;have ex:=Ex.out;subst ex;have HM:=h'.HM;rw[hbi] at HM;obtain⟨az,cz,ez,-⟩:=id hx;exact⟨updB B 2,R,_,_,D,_,_,_,_,_,_,_,_,_,_,_,_,_,_,_,_,_,_,_,_,rfl,rfl,{ h' with F18:=(fun q=>absurd (h'.F18 q).1.1 (by rw[hbi];simp)),F21:=(fun q=>absurd (h'.F18 (h'.F20 q).1).1.1 (by rw[hbi];simp)),F2:=(fun _=>⟨az,cz,ez⟩),HM:=HM.copied (by decide) kk hx hsz,HK:=h'.HK.trans kk }⟩
   ·
    have hbi:B 3=false:=by simpa using (ready_use hi).2.1
    refine wpOp_law rfl rfl (fun K hK=>?_);simp only[List.getElem_toArray,List.getElem_cons_succ,List.getElem_cons_zero];go_simp;refine hK.out _ _ ?_;exact⟨updB B 3,R,bs,N,D,_,_,_,_,_,_,_,_,_,_,_,_,_,_,_,_,_,_,_,_,rfl,rfl,{ h' with F3:=(fun _=>rfl),HM:=h'.HM.pass (by decide) }⟩
   ·
    have hbi:B 4=false:=by simpa using (ready_use hi).2.1
    have d3:B 3=true:=ready_dep hi 3 rfl (by kernel_rfl);have dc:w3.cell? ⟨w.heap.size,1,none⟩=some (.slice aP b.plc.length cP):=(h'.HK.cell (by omega)).trans (CC.out 1 _ rfl);have Ex:=Lib.hid (h'.F3 d3);rw[Ex.out];refine wpOp_law rfl rfl (fun K hK=>?_);simp only[List.getElem_toArray,List.getElem_cons_succ,List.getElem_cons_zero];go_simp;refine hK.out _ _ ?_;have ex:=Ex.out;subst ex;exact⟨updB B 4,R,bs,N,D,_,_,_,_,_,_,_,_,_,_,_,_,_,_,_,_,_,_,_,_,rfl,rfl,{ h' with F4:=(fun _=>rfl),HM:=h'.HM.pass (by decide) }⟩
   ·
    have hbi:B 5=false:=by simpa using (ready_use hi).2.1
    have d4:B 4=true:=ready_dep hi 4 rfl (by kernel_rfl);have hsz:=h'.HK.size;have Ex:=Lib.hid (h'.F4 d4);rw[Ex.out];refine wpOp_law rfl rfl (fun K hK=>?_);simp only[List.getElem_toArray,List.getElem_cons_succ,List.getElem_cons_zero];go_simp;refine (l1Copy_rd _ _ _ (h.P.keep (K1.trans h'.HK)) (by omega)).mono ?_;rintro e wz ⟨vz,rfl,oz,kk⟩;go_wp2_with fail
    refine hK.out _ _ ?_;have ex:=Ex.out;subst ex;obtain⟨az,cz,ez,-⟩:=oz.rd;exact⟨updB B 5,_,bs,N,D,_,_,_,_,_,_,_,_,_,_,_,_,_,_,_,_,_,_,_,_,rfl,rfl,{ h' with F18:=(fun q=>absurd (h'.F18 q).1.2.1 (by rw[hbi];simp)),F21:=(fun q=>absurd (h'.F18 (h'.F20 q).1).1.2.1 (by rw[hbi];simp)),F5:=(fun _=>⟨⟨az,cz,ez⟩,rfl⟩),HM:=h'.HM.add hbi kk (show (ivR b.plc vz).own wz w1.heap.size from oz.base_le hsz) (fun q hq=>oz.ge q hq),HK:=h'.HK.trans kk }⟩
   ·
    have hbi:B 6=false:=by simpa using (ready_use hi).2.1
    refine wpOp_law rfl rfl (fun K hK=>?_);simp only[List.getElem_toArray,List.getElem_cons_succ,List.getElem_cons_zero];go_simp;refine hK.out _ _ ?_;exact⟨updB B 6,R,bs,N,D,_,_,_,_,_,_,_,_,_,_,_,_,_,_,_,_,_,_,_,_,rfl,rfl,{ h' with F6:=(fun _=>rfl),HM:=h'.HM.pass (by decide) }⟩
   ·
    have hbi:B 7=false:=by simpa using (ready_use hi).2.1
    have d6:B 6=true:=ready_dep hi 6 rfl (by kernel_rfl);have dc:w3.cell? ⟨w.heap.size,2,none⟩=some (.slice aL b.lst.length cL):=(h'.HK.cell (by omega)).trans (CC.out 2 _ rfl);have Ex:=Lib.hid (h'.F6 d6);rw[Ex.out];refine wpOp_law rfl rfl (fun K hK=>?_);simp only[List.getElem_toArray,List.getElem_cons_succ,List.getElem_cons_zero];go_simp;refine hK.out _ _ ?_;have ex:=Ex.out;subst ex;exact⟨updB B 7,R,bs,N,D,_,_,_,_,_,_,_,_,_,_,_,_,_,_,_,_,_,_,_,_,rfl,rfl,{ h' with F7:=(fun _=>rfl),HM:=h'.HM.pass (by decide) }⟩
   ·
    have hbi:B 8=false:=by simpa using (ready_use hi).2.1
    have d7:B 7=true:=ready_dep hi 7 rfl (by kernel_rfl);have hsz:=h'.HK.size;have Ex:=Lib.hid (h'.F7 d7);rw[Ex.out];refine wpOp_law rfl rfl (fun K hK=>?_);simp only[List.getElem_toArray,List.getElem_cons_succ,List.getElem_cons_zero];go_simp;refine (l1Copy_rd _ _ _ (h.L.keep (K1.trans h'.HK)) (by omega)).mono ?_;rintro e wz ⟨vz,rfl,oz,kk⟩;go_wp2_with fail
    refine hK.out _ _ ?_;have ex:=Ex.out;subst ex;obtain⟨az,cz,ez,-⟩:=oz.rd;exact⟨updB B 8,_,bs,N,D,_,_,_,_,_,_,_,_,_,_,_,_,_,_,_,_,_,_,_,_,rfl,rfl,{ h' with F18:=(fun q=>absurd (h'.F18 q).1.2.2.1 (by rw[hbi];simp)),F21:=(fun q=>absurd (h'.F18 (h'.F20 q).1).1.2.2.1 (by rw[hbi];simp)),F8:=(fun _=>⟨⟨az,cz,ez⟩,rfl⟩),HM:=h'.HM.add hbi kk (show (ivR b.lst vz).own wz w1.heap.size from oz.base_le hsz) (fun q hq=>oz.ge q hq),HK:=h'.HK.trans kk }⟩
   ·
    have hbi:B 9=false:=by simpa using (ready_use hi).2.1
    refine wpOp_law rfl rfl (fun K hK=>?_);simp only[List.getElem_toArray,List.getElem_cons_succ,List.getElem_cons_zero];go_simp;refine hK.out _ _ ?_;exact⟨updB B 9,R,bs,N,D,_,_,_,_,_,_,_,_,_,_,_,_,_,_,_,_,_,_,_,_,rfl,rfl,{ h' with F9:=(fun _=>rfl),HM:=h'.HM.pass (by decide) }⟩
   ·
    have hbi:B 10=false:=by simpa using (ready_use hi).2.1
    have d9:B 9=true:=ready_dep hi 9 rfl (by kernel_rfl);have dc:w3.cell? ⟨w.heap.size,4,none⟩=some (.slice aX b.nxt.length cX):=(h'.HK.cell (by omega)).trans (CC.out 4 _ rfl);have Ex:=Lib.hid (h'.F9 d9);rw[Ex.out];refine wpOp_law rfl rfl (fun K hK=>?_);simp only[List.getElem_toArray,List.getElem_cons_succ,List.getElem_cons_zero];go_simp;refine hK.out _ _ ?_;have ex:=Ex.out;subst ex;exact⟨updB B 10,R,bs,N,D,_,_,_,_,_,_,_,_,_,_,_,_,_,_,_,_,_,_,_,_,rfl,rfl,{ h' with F10:=(fun _=>rfl),HM:=h'.HM.pass (by decide) }⟩
   ·
    have hbi:B 11=false:=by simpa using (ready_use hi).2.1
    have d10:B 10=true:=ready_dep hi 10 rfl (by kernel_rfl);have hsz:=h'.HK.size;have Ex:=Lib.hid (h'.F10 d10);rw[Ex.out];refine wpOp_law rfl rfl (fun K hK=>?_);simp only[List.getElem_toArray,List.getElem_cons_succ,List.getElem_cons_zero];go_simp;refine (l1Copy_rd _ _ _ (h.X.keep (K1.trans h'.HK)) (by omega)).mono ?_;rintro e wz ⟨vz,rfl,oz,kk⟩;go_wp2_with fail
    refine hK.out _ _ ?_;have ex:=Ex.out;subst ex;obtain⟨az,cz,ez,-⟩:=oz.rd;exact⟨updB B 11,_,bs,N,D,_,_,_,_,_,_,_,_,_,_,_,_,_,_,_,_,_,_,_,_,rfl,rfl,{ h' with F18:=(fun q=>absurd (h'.F18 q).1.2.2.2.1 (by rw[hbi];simp)),F21:=(fun q=>absurd (h'.F18 (h'.F20 q).1).1.2.2.2.1 (by rw[hbi];simp)),F11:=(fun _=>⟨⟨az,cz,ez⟩,rfl⟩),HM:=h'.HM.add hbi kk (show (ivR b.nxt vz).own wz w1.heap.size from oz.base_le hsz) (fun q hq=>oz.ge q hq),HK:=h'.HK.trans kk }⟩
   ·
    have hbi:B 12=false:=by simpa using (ready_use hi).2.1
    refine wpOp_law rfl rfl (fun K hK=>?_);simp only[List.getElem_toArray,List.getElem_cons_succ,List.getElem_cons_zero];go_simp;refine hK.out _ _ ?_;exact⟨updB B 12,R,bs,N,D,_,_,_,_,_,_,_,_,_,_,_,_,_,_,_,_,_,_,_,_,rfl,rfl,{ h' with F12:=(fun _=>rfl),HM:=h'.HM.pass (by decide) }⟩
   ·
    have hbi:B 13=false:=by simpa using (ready_use hi).2.1
    have d12:B 12=true:=ready_dep hi 12 rfl (by kernel_rfl);have dc:w3.cell? ⟨w.heap.size,5,none⟩=some (.slice aT b.sn.length cT):=(h'.HK.cell (by omega)).trans (CC.out 5 _ rfl);have Ex:=Lib.hid (h'.F12 d12);rw[Ex.out];refine wpOp_law rfl rfl (fun K hK=>?_);simp only[List.getElem_toArray,List.getElem_cons_succ,List.getElem_cons_zero];go_simp;refine hK.out _ _ ?_;have ex:=Ex.out;subst ex;exact⟨updB B 13,R,bs,N,D,_,_,_,_,_,_,_,_,_,_,_,_,_,_,_,_,_,_,_,_,rfl,rfl,{ h' with F13:=(fun _=>rfl),HM:=h'.HM.pass (by decide) }⟩
   ·
    have hbi:B 14=false:=by simpa using (ready_use hi).2.1
    have d13:B 13=true:=ready_dep hi 13 rfl (by kernel_rfl);have hsz:=h'.HK.size;have Ex:=Lib.hid (h'.F13 d13);rw[Ex.out];refine wpOp_law rfl rfl (fun K hK=>?_);simp only[List.getElem_toArray,List.getElem_cons_succ,List.getElem_cons_zero];go_simp;refine (l1Copy_rd _ _ _ (h.S.keep (K1.trans h'.HK)) (by omega)).mono ?_;rintro e wz ⟨vz,rfl,oz,kk⟩;go_wp2_with fail
    refine hK.out _ _ ?_;have ex:=Ex.out;subst ex;obtain⟨az,cz,ez,-⟩:=oz.rd;exact⟨updB B 14,_,bs,N,D,_,_,_,_,_,_,_,_,_,_,_,_,_,_,_,_,_,_,_,_,rfl,rfl,{ h' with F18:=(fun q=>absurd (h'.F18 q).1.2.2.2.2.1 (by rw[hbi];simp)),F21:=(fun q=>absurd (h'.F18 (h'.F20 q).1).1.2.2.2.2.1 (by rw[hbi];simp)),F14:=(fun _=>⟨⟨az,cz,ez⟩,rfl⟩),HM:=h'.HM.add hbi kk (show (ivR b.sn vz).own wz w1.heap.size from oz.base_le hsz) (fun q hq=>oz.ge q hq),HK:=h'.HK.trans kk }⟩
   ·
    have hbi:B 15=false:=by simpa using (ready_use hi).2.1
    refine wpOp_law rfl rfl (fun K hK=>?_);simp only[List.getElem_toArray,List.getElem_cons_succ,List.getElem_cons_zero];go_simp;refine hK.out _ _ ?_;exact⟨updB B 15,R,bs,N,D,_,_,_,_,_,_,_,_,_,_,_,_,_,_,_,_,_,_,_,_,rfl,rfl,{ h' with F15:=(fun _=>rfl),HM:=h'.HM.pass (by decide) }⟩
   ·
    have hbi:B 16=false:=by simpa using (ready_use hi).2.1
    have d15:B 15=true:=ready_dep hi 15 rfl (by kernel_rfl);have dc:w3.cell? ⟨w.heap.size,6,none⟩=some (.slice aF b.fr.length cF):=(h'.HK.cell (by omega)).trans (CC.out 6 _ rfl);have Ex:=Lib.hid (h'.F15 d15);rw[Ex.out];refine wpOp_law rfl rfl (fun K hK=>?_);simp only[List.getElem_toArray,List.getElem_cons_succ,List.getElem_cons_zero];go_simp;refine hK.out _ _ ?_;have ex:=Ex.out;subst ex;exact⟨updB B 16,R,bs,N,D,_,_,_,_,_,_,_,_,_,_,_,_,_,_,_,_,_,_,_,_,rfl,rfl,{ h' with F16:=(fun _=>rfl),HM:=h'.HM.pass (by decide) }⟩
   ·
    have hbi:B 17=false:=by simpa using (ready_use hi).2.1
    have d16:B 16=true:=ready_dep hi 16 rfl (by kernel_rfl);have hsz:=h'.HK.size;have Ex:=Lib.hid (h'.F16 d16);rw[Ex.out];refine wpOp_law rfl rfl (fun K hK=>?_);simp only[List.getElem_toArray,List.getElem_cons_succ,List.getElem_cons_zero];go_simp;refine (l1Copy_rd _ _ _ (h.F.keep (K1.trans h'.HK)) (by omega)).mono ?_;rintro e wz ⟨vz,rfl,oz,kk⟩;go_wp2_with fail
    refine hK.out _ _ ?_;have ex:=Ex.out;subst ex;obtain⟨az,cz,ez,-⟩:=oz.rd;exact⟨updB B 17,_,bs,N,D,_,_,_,_,_,_,_,_,_,_,_,_,_,_,_,_,_,_,_,_,rfl,rfl,{ h' with F18:=(fun q=>absurd (h'.F18 q).1.2.2.2.2.2 (by rw[hbi];simp)),F21:=(fun q=>absurd (h'.F18 (h'.F20 q).1).1.2.2.2.2.2 (by rw[hbi];simp)),F17:=(fun _=>⟨⟨az,cz,ez⟩,rfl⟩),HM:=h'.HM.add hbi kk (show (ivR b.fr vz).own wz w1.heap.size from oz.base_le hsz) (fun q hq=>oz.ge q hq),HK:=h'.HK.trans kk }⟩
   ·
    have hbi:B 18=false:=by simpa using (ready_use hi).2.1
    have d2:B 2=true:=ready_dep hi 2 rfl (by kernel_rfl);have d5:B 5=true:=ready_dep hi 5 rfl (by kernel_rfl);have d8:B 8=true:=ready_dep hi 8 rfl (by kernel_rfl);have d11:B 11=true:=ready_dep hi 11 rfl (by kernel_rfl);have d14:B 14=true:=ready_dep hi 14 rfl (by kernel_rfl);have d17:B 17=true:=ready_dep hi 17 rfl (by kernel_rfl);obtain⟨a1,c1,e1⟩:=h'.F2 d2;obtain⟨⟨a5,c5,e5⟩,-⟩:=h'.F5 d5;obtain⟨⟨a8,c8,e8⟩,-⟩:=h'.F8 d8;obtain⟨⟨a11,c11,e11⟩,-⟩:=h'.F11 d11;obtain⟨⟨a14,c14,e14⟩,-⟩:=h'.F14 d14;obtain⟨⟨a17,c17,e17⟩,-⟩:=h'.F17 d17;have Ep1:=Lib.hid (e1);rw[Ep1.out];have Ep5:=Lib.hid (e5);rw[Ep5.out];have Ep8:=Lib.hid (e8);rw[Ep8.out];have Ep11:=Lib.hid (e11);rw[Ep11.out];have Ep14:=Lib.hid (e14);rw[Ep14.out];have Ep17:=Lib.hid (e17);rw[Ep17.out];refine wpOp_law rfl rfl (fun K hK=>?_);simp only[List.getElem_toArray,List.getElem_cons_succ,List.getElem_cons_zero];clear e1 e5 e8 e11 e14 e17;go_simp;refine hK.out _ _ ?_;have ep1:=Ep1.out;subst ep1;have ep5:=Ep5.out;subst ep5;have ep8:=Ep8.out;subst ep8;have ep11:=Ep11.out;subst ep11;have ep14:=Ep14.out;subst ep14;have ep17:=Ep17.out;subst ep17;exact⟨updB B 18,R,bs,N,D,_,_,_,_,_,_,_,_,_,_,_,_,_,_,_,_,_,_,_,_,rfl,rfl,{ h' with F18:=(fun _=>⟨⟨d2,d5,d8,d11,d14,d17⟩,rfl⟩),F20:=(fun q=>absurd (h'.F20 q).1 (by rw[hbi];simp)),HM:=h'.HM.pass (by decide) }⟩
   ·
    have hbi:B 19=false:=by simpa using (ready_use hi).2.1
    have hsz:=h'.HK.size;refine wpOp_law rfl rfl (fun K hK=>?_);simp only[List.getElem_toArray,List.getElem_cons_succ,List.getElem_cons_zero];go_simp;refine hK.out _ _ ?_;exact⟨updB B 19,_,bs,N,w3.heap.size,_,_,_,_,_,_,_,_,_,_,_,_,_,_,_,_,_,_,_,_,rfl,rfl,{ h' with HM:=h'.HM.add hbi ((Keep.refl w3).alloc _) (box_own w3 hsz) (fun b hb=>new_ge hb),HK:=h'.HK.alloc _,F19:=(fun _=>⟨rfl,rfl,fun _=>rfl⟩),F20:=(fun q=>absurd (h'.F20 q).2 (by rw[hbi];simp)),F21:=(fun q=>absurd (h'.F20 q).2 (by rw[hbi];simp)) }⟩
   ·
    have hbi:B 20=false:=by simpa using (ready_use hi).2.1
    have d18:B 18=true:=ready_dep hi 18 rfl (by kernel_rfl);have d19:B 19=true:=ready_dep hi 19 rfl (by kernel_rfl);have hsz:=h'.HK.size;obtain⟨dd,e24⟩:=h'.F18 d18;obtain⟨e3,er,ez⟩:=h'.F19 d19;have o19:=h'.HM.fam.own 19 ⟨by decide,d19⟩;rw[ez hbi] at o19;obtain⟨⟨old,hz,hos⟩,ho⟩:=box_put o19 (v:=⟨x8,x11,x14,nilS,x17,x20,x23,nilS⟩);obtain⟨a1,c1,e1⟩:=h'.F2 dd.1;obtain⟨⟨a5,c5,e5⟩,-⟩:=h'.F5 dd.2.1;obtain⟨⟨a8,c8,e8⟩,-⟩:=h'.F8 dd.2.2.1;obtain⟨⟨a11,c11,e11⟩,-⟩:=h'.F11 dd.2.2.2.1;obtain⟨⟨a14,c14,e14⟩,-⟩:=h'.F14 dd.2.2.2.2.1;obtain⟨⟨a17,c17,e17⟩,-⟩:=h'.F17 dd.2.2.2.2.2;have hone:(BV.arr ⟨x8,x11,x14,nilS,x17,x20,x23,nilS⟩).all (·.oneCell')=true:=by rw[e1,e5,e8,e11,e14,e17];simp[Value.oneCell']
    clear e1 e5 e8 e11 e14 e17;have Ep:=Lib.hid (e24);rw[Ep.out];have Eq:=Lib.hid (e3);rw[Eq.out];refine wpOp_law rfl rfl (fun K hK=>?_);simp only[List.getElem_toArray,List.getElem_cons_succ,List.getElem_cons_zero];clear e24 e3;refine wp_store_row 29 _ _ rfl D _ rfl rfl 29 old hz board_info hos hone ?_;refine hK.out _ _ ?_;have ep:=Ep.out;subst ep;have eq:=Eq.out;subst eq;exact⟨updB B 20,_,bs,N,D,_,_,_,_,_,_,_,_,_,_,_,_,_,_,_,_,_,_,_,_,rfl,rfl,{ h' with HM:=h'.HM.turn (by decide) ⟨by decide,d19⟩ (r:=bdR D ⟨x8,x11,x14,nilS,x17,x20,x23,nilS⟩) (by rw[er];exact grown_row3 _ _ _) (by rw[er]) ho,HK:=h'.HK.grown (grown_row3 _ D _) (fun b hb=>by have:=(h'.HM.fam.lt ⟨by decide,d19⟩ D (by rw[er];rfl)).1;have:=Option.some.inj hb;omega),F19:=(fun _=>⟨rfl,rfl,fun q=>by cases q⟩),F20:=(fun _=>⟨d18,d19⟩),F21:=(fun _=>rfl) }⟩
  ·
   rintro listed a w3 ⟨B,R,bs,N,D,x3,x6,x7,x8,x9,x10,x11,x12,x13,x14,x15,x16,x17,x18,x19,x20,x21,x22,x23,x24,rfl,rfl,h'⟩ hr;have hall:=ready_all hr rfl (by kernel_rfl);have b2:B 2=true:=hall 2 (by simp);have b5:B 5=true:=hall 5 (by simp);have b8:B 8=true:=hall 8 (by simp);have b11:B 11=true:=hall 11 (by simp);have b14:B 14=true:=hall 14 (by simp);have b17:B 17=true:=hall 17 (by simp);have b19:B 19=true:=hall 19 (by simp);have b20:B 20=true:=hall 20 (by simp);clear hall;obtain⟨HM,HK,F0,F1,F2,F3,F4,F5,F6,F7,F8,F9,F10,F11,F12,F13,F14,F15,F16,F17,F18,F19,F20,F21⟩:=h';clear hr;have HB:=cb_own (by rw[b2] at HM;exact HM) b5 b8 b11 b14 b17 b19 (F5 b5).2 (F8 b8).2 (F11 b11).2 (F14 b14).2 (F17 b17).2 (F21 b20);have HW:=((by rw[b2] at HM;exact HM):Mk w3 w1.heap.size _ R true x8 bs N dss).work rfl;have e3:=(F19 b19).1;clear HM F0 F1 F2 F3 F4 F5 F6 F7 F8 F9 F10 F11 F12 F13 F14 F15 F16 F17 F18 F19 F20 F21;subst e3;go_wp2;go_meet;case rel=>exact⟨D,_,bs,N,rfl,HB,HW.2.2,HK⟩
 case rest=>
  obtain⟨D,bv',bs,N,rfl,H,hbs,kc⟩:=hcut;obtain⟨j0,hj,hy0,hy1,hy2⟩:=info_parts Try.infoNl;go_wp2;go_loopw [4] (fun i wr=>∃(k:Nat) (bw:BV) (nv:List Value),k≤b.nts.length∧i = .int .i64 k∧OwnBd wr w1.heap.size D bw nv [] bs N dss { cb0 b with nts:=b.nts.take k }∧Keep w1 wr) (fun i _=>b.nts.length-(intOf i).toNat)
  case atStart=>exact⟨0,bv',[],Nat.zero_le _,rfl,H,kc⟩
  case round=>
   obtain⟨k,bw,nv,hk,rfl,Hr,kr⟩:=hrel;clear H kc;have hbw:w.heap.size<wr.heap.size:=by have:=kr.size;omega
   have hB3:wr.cell? ⟨w.heap.size,3,none⟩=some (.slice aN b.nts.length cQ):=(kr.cell (by omega)).trans (CC.out 3 _ rfl);by_cases hlt:k<b.nts.length
   ·
    obtain⟨a',c',e',hN⟩:=h.N;simp only[Value.slice.injEq,true_and] at e';obtain⟨rfl,rfl⟩:=e';rcases hN with h0|⟨bN,oN,rfl,hbN0,hcN⟩
    · exfalso;rw[h0] at hlt;simp at hlt
    obtain⟨vi,dE0,rE0⟩:=hcN k hlt;have nl:(b.nts.getD k []).length≤8:=HQ.out.2.2.2 k (by have:=HQ.out.2.1;omega);have nk:b.nts.length≤3:=by have:=HQ.out.2.1;omega
    have HT:Hid (b.nts.take (k+1)=b.nts.take k++[b.nts.getD k []]):=Lib.hid (by rw[List.take_add_one,List.getD_eq_getElem?_getD,List.getElem?_eq_getElem hlt];rfl);generalize b.nts.getD k []=ns at *;have KK:=K1.trans kr;have dE:=(KK.cell hbN0).trans dE0;have rE:=rE0.keep KK;obtain⟨ai,ci,rfl,-⟩:=id rE;have hbN:bN<wr.heap.size:=Nat.lt_of_lt_of_le hbN0 KK.size;have hbD:=Hr.base.2;have hbs2:=Hr.base.1;have hln:nv.length=k:=by have:=Hr.ln;simp only[List.length_take] at this;omega
    obtain⟨aM,cM,eN,-⟩:=Hr.hN;have eN2:bw.N = .slice aM k cM:=by rw[eN];simp only[List.length_take];rw[Nat.min_eq_left hk]
    have dM:wr.cell? ⟨D,3,none⟩=some (.slice aM k cM):=by rw[←eN2];exact Hr.cells.2.2.2.1
    have HR0:wr.ownsRow w1.heap.size 36 1 (.slice aM k cM) k nv:=by
     have o:wr.ownsRow w1.heap.size 36 1 bw.N nv.length nv:=Hr.fam.own .nts trivial;rw[eN2,hln] at o;exact o
    have sr:=kr.size;have i1:(0:Int)≤(k:Int):=Int.natCast_nonneg _;have i2:(k:Int)<(b.nts.length:Int):=by omega
    have HH:=Lib.hid Hr;have HeN:=Lib.hid eN2;have Hln:=Lib.hid hln;clear Hr eN eN2 hln dE0 rE0 hcN;go_upto_region 5 with fail
    refine wp_region_inv (by kernel_rfl) (fun listed a w3=>∃(B:Nat→Bool) (G:Nat) (x32 x33 x34 x35 x36 x37 x38 x39 x40 x41 x42 x43:Value),listed=#[B 0,B 1,B 2,B 3,B 4,B 5,B 6,B 7,B 8,B 9,B 10,B 11,B 12]∧a=⟨#[.agg #[.slice aW dss.length cW,.slice aP b.plc.length cP,.slice aL b.lst.length cL,.slice (some ⟨bN,oN,none⟩) b.nts.length cQ,.slice aX b.nxt.length cX,.slice aT b.sn.length cT,.slice aF b.fr.length cF,.slice aR b.rws.length cR],.pointer (some ⟨w.heap.size,0,none⟩),.pointer (some ⟨w.heap.size+1,0,none⟩),.pointer (some ⟨D,0,none⟩),.int .i64 (k:Int),undef,u6,u7,u8,u9,u10,u11,u12,u13,u14,u15,u16,u17,u18,u19,u20,u21,u22,u23,u24,.int .i64 (k:Int),.pointer (some ⟨w.heap.size,3,none⟩),.slice (some ⟨bN,oN,none⟩) b.nts.length cQ,.int .i64 (b.nts.length:Int),.bool true,u30,u31,x32,x33,x34,x35,x36,x37,x38,x39,x40,x41,x42,x43,u44,u45,u46,u47,u48,u49,u50,u51,u52,u53,u54,u55,u56,u57,u58,u59,u60,u61,u62],[]⟩∧CbTwo w w1 wr D k aM cM bN oN cQ ai ci ns b bw nv bs N dss B G x32 x33 x34 x35 x36 x37 x38 x39 x40 x41 x42 x43 w3) ?_ ?_ ?_
    · exact⟨fun _=>false,0,u32,u33,u34,u35,u36,u37,u38,u39,u40,u41,u42,u43,rfl,rfl,⟨(fun _=>(Keep.refl wr).drew),(fun q=>by cases q),(fun q=>by cases q),(fun q=>by cases q),(fun q=>by cases q),(fun q=>by cases q),(fun q=>by cases q),(fun q=>by cases q),(fun q=>by cases q),(fun q=>by cases q),(fun q=>by cases q),(fun q=>by cases q),(fun q=>by cases q),(fun q=>by cases q),(fun q=>by cases q),(fun q=>by cases q),(fun q=>by cases q)⟩⟩
    ·
     rintro listed a w3 ⟨B,G,x32,x33,x34,x35,x36,x37,x38,x39,x40,x41,x42,x43,rfl,rfl,h'⟩ i hi;have hlt:=(ready_use hi).1;have hcs:i=0∨i=1∨i=2∨i=3∨i=4∨i=5∨i=6∨i=7∨i=8∨i=9∨i=10∨i=11∨i=12:=by simp at hlt;omega
     rcases hcs with rfl|rfl|rfl|rfl|rfl|rfl|rfl|rfl|rfl|rfl|rfl|rfl|rfl
     ·
      have hbi:B 0=false:=by simpa using (ready_use hi).2.1
      refine wpOp_law rfl rfl (fun K hK=>?_);simp only[List.getElem_toArray,List.getElem_cons_zero];go_simp;refine hK.out _ _ ?_;exact⟨updB B 0,G,_,_,_,_,_,_,_,_,_,_,_,_,rfl,rfl,{ h' with Fac:=(fun q=>absurd ((h'.Fac q).1 0 (by omega)) (by rw[hbi];simp)),Pac:=(fun q=>absurd ((h'.Fac q).1 0 (by omega)) (by rw[hbi];simp)),Fst:=(fun q=>absurd ((h'.Fac (h'.Fst q).1).1 0 (by omega)) (by rw[hbi];simp)),Ffa:=(fun _=>rfl),Fld:=(fun q=>absurd (h'.Fld q).1 (by rw[hbi];simp)) }⟩
     ·
      have hbi:B 1=false:=by simpa using (ready_use hi).2.1
      have d0:B 0=true:=ready_dep hi 0 rfl (by kernel_rfl)
      have hac:B 10=false:=by
       cases e:B 10 with
       |false=>rfl
       |true=>exact absurd ((h'.Fac e).1 1 (by omega)) (by rw[hbi];simp)
      have dc:w3.cell? ⟨D,3,none⟩=some (.slice aM k cM):=((h'.HK hac).cell hbD).trans dM;have Ex:=Lib.hid (h'.Ffa d0);rw[Ex.out];refine wpOp_law rfl rfl (fun K hK=>?_);simp only[List.getElem_toArray,List.getElem_cons_succ,List.getElem_cons_zero];go_simp;refine hK.out _ _ ?_;have ex:=Ex.out;subst ex;exact⟨updB B 1,G,_,_,_,_,_,_,_,_,_,_,_,_,rfl,rfl,{ h' with Fac:=(fun q=>absurd ((h'.Fac q).1 1 (by omega)) (by rw[hbi];simp)),Pac:=(fun q=>absurd ((h'.Fac q).1 1 (by omega)) (by rw[hbi];simp)),Fst:=(fun q=>absurd ((h'.Fac (h'.Fst q).1).1 1 (by omega)) (by rw[hbi];simp)),Fld:=(fun _=>⟨d0,rfl⟩) }⟩
     ·
      have hbi:B 2=false:=by simpa using (ready_use hi).2.1
      have hac:B 10=false:=by
       cases e:B 10 with
       |false=>rfl
       |true=>exact absurd ((h'.Fac e).1 2 (by omega)) (by rw[hbi];simp)
      have hsz:=(h'.HK hac).size;refine wpOp_law rfl rfl (fun K hK=>?_);simp only[List.getElem_toArray,List.getElem_cons_succ,List.getElem_cons_zero];go_simp;refine hK.out _ _ ?_;exact⟨updB B 2,G,_,_,_,_,_,_,_,_,_,_,_,_,rfl,rfl,{ h' with Fac:=(fun q=>absurd ((h'.Fac q).1 2 (by omega)) (by rw[hbi];simp)),Pac:=(fun q=>absurd ((h'.Fac q).1 2 (by omega)) (by rw[hbi];simp)),Fst:=(fun q=>absurd ((h'.Fac (h'.Fst q).1).1 2 (by omega)) (by rw[hbi];simp)),HK:=(fun q=>(h'.HK q).alloc _),Flit:=(fun _=>⟨_,rfl⟩),Plit:=(fun _ _=>World.ownsRow_lit w3 #[] 0 hsz (by decide) rfl),Fap:=(fun q=>absurd (h'.Fap q).1.1 (by rw[hbi];simp)),Pap:=(fun q=>absurd (h'.Fap q).1.1 (by rw[hbi];simp)),Fbs:=(fun q=>absurd (h'.Fap (h'.Fbs q).1).1.1 (by rw[hbi];simp)) }⟩
     ·
      have hbi:B 3=false:=by simpa using (ready_use hi).2.1
      refine wpOp_law rfl rfl (fun K hK=>?_);simp only[List.getElem_toArray,List.getElem_cons_succ,List.getElem_cons_zero];go_simp;refine hK.out _ _ ?_;exact⟨updB B 3,G,_,_,_,_,_,_,_,_,_,_,_,_,rfl,rfl,{ h' with Fac:=(fun q=>absurd ((h'.Fac q).1 3 (by omega)) (by rw[hbi];simp)),Pac:=(fun q=>absurd ((h'.Fac q).1 3 (by omega)) (by rw[hbi];simp)),Fst:=(fun q=>absurd ((h'.Fac (h'.Fst q).1).1 3 (by omega)) (by rw[hbi];simp)),Ffb:=(fun _=>rfl),Flb:=(fun q=>absurd (h'.Flb q).1 (by rw[hbi];simp)) }⟩
     ·
      have hbi:B 4=false:=by simpa using (ready_use hi).2.1
      have d3:B 3=true:=ready_dep hi 3 rfl (by kernel_rfl)
      have hac:B 10=false:=by
       cases e:B 10 with
       |false=>rfl
       |true=>exact absurd ((h'.Fac e).1 4 (by omega)) (by rw[hbi];simp)
      have dc:w3.cell? ⟨w.heap.size,3,none⟩=some (.slice (some ⟨bN,oN,none⟩) b.nts.length cQ):=((h'.HK hac).cell hbw).trans hB3;have Ex:=Lib.hid (h'.Ffb d3);rw[Ex.out];refine wpOp_law rfl rfl (fun K hK=>?_);simp only[List.getElem_toArray,List.getElem_cons_succ,List.getElem_cons_zero];go_simp;refine hK.out _ _ ?_;have ex:=Ex.out;subst ex;exact⟨updB B 4,G,_,_,_,_,_,_,_,_,_,_,_,_,rfl,rfl,{ h' with Fac:=(fun q=>absurd ((h'.Fac q).1 4 (by omega)) (by rw[hbi];simp)),Pac:=(fun q=>absurd ((h'.Fac q).1 4 (by omega)) (by rw[hbi];simp)),Fst:=(fun q=>absurd ((h'.Fac (h'.Fst q).1).1 4 (by omega)) (by rw[hbi];simp)),Flb:=(fun _=>⟨d3,rfl⟩),Fix:=(fun q=>absurd (h'.Fix q).1.1 (by rw[hbi];simp)) }⟩
     ·
      have hbi:B 5=false:=by simpa using (ready_use hi).2.1
      refine wpOp_law rfl rfl (fun K hK=>?_);simp only[List.getElem_toArray,List.getElem_cons_succ,List.getElem_cons_zero];go_simp;refine hK.out _ _ ?_;exact⟨updB B 5,G,_,_,_,_,_,_,_,_,_,_,_,_,rfl,rfl,{ h' with Fac:=(fun q=>absurd ((h'.Fac q).1 5 (by omega)) (by rw[hbi];simp)),Pac:=(fun q=>absurd ((h'.Fac q).1 5 (by omega)) (by rw[hbi];simp)),Fst:=(fun q=>absurd ((h'.Fac (h'.Fst q).1).1 5 (by omega)) (by rw[hbi];simp)),Fmv:=(fun _=>rfl),Fix:=(fun q=>absurd (h'.Fix q).1.2 (by rw[hbi];simp)) }⟩
     ·
      have hbi:B 6=false:=by simpa using (ready_use hi).2.1
      have d4:B 4=true:=ready_dep hi 4 rfl (by kernel_rfl);have d5:B 5=true:=ready_dep hi 5 rfl (by kernel_rfl);have Ex:=Lib.hid ((h'.Flb d4).2);rw[Ex.out];have Ey:=Lib.hid (h'.Fmv d5);rw[Ey.out];refine wpOp_law rfl rfl (fun K hK=>?_);simp only[List.getElem_toArray,List.getElem_cons_succ,List.getElem_cons_zero];go_simp;refine hK.out _ _ ?_;have ex:=Ex.out;subst ex;have ey:=Ey.out;subst ey;exact⟨updB B 6,G,_,_,_,_,_,_,_,_,_,_,_,_,rfl,rfl,{ h' with Fac:=(fun q=>absurd ((h'.Fac q).1 6 (by omega)) (by rw[hbi];simp)),Pac:=(fun q=>absurd ((h'.Fac q).1 6 (by omega)) (by rw[hbi];simp)),Fst:=(fun q=>absurd ((h'.Fac (h'.Fst q).1).1 6 (by omega)) (by rw[hbi];simp)),Fix:=(fun _=>⟨⟨d4,d5⟩,rfl⟩),Fle:=(fun q=>absurd (h'.Fle q).1 (by rw[hbi];simp)) }⟩
     ·
      have hbi:B 7=false:=by simpa using (ready_use hi).2.1
      have d6:B 6=true:=ready_dep hi 6 rfl (by kernel_rfl)
      have hac:B 10=false:=by
       cases e:B 10 with
       |false=>rfl
       |true=>exact absurd ((h'.Fac e).1 7 (by omega)) (by rw[hbi];simp)
      have dc:w3.cell? ⟨bN,oN+k,none⟩=some (.slice ai ns.length (ns.length+ci)):=((h'.HK hac).cell hbN).trans dE;have Ex:=Lib.hid ((h'.Fix d6).2);rw[Ex.out];refine wpOp_law rfl rfl (fun K hK=>?_);simp only[List.getElem_toArray,List.getElem_cons_succ,List.getElem_cons_zero];go_simp;refine hK.out _ _ ?_;have ex:=Ex.out;subst ex;exact⟨updB B 7,G,_,_,_,_,_,_,_,_,_,_,_,_,rfl,rfl,{ h' with Fac:=(fun q=>absurd ((h'.Fac q).1 7 (by omega)) (by rw[hbi];simp)),Pac:=(fun q=>absurd ((h'.Fac q).1 7 (by omega)) (by rw[hbi];simp)),Fst:=(fun q=>absurd ((h'.Fac (h'.Fst q).1).1 7 (by omega)) (by rw[hbi];simp)),Fle:=(fun _=>⟨d6,rfl⟩),Fap:=(fun q=>absurd (h'.Fap q).1.2 (by rw[hbi];simp)),Pap:=(fun q=>absurd (h'.Fap q).1.2 (by rw[hbi];simp)) }⟩
     ·
      have hbi:B 8=false:=by simpa using (ready_use hi).2.1
      have d2:B 2=true:=ready_dep hi 2 rfl (by kernel_rfl);have d7:B 7=true:=ready_dep hi 7 rfl (by kernel_rfl)
      have hac:B 10=false:=by
       cases e:B 10 with
       |false=>rfl
       |true=>exact absurd ((h'.Fac e).1 8 (by omega)) (by rw[hbi];simp)
      have hK3:=h'.HK hac;have hsz:=hK3.size;obtain⟨g,eg⟩:=h'.Flit d2;have oL:=h'.Plit d2 hbi;rw[eg] at oL;have Ex:=Lib.hid (eg);rw[Ex.out];have Ey:=Lib.hid ((h'.Fle d7).2);rw[Ey.out];refine wpOp_law rfl rfl (fun K hK=>?_);simp only[List.getElem_toArray,List.getElem_cons_succ,List.getElem_cons_zero];clear eg;refine wp_append_notes _ _ rfl wr.heap.size g rfl oL _ rfl ns (rE.keep hK3) (by omega) hsz ?_;intro vz wz oz gz;simp only[Act.put,List.setIfInBounds_toArray,List.set_cons_zero,List.set_cons_succ];refine hK.out _ _ ?_;have ex:=Ex.out;subst ex;have ey:=Ey.out;subst ey;have hgz:wr.heap.size≤g:=(World.ownsRow.lt oL g rfl).1;obtain⟨az,cz,ez,-⟩:=AppT.rd cN_len oz;exact⟨updB B 8,G,_,_,_,_,_,_,_,_,_,_,_,_,rfl,rfl,{ h' with Fac:=(fun q=>absurd ((h'.Fac q).1 8 (by omega)) (by rw[hbi];simp)),Pac:=(fun q=>absurd ((h'.Fac q).1 8 (by omega)) (by rw[hbi];simp)),Fst:=(fun q=>absurd ((h'.Fac (h'.Fst q).1).1 8 (by omega)) (by rw[hbi];simp)),Fbs:=(fun q=>absurd (h'.Fbs q).1 (by rw[hbi];simp)),HK:=(fun _=>hK3.grown gz (fun q hq=>by have:=Option.some.inj hq;omega)),Plit:=(fun _ q=>by cases q),Fap:=(fun _=>⟨⟨d2,d7⟩,az,_,ez⟩),Pap:=(fun _ _=>oz) }⟩
     ·
      have hbi:B 9=false:=by simpa using (ready_use hi).2.1
      have d8:B 8=true:=ready_dep hi 8 rfl (by kernel_rfl);obtain⟨_,a8,c8,e8⟩:=h'.Fap d8;have Ex:=Lib.hid (e8);rw[Ex.out];refine wpOp_law rfl rfl (fun K hK=>?_);simp only[List.getElem_toArray,List.getElem_cons_succ,List.getElem_cons_zero];clear e8;go_simp;refine hK.out _ _ ?_;have ex:=Ex.out;subst ex;exact⟨updB B 9,w3.heap.size,_,_,_,_,_,_,_,_,_,_,_,_,rfl,rfl,{ h' with Fac:=(fun q=>absurd ((h'.Fac q).1 9 (by omega)) (by rw[hbi];simp)),Pac:=(fun q=>absurd ((h'.Fac q).1 9 (by omega)) (by rw[hbi];simp)),Fst:=(fun q=>absurd ((h'.Fac (h'.Fst q).1).1 9 (by omega)) (by rw[hbi];simp)),HK:=(fun q=>(h'.HK q).alloc _),Pap:=(fun q r=>(h'.Pap q r).keep ((Keep.refl w3).alloc _)),Fbs:=(fun _=>⟨d8,rfl,fun _=>box_cell (Keep.refl _) 0⟩),Plit:=(fun _ q=>tf_no d8 q) }⟩
     ·
      have hbi:B 10=false:=by simpa using (ready_use hi).2.1
      have d1:B 1=true:=ready_dep hi 1 rfl (by kernel_rfl);have d9:B 9=true:=ready_dep hi 9 rfl (by kernel_rfl);have c0:=(h'.Fld d1).1;obtain⟨dap,eG,cG⟩:=h'.Fbs d9;obtain⟨qap,a8,c8,e8⟩:=h'.Fap dap;obtain⟨dlit,dle⟩:=qap;have dix:=(h'.Fle dle).1;obtain⟨⟨dlb,dmv⟩,-⟩:=h'.Fix dix;have dfb:=(h'.Flb dlb).1
      have hall:∀j,j<10→B j=true:=by
       intro j hj;have hj2:j=0∨j=1∨j=2∨j=3∨j=4∨j=5∨j=6∨j=7∨j=8∨j=9:=by omega
       rcases hj2 with rfl|rfl|rfl|rfl|rfl|rfl|rfl|rfl|rfl|rfl
       · exact c0
       · exact d1
       · exact dlit
       · exact dfb
       · exact dlb
       · exact dmv
       · exact dix
       · exact dle
       · exact dap
       · exact d9
      have hK3:=h'.HK hbi;have oA:=h'.Pap dap hbi;have cG2:=cG hbi;rw[e8] at cG2;have HR:=World.ownsRow.kept HR0 hK3.grownBy (by cases (Value.slice aM k cM).ownBlock<;>simp);have hsz:=hK3.size;have Ex:=Lib.hid ((h'.Fld d1).2);rw[Ex.out];have Ey:=Lib.hid (eG);rw[Ey.out];have Ez:=Lib.hid (e8);rw[Ez.out];refine wpOp_law rfl rfl (fun K hK=>?_);simp only[List.getElem_toArray,List.getElem_cons_succ,List.getElem_cons_zero];clear eG e8;refine wp_append_at _ _ 26 rfl w1.heap.size 36 j0 (.slice none 0 0) 1 24 Try.underlying26 hj hy0 hy1 hy2 rfl (by decide) (.slice aM k cM) k nv rfl HR ⟨G,0,none⟩ 1 1 [.slice a8 ns.length c8] rfl rfl (fun j u hu=>?_) (fun u hu=>by simp at hu;subst hu;rfl) (by unfold maxLen;omega) (by omega) (by omega) ?_
      ·
       match j,hu with
       | 0,hu=>simp at hu;subst hu;simpa [Addr.add] using cG2
      intro vz wz oz gz bz;simp only[Act.put,List.setIfInBounds_toArray,List.set_cons_zero,List.set_cons_succ];refine hK.out _ _ ?_;have ex:=Ex.out;subst ex;have ey:=Ey.out;subst ey;have ez:=Ez.out;subst ez
      have ho7:(hdR 36 (nv++[.slice a8 ns.length c8]) vz).own wz w1.heap.size:=by
       show wz.ownsRow w1.heap.size 36 1 vz (nv++[Value.slice a8 ns.length c8]).length (nv++[Value.slice a8 ns.length c8]);rw[List.length_append,Hln.out];exact oz
      have hu:∀q,(Value.slice a8 ns.length c8).ownBlock=some q→wr.heap.size≤q:=fun q hq=>(World.ownsRow.lt oA q hq).1
      obtain⟨H8,c8',f8⟩:=HH.out.pushN hK3 hu (own_base oA (by omega)) (by rw[HeN.out];exact gz) (by rw[HeN.out];rcases bz with e|e;exact .inl e;exact .inr (.inl e)) ho7;obtain⟨a9,c9,e9,-⟩:=own_head ho7;replace e9:vz = .slice a9 (k+1) c9:=by rw[e9,List.length_append,Hln.out];rfl
      have K9:Keep w1 wz:=(kr.trans hK3).grown gz (fun q hq=>(World.ownsRow.lt HR q hq).1);exact⟨updB B 10,G,_,_,_,_,_,_,_,_,_,_,_,_,rfl,rfl,{ h' with Fac:=(fun _=>⟨fun j hj=>by unfold updB;rw[if_neg (by omega)];exact hall j hj,a9,c9,e9⟩),Pac:=(fun _ _=>⟨by rw[HT.out];exact H8,c8',f8,K9⟩),Fst:=(fun q=>absurd (h'.Fst q).1 (by rw[hbi];simp)),HK:=(fun q=>by cases q),Pap:=(fun _ q=>by cases q),Fbs:=(fun _=>⟨dap,rfl,fun q=>by cases q⟩),Plit:=(fun _ q=>tf_no (dap) q) }⟩
     ·
      have hbi:B 11=false:=by simpa using (ready_use hi).2.1
      refine wpOp_law rfl rfl (fun K hK=>?_);simp only[List.getElem_toArray,List.getElem_cons_succ,List.getElem_cons_zero];go_simp;refine hK.out _ _ ?_;exact⟨updB B 11,G,_,_,_,_,_,_,_,_,_,_,_,_,rfl,rfl,{ h' with Ffc:=(fun _=>rfl),Fac:=(fun q=>⟨fun j hj=>by unfold updB;rw[if_neg (by omega)];exact (h'.Fac q).1 j hj,(h'.Fac q).2⟩) }⟩
     ·
      have hbi:B 12=false:=by simpa using (ready_use hi).2.1
      have d10:B 10=true:=ready_dep hi 10 rfl (by kernel_rfl);have d11:B 11=true:=ready_dep hi 11 rfl (by kernel_rfl);obtain⟨P1,P2,P3,P4⟩:=h'.Pac d10 hbi;obtain⟨-,a9,c9,e9⟩:=h'.Fac d10;have Ex:=Lib.hid (h'.Ffc d11);rw[Ex.out];have Ey:=Lib.hid (e9);rw[Ey.out];refine wpOp_law rfl rfl (fun K hK=>?_);simp only[List.getElem_toArray,List.getElem_cons_succ,List.getElem_cons_zero];clear e9;have HP1:=Lib.hid P1;clear P1;go_simp;refine hK.out _ _ ?_;have ex:=Ex.out;subst ex;have ey:=Ey.out;subst ey;have P1:=HP1.out;exact⟨updB B 12,G,_,_,_,_,_,_,_,_,_,_,_,_,rfl,rfl,{ h' with HK:=(fun q=>tf_no (d10) q),Pap:=(fun _ q=>tf_no (d10) q),Fbs:=(fun q=>⟨(h'.Fbs q).1,(h'.Fbs q).2.1,fun r=>tf_no (d10) r⟩),Fac:=(fun q=>⟨fun j hj=>by unfold updB;rw[if_neg (by omega)];exact (h'.Fac q).1 j hj,(h'.Fac q).2⟩),Pac:=(fun _ q=>by cases q),Fst:=(fun _=>⟨d10,P1,P4.grown (grown_set w3 D 3 _) (fun q hq=>by have:=Option.some.inj hq;omega)⟩),Plit:=(fun _ q=>tf_no ((h'.Fac d10).1 8 (by omega)) q) }⟩
    ·
     rintro listed a w3 ⟨B,G,x32,x33,x34,x35,x36,x37,x38,x39,x40,x41,x42,x43,rfl,rfl,h'⟩ hr;have hall:=ready_all hr rfl (by kernel_rfl);have b12:B 12=true:=hall 12 (by simp);clear hall;obtain⟨HK,Ffa,Fld,Flit,Plit,Ffb,Flb,Fmv,Fix,Fle,Fap,Pap,Fbs,Fac,Pac,Ffc,Fst⟩:=h';clear hr;obtain⟨-,Q2,Q3⟩:=Fst b12;have HQ2:=Lib.hid Q2;have HQ3:=Lib.hid Q3;clear Q2 Q3 HK Ffa Fld Flit Plit Ffb Flb Fmv Fix Fle Fap Pap Fbs Fac Pac Ffc Fst;go_wp2;go_roundw;case rel=>exact⟨k+1,by omega,by omega,⟨_,_,HQ2.out⟩,HQ3.out⟩
     case measure=>simp[intOf];omega
   ·
    obtain rfl:k=b.nts.length:=by omega
    simp only[List.take_length] at Hr;clear hlt hk;obtain⟨j0,hj,hy0,hy1,hy2⟩:=info_parts Try.infoIl;go_wp2;go_loopw [5] (fun i wq=>∃(k:Nat) (bw:BV) (rv:List Value),k≤b.rws.length∧i = .int .i64 k∧OwnBd wq w1.heap.size D bw nv rv bs N dss { cb0 b with nts:=b.nts,rws:=b.rws.take k }∧Keep w1 wq) (fun i _=>b.rws.length-(intOf i).toNat)
    case atStart=>exact⟨0,bw,[],Nat.zero_le _,rfl,Hr,kr⟩
    case round=>
     clear Hr kr hbw hB3;obtain⟨k,bw,rv,hk,rfl,Hr,kr⟩:=hrel;have hbw:w.heap.size<wr.heap.size:=by have:=kr.size;omega
     have hB3:wr.cell? ⟨w.heap.size,7,none⟩=some (.slice aR b.rws.length cR):=(kr.cell (by omega)).trans (CC.out 7 _ rfl);by_cases hlt:k<b.rws.length
     ·
      obtain⟨a',c',e',hN⟩:=h.R;simp only[Value.slice.injEq,true_and] at e';obtain⟨rfl,rfl⟩:=e';rcases hN with h0|⟨bN,oN,rfl,hbN0,hcN⟩
      · exfalso;rw[h0] at hlt;simp at hlt
      obtain⟨vi,dE0,rE0⟩:=hcN k hlt;have nl:(b.rws.getD k []).length≤20:=HQ.out.2.2.1 k (by have:=HQ.out.1;omega);have nk:b.rws.length≤3:=by have:=HQ.out.1;omega
      have HT:Hid (b.rws.take (k+1)=b.rws.take k++[b.rws.getD k []]):=Lib.hid (by rw[List.take_add_one,List.getD_eq_getElem?_getD,List.getElem?_eq_getElem hlt];rfl);generalize b.rws.getD k []=zs at *;have KK:=K1.trans kr;have dE:=(KK.cell hbN0).trans dE0;have rE:=rE0.keep KK;obtain⟨ai,ci,rfl,-⟩:=id rE;have hbN:bN<wr.heap.size:=Nat.lt_of_lt_of_le hbN0 KK.size;have hbD:=Hr.base.2;have hbs2:=Hr.base.1;have hln:rv.length=k:=by have:=Hr.lr;simp only[List.length_take] at this;omega
      obtain⟨aM,cM,eN,-⟩:=Hr.hR;have eN2:bw.R = .slice aM k cM:=by rw[eN];simp only[List.length_take];rw[Nat.min_eq_left hk]
      have dM:wr.cell? ⟨D,7,none⟩=some (.slice aM k cM):=by rw[←eN2];exact Hr.cells.2.2.2.2.2.2.2
      have HR0:wr.ownsRow w1.heap.size 25 1 (.slice aM k cM) k rv:=by
       have o:wr.ownsRow w1.heap.size 25 1 bw.R rv.length rv:=Hr.fam.own .rws trivial;rw[eN2,hln] at o;exact o
      have sr:=kr.size;have i1:(0:Int)≤(k:Int):=Int.natCast_nonneg _;have i2:(k:Int)<(b.rws.length:Int):=by omega
      have HH:=Lib.hid Hr;have HeN:=Lib.hid eN2;have Hln:=Lib.hid hln;clear Hr eN eN2 hln dE0 rE0 hcN;go_upto_region 9 with fail
      refine wp_region_inv (by kernel_rfl) (fun listed a w3=>∃(B:Nat→Bool) (G:Nat) (x51 x52 x53 x54 x55 x56 x57 x58 x59 x60 x61:Value),listed=#[B 0,B 1,B 2,B 3,B 4,B 5,B 6,B 7,B 8,B 9,B 10,B 11]∧a=⟨#[.agg #[.slice aW dss.length cW,.slice aP b.plc.length cP,.slice aL b.lst.length cL,.slice aN b.nts.length cQ,.slice aX b.nxt.length cX,.slice aT b.sn.length cT,.slice aF b.fr.length cF,.slice (some ⟨bN,oN,none⟩) b.rws.length cR],.pointer (some ⟨w.heap.size,0,none⟩),.pointer (some ⟨w.heap.size+1,0,none⟩),.pointer (some ⟨D,0,none⟩),.int .i64 (b.nts.length:Int),.int .i64 (k:Int),u6,u7,u8,u9,u10,u11,u12,u13,u14,u15,u16,u17,u18,u19,u20,u21,u22,u23,u24,.int .i64 (b.nts.length:Int),.pointer (some ⟨w.heap.size,3,none⟩),.slice aN b.nts.length cQ,.int .i64 (b.nts.length:Int),.bool false,u30,u31,u32,u33,u34,u35,u36,u37,u38,u39,u40,u41,u42,u43,.int .i64 (k:Int),.pointer (some ⟨w.heap.size,7,none⟩),.slice (some ⟨bN,oN,none⟩) b.rws.length cR,.int .i64 (b.rws.length:Int),.bool true,u49,u50,x51,x52,x53,x54,x55,x56,x57,x58,x59,x60,x61,u62],[]⟩∧CbThree w w1 wr D k aM cM bN oN cR ai ci zs b bw nv rv bs N dss B G x51 x52 x53 x54 x55 x56 x57 x58 x59 x60 x61 w3) ?_ ?_ ?_
      · exact⟨fun _=>false,0,u51,u52,u53,u54,u55,u56,u57,u58,u59,u60,u61,rfl,rfl,⟨(fun _=>(Keep.refl wr).drew),(fun q=>by cases q),(fun q=>by cases q),(fun q=>by cases q),(fun q=>by cases q),(fun q=>by cases q),(fun q=>by cases q),(fun q=>by cases q),(fun q=>by cases q),(fun q=>by cases q),(fun q=>by cases q),(fun q=>by cases q),(fun q=>by cases q),(fun q=>by cases q),(fun q=>by cases q)⟩⟩
      ·
       rintro listed a w3 ⟨B,G,x51,x52,x53,x54,x55,x56,x57,x58,x59,x60,x61,rfl,rfl,h'⟩ i hi;have hlt:=(ready_use hi).1;have hcs:i=0∨i=1∨i=2∨i=3∨i=4∨i=5∨i=6∨i=7∨i=8∨i=9∨i=10∨i=11:=by simp at hlt;omega
       rcases hcs with rfl|rfl|rfl|rfl|rfl|rfl|rfl|rfl|rfl|rfl|rfl|rfl
       ·
        have hbi:B 0=false:=by simpa using (ready_use hi).2.1
        refine wpOp_law rfl rfl (fun K hK=>?_);simp only[List.getElem_toArray,List.getElem_cons_zero];go_simp;refine hK.out _ _ ?_;exact⟨updB B 0,G,_,_,_,_,_,_,_,_,_,_,_,rfl,rfl,{ h' with Fac:=(fun q=>absurd ((h'.Fac q).1 0 (by omega)) (by rw[hbi];simp)),Pac:=(fun q=>absurd ((h'.Fac q).1 0 (by omega)) (by rw[hbi];simp)),Fst:=(fun q=>absurd ((h'.Fac (h'.Fst q).1).1 0 (by omega)) (by rw[hbi];simp)),Ffa:=(fun _=>rfl),Fld:=(fun q=>absurd (h'.Fld q).1 (by rw[hbi];simp)) }⟩
       ·
        have hbi:B 1=false:=by simpa using (ready_use hi).2.1
        have d0:B 0=true:=ready_dep hi 0 rfl (by kernel_rfl)
        have hac:B 9=false:=by
         cases e:B 9 with
         |false=>rfl
         |true=>exact absurd ((h'.Fac e).1 1 (by omega)) (by rw[hbi];simp)
        have dc:w3.cell? ⟨D,7,none⟩=some (.slice aM k cM):=((h'.HK hac).cell hbD).trans dM;have Ex:=Lib.hid (h'.Ffa d0);rw[Ex.out];refine wpOp_law rfl rfl (fun K hK=>?_);simp only[List.getElem_toArray,List.getElem_cons_succ,List.getElem_cons_zero];go_simp;refine hK.out _ _ ?_;have ex:=Ex.out;subst ex;exact⟨updB B 1,G,_,_,_,_,_,_,_,_,_,_,_,rfl,rfl,{ h' with Fac:=(fun q=>absurd ((h'.Fac q).1 1 (by omega)) (by rw[hbi];simp)),Pac:=(fun q=>absurd ((h'.Fac q).1 1 (by omega)) (by rw[hbi];simp)),Fst:=(fun q=>absurd ((h'.Fac (h'.Fst q).1).1 1 (by omega)) (by rw[hbi];simp)),Fld:=(fun _=>⟨d0,rfl⟩) }⟩
       ·
        have hbi:B 2=false:=by simpa using (ready_use hi).2.1
        refine wpOp_law rfl rfl (fun K hK=>?_);simp only[List.getElem_toArray,List.getElem_cons_succ,List.getElem_cons_zero];go_simp;refine hK.out _ _ ?_;exact⟨updB B 2,G,_,_,_,_,_,_,_,_,_,_,_,rfl,rfl,{ h' with Fac:=(fun q=>absurd ((h'.Fac q).1 2 (by omega)) (by rw[hbi];simp)),Pac:=(fun q=>absurd ((h'.Fac q).1 2 (by omega)) (by rw[hbi];simp)),Fst:=(fun q=>absurd ((h'.Fac (h'.Fst q).1).1 2 (by omega)) (by rw[hbi];simp)),Ffb:=(fun _=>rfl),Flb:=(fun q=>absurd (h'.Flb q).1 (by rw[hbi];simp)) }⟩
       ·
        have hbi:B 3=false:=by simpa using (ready_use hi).2.1
        have d2:B 2=true:=ready_dep hi 2 rfl (by kernel_rfl)
        have hac:B 9=false:=by
         cases e:B 9 with
         |false=>rfl
         |true=>exact absurd ((h'.Fac e).1 3 (by omega)) (by rw[hbi];simp)
        have dc:w3.cell? ⟨w.heap.size,7,none⟩=some (.slice (some ⟨bN,oN,none⟩) b.rws.length cR):=((h'.HK hac).cell hbw).trans hB3;have Ex:=Lib.hid (h'.Ffb d2);rw[Ex.out];refine wpOp_law rfl rfl (fun K hK=>?_);simp only[List.getElem_toArray,List.getElem_cons_succ,List.getElem_cons_zero];go_simp;refine hK.out _ _ ?_;have ex:=Ex.out;subst ex;exact⟨updB B 3,G,_,_,_,_,_,_,_,_,_,_,_,rfl,rfl,{ h' with Fac:=(fun q=>absurd ((h'.Fac q).1 3 (by omega)) (by rw[hbi];simp)),Pac:=(fun q=>absurd ((h'.Fac q).1 3 (by omega)) (by rw[hbi];simp)),Fst:=(fun q=>absurd ((h'.Fac (h'.Fst q).1).1 3 (by omega)) (by rw[hbi];simp)),Flb:=(fun _=>⟨d2,rfl⟩),Fix:=(fun q=>absurd (h'.Fix q).1.1 (by rw[hbi];simp)) }⟩
       ·
        have hbi:B 4=false:=by simpa using (ready_use hi).2.1
        refine wpOp_law rfl rfl (fun K hK=>?_);simp only[List.getElem_toArray,List.getElem_cons_succ,List.getElem_cons_zero];go_simp;refine hK.out _ _ ?_;exact⟨updB B 4,G,_,_,_,_,_,_,_,_,_,_,_,rfl,rfl,{ h' with Fac:=(fun q=>absurd ((h'.Fac q).1 4 (by omega)) (by rw[hbi];simp)),Pac:=(fun q=>absurd ((h'.Fac q).1 4 (by omega)) (by rw[hbi];simp)),Fst:=(fun q=>absurd ((h'.Fac (h'.Fst q).1).1 4 (by omega)) (by rw[hbi];simp)),Fmv:=(fun _=>rfl),Fix:=(fun q=>absurd (h'.Fix q).1.2 (by rw[hbi];simp)) }⟩
       ·
        have hbi:B 5=false:=by simpa using (ready_use hi).2.1
        have d3:B 3=true:=ready_dep hi 3 rfl (by kernel_rfl);have d4:B 4=true:=ready_dep hi 4 rfl (by kernel_rfl);have Ex:=Lib.hid ((h'.Flb d3).2);rw[Ex.out];have Ey:=Lib.hid (h'.Fmv d4);rw[Ey.out];refine wpOp_law rfl rfl (fun K hK=>?_);simp only[List.getElem_toArray,List.getElem_cons_succ,List.getElem_cons_zero];go_simp;refine hK.out _ _ ?_;have ex:=Ex.out;subst ex;have ey:=Ey.out;subst ey;exact⟨updB B 5,G,_,_,_,_,_,_,_,_,_,_,_,rfl,rfl,{ h' with Fac:=(fun q=>absurd ((h'.Fac q).1 5 (by omega)) (by rw[hbi];simp)),Pac:=(fun q=>absurd ((h'.Fac q).1 5 (by omega)) (by rw[hbi];simp)),Fst:=(fun q=>absurd ((h'.Fac (h'.Fst q).1).1 5 (by omega)) (by rw[hbi];simp)),Fix:=(fun _=>⟨⟨d3,d4⟩,rfl⟩),Fle:=(fun q=>absurd (h'.Fle q).1 (by rw[hbi];simp)) }⟩
       ·
        have hbi:B 6=false:=by simpa using (ready_use hi).2.1
        have d5:B 5=true:=ready_dep hi 5 rfl (by kernel_rfl)
        have hac:B 9=false:=by
         cases e:B 9 with
         |false=>rfl
         |true=>exact absurd ((h'.Fac e).1 6 (by omega)) (by rw[hbi];simp)
        have dc:w3.cell? ⟨bN,oN+k,none⟩=some (.slice ai zs.length ci):=((h'.HK hac).cell hbN).trans dE;have Ex:=Lib.hid ((h'.Fix d5).2);rw[Ex.out];refine wpOp_law rfl rfl (fun K hK=>?_);simp only[List.getElem_toArray,List.getElem_cons_succ,List.getElem_cons_zero];go_simp;refine hK.out _ _ ?_;have ex:=Ex.out;subst ex;exact⟨updB B 6,G,_,_,_,_,_,_,_,_,_,_,_,rfl,rfl,{ h' with Fac:=(fun q=>absurd ((h'.Fac q).1 6 (by omega)) (by rw[hbi];simp)),Pac:=(fun q=>absurd ((h'.Fac q).1 6 (by omega)) (by rw[hbi];simp)),Fst:=(fun q=>absurd ((h'.Fac (h'.Fst q).1).1 6 (by omega)) (by rw[hbi];simp)),Fle:=(fun _=>⟨d5,rfl⟩),Fap:=(fun q=>absurd (h'.Fap q).1 (by rw[hbi];simp)),Pap:=(fun q=>absurd (h'.Fap q).1 (by rw[hbi];simp)) }⟩
       ·
        have hbi:B 7=false:=by simpa using (ready_use hi).2.1
        have d6:B 6=true:=ready_dep hi 6 rfl (by kernel_rfl)
        have hac:B 9=false:=by
         cases e:B 9 with
         |false=>rfl
         |true=>exact absurd ((h'.Fac e).1 7 (by omega)) (by rw[hbi];simp)
        have hK3:=h'.HK hac;have hsz:=hK3.size;have Ey:=Lib.hid ((h'.Fle d6).2);rw[Ey.out];refine wpOp_law rfl rfl (fun K hK=>?_);simp only[List.getElem_toArray,List.getElem_cons_succ,List.getElem_cons_zero];go_simp;refine (l1Copy_rd _ _ _ (rE.keep hK3) (by omega)).mono ?_;rintro e wz ⟨vz,rfl,oz,kk⟩;go_wp2_with fail
        refine hK.out _ _ ?_;have ey:=Ey.out;subst ey;obtain⟨az,cz,ez,-⟩:=oz.rd;exact⟨updB B 7,G,_,_,_,_,_,_,_,_,_,_,_,rfl,rfl,{ h' with Fac:=(fun q=>absurd ((h'.Fac q).1 7 (by omega)) (by rw[hbi];simp)),Pac:=(fun q=>absurd ((h'.Fac q).1 7 (by omega)) (by rw[hbi];simp)),Fst:=(fun q=>absurd ((h'.Fac (h'.Fst q).1).1 7 (by omega)) (by rw[hbi];simp)),Fbs:=(fun q=>absurd (h'.Fbs q).1 (by rw[hbi];simp)),HK:=(fun _=>hK3.trans kk),Fap:=(fun _=>⟨d6,az,_,ez⟩),Pap:=(fun _ _=>oz.base_le hsz) }⟩
       ·
        have hbi:B 8=false:=by simpa using (ready_use hi).2.1
        have d7:B 7=true:=ready_dep hi 7 rfl (by kernel_rfl);obtain⟨_,a8,c8,e8⟩:=h'.Fap d7;have Ex:=Lib.hid (e8);rw[Ex.out];refine wpOp_law rfl rfl (fun K hK=>?_);simp only[List.getElem_toArray,List.getElem_cons_succ,List.getElem_cons_zero];clear e8;go_simp;refine hK.out _ _ ?_;have ex:=Ex.out;subst ex;exact⟨updB B 8,w3.heap.size,_,_,_,_,_,_,_,_,_,_,_,rfl,rfl,{ h' with Fac:=(fun q=>absurd ((h'.Fac q).1 8 (by omega)) (by rw[hbi];simp)),Pac:=(fun q=>absurd ((h'.Fac q).1 8 (by omega)) (by rw[hbi];simp)),Fst:=(fun q=>absurd ((h'.Fac (h'.Fst q).1).1 8 (by omega)) (by rw[hbi];simp)),HK:=(fun q=>(h'.HK q).alloc _),Pap:=(fun q r=>(h'.Pap q r).keep ((Keep.refl w3).alloc _)),Fbs:=(fun _=>⟨d7,rfl,fun _=>box_cell (Keep.refl _) 0⟩) }⟩
       ·
        have hbi:B 9=false:=by simpa using (ready_use hi).2.1
        have d1:B 1=true:=ready_dep hi 1 rfl (by kernel_rfl);have d8:B 8=true:=ready_dep hi 8 rfl (by kernel_rfl);have c0:=(h'.Fld d1).1;obtain⟨dap,eG,cG⟩:=h'.Fbs d8;obtain⟨qap,a8,c8,e8⟩:=h'.Fap dap;have dle:=qap;have dix:=(h'.Fle dle).1;obtain⟨⟨dlb,dmv⟩,-⟩:=h'.Fix dix;have dfb:=(h'.Flb dlb).1
        have hall:∀j,j<9→B j=true:=by
         intro j hj;have hj2:j=0∨j=1∨j=2∨j=3∨j=4∨j=5∨j=6∨j=7∨j=8:=by omega
         rcases hj2 with rfl|rfl|rfl|rfl|rfl|rfl|rfl|rfl|rfl
         · exact c0
         · exact d1
         · exact dfb
         · exact dlb
         · exact dmv
         · exact dix
         · exact dle
         · exact dap
         · exact d8
        have hK3:=h'.HK hbi;have oA:=h'.Pap dap hbi;have cG2:=cG hbi;rw[e8] at cG2;have HR:=World.ownsRow.kept HR0 hK3.grownBy (by cases (Value.slice aM k cM).ownBlock<;>simp);have hsz:=hK3.size;have Ex:=Lib.hid ((h'.Fld d1).2);rw[Ex.out];have Ey:=Lib.hid (eG);rw[Ey.out];have Ez:=Lib.hid (e8);rw[Ez.out];refine wpOp_law rfl rfl (fun K hK=>?_);simp only[List.getElem_toArray,List.getElem_cons_succ,List.getElem_cons_zero];clear eG e8;refine wp_append_at _ _ 27 rfl w1.heap.size 25 j0 (.slice none 0 0) 1 24 Try.underlying27 hj hy0 hy1 hy2 rfl (by decide) (.slice aM k cM) k rv rfl HR ⟨G,0,none⟩ 1 1 [.slice a8 zs.length c8] rfl rfl (fun j u hu=>?_) (fun u hu=>by simp at hu;subst hu;rfl) (by unfold maxLen;omega) (by omega) (by omega) ?_
        ·
         match j,hu with
         | 0,hu=>simp at hu;subst hu;simpa [Addr.add] using cG2
        intro vz wz oz gz bz;simp only[Act.put,List.setIfInBounds_toArray,List.set_cons_zero,List.set_cons_succ];refine hK.out _ _ ?_;have ex:=Ex.out;subst ex;have ey:=Ey.out;subst ey;have ez:=Ez.out;subst ez
        have ho7:(hdR 25 (rv++[.slice a8 zs.length c8]) vz).own wz w1.heap.size:=by
         show wz.ownsRow w1.heap.size 25 1 vz (rv++[Value.slice a8 zs.length c8]).length (rv++[Value.slice a8 zs.length c8]);rw[List.length_append,Hln.out];exact oz
        have hu:∀q,(Value.slice a8 zs.length c8).ownBlock=some q→wr.heap.size≤q:=fun q hq=>(World.ownsRow.lt oA q hq).1
        obtain⟨H8,c8',f8⟩:=HH.out.pushR hK3 hu (own_base oA (by omega)) (by rw[HeN.out];exact gz) (by rw[HeN.out];rcases bz with e|e;exact .inl e;exact .inr (.inl e)) ho7;obtain⟨a9,c9,e9,-⟩:=own_head ho7;replace e9:vz = .slice a9 (k+1) c9:=by rw[e9,List.length_append,Hln.out];rfl
        have K9:Keep w1 wz:=(kr.trans hK3).grown gz (fun q hq=>(World.ownsRow.lt HR q hq).1);exact⟨updB B 9,G,_,_,_,_,_,_,_,_,_,_,_,rfl,rfl,{ h' with Fac:=(fun _=>⟨fun j hj=>by unfold updB;rw[if_neg (by omega)];exact hall j hj,a9,c9,e9⟩),Pac:=(fun _ _=>⟨by rw[HT.out];exact H8,c8',f8,K9⟩),Fst:=(fun q=>absurd (h'.Fst q).1 (by rw[hbi];simp)),HK:=(fun q=>by cases q),Pap:=(fun _ q=>by cases q),Fbs:=(fun _=>⟨dap,rfl,fun q=>by cases q⟩) }⟩
       ·
        have hbi:B 10=false:=by simpa using (ready_use hi).2.1
        refine wpOp_law rfl rfl (fun K hK=>?_);simp only[List.getElem_toArray,List.getElem_cons_succ,List.getElem_cons_zero];go_simp;refine hK.out _ _ ?_;exact⟨updB B 10,G,_,_,_,_,_,_,_,_,_,_,_,rfl,rfl,{ h' with Ffc:=(fun _=>rfl),Fac:=(fun q=>⟨fun j hj=>by unfold updB;rw[if_neg (by omega)];exact (h'.Fac q).1 j hj,(h'.Fac q).2⟩) }⟩
       ·
        have hbi:B 11=false:=by simpa using (ready_use hi).2.1
        have d9:B 9=true:=ready_dep hi 9 rfl (by kernel_rfl);have d10:B 10=true:=ready_dep hi 10 rfl (by kernel_rfl);obtain⟨P1,P2,P3,P4⟩:=h'.Pac d9 hbi;obtain⟨-,a9,c9,e9⟩:=h'.Fac d9;have Ex:=Lib.hid (h'.Ffc d10);rw[Ex.out];have Ey:=Lib.hid (e9);rw[Ey.out];refine wpOp_law rfl rfl (fun K hK=>?_);simp only[List.getElem_toArray,List.getElem_cons_succ,List.getElem_cons_zero];clear e9;have HP1:=Lib.hid P1;clear P1;go_simp;refine hK.out _ _ ?_;have ex:=Ex.out;subst ex;have ey:=Ey.out;subst ey;have P1:=HP1.out;exact⟨updB B 11,G,_,_,_,_,_,_,_,_,_,_,_,rfl,rfl,{ h' with HK:=(fun q=>tf_no (d9) q),Pap:=(fun _ q=>tf_no (d9) q),Fbs:=(fun q=>⟨(h'.Fbs q).1,(h'.Fbs q).2.1,fun r=>tf_no (d9) r⟩),Fac:=(fun q=>⟨fun j hj=>by unfold updB;rw[if_neg (by omega)];exact (h'.Fac q).1 j hj,(h'.Fac q).2⟩),Pac:=(fun _ q=>by cases q),Fst:=(fun _=>⟨d9,P1,P4.grown (grown_set w3 D 7 _) (fun q hq=>by have:=Option.some.inj hq;omega)⟩) }⟩
      ·
       rintro listed a w3 ⟨B,G,x51,x52,x53,x54,x55,x56,x57,x58,x59,x60,x61,rfl,rfl,h'⟩ hr;have hall:=ready_all hr rfl (by kernel_rfl);have b11:B 11=true:=hall 11 (by simp);clear hall;obtain⟨HK,Ffa,Fld,Ffb,Flb,Fmv,Fix,Fle,Fap,Pap,Fbs,Fac,Pac,Ffc,Fst⟩:=h';clear hr;obtain⟨-,Q2,Q3⟩:=Fst b11;have HQ2:=Lib.hid Q2;have HQ3:=Lib.hid Q3;clear Q2 Q3 HK Ffa Fld Ffb Flb Fmv Fix Fle Fap Pap Fbs Fac Pac Ffc Fst;go_wp2;go_roundw;case rel=>exact⟨k+1,by omega,by omega,⟨_,_,HQ2.out⟩,HQ3.out⟩
       case measure=>simp[intOf];omega
     ·
      obtain rfl:k=b.rws.length:=by omega
      simp only[List.take_length] at Hr;have hRw:=(Below.block kr (w.heap.size+1) s2).trans hR1;have Hn:OwnBd wr w1.heap.size D bw nv rv bs N dss b:=by cases b;exact Hr
      clear Hr hk hlt;have hDw:=Hn.heapD;obtain⟨aW2,aP2,aL2,aN2,aX2,aT2,aF2,aR2,cW2,cP2,cL2,cQ2,cX2,cT2,cF2,cR2,rfl⟩:=Hn.rd.shapes;simp only[BV.arr] at hDw;have HK:=Lib.hid (K1.trans kr);have HG:=Lib.hid (grown_row3 wr (w.heap.size+1) #[.slice aW2 dss.length cW2,.slice aP2 b.plc.length cP2,.slice aL2 b.lst.length cL2,.slice aN2 b.nts.length cQ2,.slice aX2 b.nxt.length cX2,.slice aT2 b.sn.length cT2,.slice aF2 b.fr.length cF2,.slice aR2 b.rws.length cR2]);have HZ:=Lib.hid (setRow_heap wr (w.heap.size+1) _ #[.slice aW2 dss.length cW2,.slice aP2 b.plc.length cP2,.slice aL2 b.lst.length cL2,.slice aN2 b.nts.length cQ2,.slice aX2 b.nxt.length cX2,.slice aT2 b.sn.length cT2,.slice aF2 b.fr.length cF2,.slice aR2 b.rws.length cR2] _ _ hRw);have hNot:∀q,some (w.heap.size+1)=some q→q<w1.heap.size∧(q<bs∨N≤q):=fun q hq=>by have:=Option.some.inj hq;omega
      have HO:=Lib.hid (((Hn.far HG.out hNot).val).base_le (show w.heap.size≤w1.heap.size by omega));go_wp2_with (first|refine wpList_load_row rfl 29 _ rfl D rfl 29 _ (0,0) _ hDw Try.underlying29 rfl board_info ?_|refine wpList_store_row rfl 29 _ _ rfl (w.heap.size+1) _ rfl rfl 29 _ hRw board_info rfl (by simp[Value.oneCell']) ?_)
      refine bodyPost_ret (results_row (by rfl) _ _ (w.heap.size+1) _ _ (0,0) _ rfl HZ.out Try.underlying29 rfl board_info) rfl ?_;exact⟨⟨.slice aW2 dss.length cW2,.slice aP2 b.plc.length cP2,.slice aL2 b.lst.length cL2,.slice aN2 b.nts.length cQ2,.slice aX2 b.nxt.length cX2,.slice aT2 b.sn.length cT2,.slice aF2 b.fr.length cF2,.slice aR2 b.rws.length cR2⟩,nv,rv,bs,N,rfl,HO.out,by omega,HK.out.grown HG.out (fun q hq=>by have:=Option.some.inj hq;omega)⟩
theorem l15Ink_any (w:World)(m D:Nat)(v:BV)(nv rv:List Value)(bs N:Nat)(dss:List (List Dd))(b:Bd)(p:Nat)(x ev:Int)(h:OwnBd w m D v nv rv bs N dss b)(hp:p<b.plc.length)(hl:p<b.lst.length)(hr:p<b.rws.length)(ht:(b.rws.getD p []).length≤1048576):
  Calls Try.prog 81 #[.pointer (some ⟨D,0,none⟩),.int .i64 p,.int .i64 x,.int .i64 ev] w fun e w'=>e = .returned (.tuple #[])∧∃rv',OwnBd w' m D v nv rv' bs N dss (inkM b p x ev)∧TurnB w w' (blkB D v nv rv) (blkB D v nv rv'):=by
 obtain⟨i0,hi,hz0,hz1,hz2⟩:=info_parts Try.infoI;obtain⟨vW,vP,vL,vN,vX,vS,vF,vR⟩:=v;obtain⟨gp,cp,eP,lp,dp,fp⟩:=h.oP.lit hp;obtain⟨gl,cl,eL,-,-,-⟩:=h.oL.lit hl;obtain⟨aR,cR,eR,hR⟩:=h.hR;rcases hR with h0|⟨gr,rfl,-,-⟩
 · exfalso;rw[h0] at hr;simp at hr
 simp only at eP eL eR;subst eP eL eR;have c1:w.cell? ⟨D,1,none⟩=some (.slice (some ⟨gp,0,none⟩) b.plc.length cp):=h.cells.2.1;have d1:=dp p hp;have f1:=fp p;have mb:=h.base;have mP:=h.ge .plc trivial gp rfl;have mL:=h.ge .lst trivial gl rfl;have mR:=h.ge .rws trivial gr rfl;have i1:(0:Int)≤(p:Int):=Int.natCast_nonneg _;have i2:(p:Int)<(b.plc.length:Int):=by omega
 have i3:(p:Int)<(b.lst.length:Int):=by omega
 have i4:(p:Int)<(b.rws.length:Int):=by omega
 have H1:=h.putP (k:=p) (x:=x) rfl;have B1:=(TurnB.refl w (blkB D ⟨vW,.slice (some ⟨gp,0,none⟩) b.plc.length cp,.slice (some ⟨gl,0,none⟩) b.lst.length cl,vN,vX,vS,vF,.slice (some ⟨gr,0,none⟩) b.rws.length cR⟩ nv rv)).grown (grown_set w gp p (.int .i64 x)) (fun g hg=>⟨.plc,trivial,hg⟩);have HD:=Lib.hid h;clear dp fp h;go_enter Try.func81,Try.ntmps81
 go_upto_region 1 with fail
 obtain⟨w1,hw⟩:∃W:World,W=w.setCell ⟨gp,p,none⟩ (.int .i64 x):=⟨_,rfl⟩;rw[←hw] at H1 B1 ⊢;clear hw c1 d1 f1;obtain⟨gl',cl',eL',ll,dl,fl⟩:=H1.oL.lit hl;simp only[Value.slice.injEq,Option.some.injEq,Addr.mk.injEq,and_true,true_and] at eL';obtain⟨rfl,rfl⟩:=eL';have c2:w1.cell? ⟨D,2,none⟩=some (.slice (some ⟨gl,0,none⟩) b.lst.length cl):=H1.cells.2.2.1;have d2:=dl p hl;have f2:=fl p;have H2:=H1.putL (k:=p) (x:=ev) rfl;have B2:=B1.grown (grown_set w1 gl p (.int .i64 ev)) (fun g hg=>⟨.lst,trivial,hg⟩);clear dl fl;go_upto_region 2 with fail
 obtain⟨w2,hw⟩:∃W:World,W=w1.setCell ⟨gl,p,none⟩ (.int .i64 ev):=⟨_,rfl⟩;rw[←hw] at H2 B2 ⊢;clear hw c2 d2 f2 H1 B1;have H3:OwnBd (w2.drew.alloc (.cells #[.int .i64 ev] 2)) m D _ nv rv bs N dss _:=H2.drew.keep ((Keep.refl _).alloc _);obtain⟨aR',cR',eR',hR'⟩:=H2.drew.hR;simp only[Value.slice.injEq,true_and] at eR';obtain⟨rfl,rfl⟩:=eR';rcases hR' with h0|⟨gr',er,lr,dr⟩
 · exfalso;rw[h0] at hr;simp at hr
 simp only[Option.some.injEq,Addr.mk.injEq,and_true] at er;subst er;have c3:w2.drew.cell? ⟨D,7,none⟩=some (.slice (some ⟨gr,0,none⟩) b.rws.length cR):=H2.drew.cells.2.2.2.2.2.2.2;have d3:=dr p hr;have ow:=H3.oR hr;have zD:=H2.drew.base.2;have B3:=B2.keep (((Keep.refl w2).drew).alloc (.cells #[.int .i64 ev] 2));obtain⟨au,cu,hu⟩:∃a c,rv.getD p nilS = .slice a (b.rws.getD p []).length c:=by obtain⟨a,c,e,_⟩:=ow.rd;exact⟨a,c,e⟩
 have HU:=Lib.hid hu;rw[hu] at d3;have o3:(w2.drew.alloc (.cells #[.int .i64 ev] 2)).ownsRow m 2 1 (.slice au (b.rws.getD p []).length cu) (b.rws.getD p []).length ((b.rws.getD p []).map (Value.int .i64)):=by rw[←hu];exact ow
 have s3:m≤(w2.drew.alloc (.cells #[.int .i64 ev] 2)).heap.size:=by have:=H3.base;omega
 have RL:Hid ((b.rws.getD p []).length≤1048576):=Lib.hid ht;have c4:w2.cell? ⟨D,7,none⟩=some (.slice (some ⟨gr,0,none⟩) b.rws.length cR):=c3;have d4:w2.cell? ⟨gr,p,none⟩=some (.slice au (b.rws.getD p []).length cu):=d3;have l4:gr<w2.heap.size:=lr;have z4:D<w2.heap.size:=zD;have c5:(w2.alloc (.cells #[.int .i64 ev] 2)).cell? ⟨D,7,none⟩=some (.slice (some ⟨gr,0,none⟩) b.rws.length cR):=(((Keep.refl w2).alloc _).cell z4).trans c4;have d5:(w2.alloc (.cells #[.int .i64 ev] 2)).cell? ⟨gr,p,none⟩=some (.slice au (b.rws.getD p []).length cu):=(((Keep.refl w2).alloc _).cell l4).trans d4;clear ow dr hu;generalize hZ:b.rws.getD p []=Z at *;have HZ:=Lib.hid hZ;clear hZ;go_wp2_with fail
 go_region_law ((first
  | (refine step_append_at rfl (.tmp 33) (.tmp 35) 25 rfl m 2 i0 (.int .i64 0) 1 8 Try.underlying25 hi hz0 hz1 hz2 rfl (by decide) (.slice au Z.length cu) Z.length (Z.map (Value.int .i64)) rfl o3 ⟨_,0,none⟩ 1 1 [.int .i64 ev] rfl rfl (fun j u hj=>by match j,hj with|0,hj=>simp at hj;subst hj;simp[Addr.add]) (fun u hu=>by simp at hu;subst hu;rfl) (by unfold maxLen;omega) (by omega) s3 ?_;intro v' w5 hown' hgrow hblk;have HH:=H3.headR hr (u:=v') (zs:=Z++[ev]) (by rw[HU.out];exact hgrow) (by rw[HU.out];rcases hblk with h|h;exact .inl h;exact .inr (.inl h)) (own_hit hown') rfl;obtain⟨HO,hcell,hfr⟩:=HH;have c6:w5.cell? ⟨D,7,none⟩=some (.slice (some ⟨gr,0,none⟩) b.rws.length cR):=(H3.stay (.rw p) (by show p<rv.length;rw[H3.lr];exact hr) (by simp) (by show World.grownBy _ _ (rv.getD p nilS).ownBlock;rw[HU.out];exact hgrow) 7).trans c5;obtain⟨a5,q5,hv5,-⟩:=(own_hit hown').rd;rw[List.length_append,List.length_singleton] at hv5;subst hv5)))
 all_goals
  go_wp2;go_end0;refine⟨rfl,rv.set p (.slice a5 (Z.length+1) q5),?_,?_⟩
  ·
   have e:inkM b p x ev={ b with plc:=b.plc.set p x,lst:=b.lst.set p ev,rws:=b.rws.set p (Z++[ev]) }:=by rw[inkM,HZ.out]
   rw[e];exact HO
  ·
   have hpr:p<rv.length:=by rw[H3.lr];exact hr
   refine ((B3.grown hgrow (fun k hk=>⟨.rw p,hpr,by show (rv.getD p nilS).ownBlock=_;rw[HU.out];exact hk⟩)).grown (grown_set _ gr p _) (fun g hg=>⟨.rws,trivial,hg⟩)).more (fun g hg=>?_);obtain⟨i,hi,e⟩:=hg
   cases i with
   |rw q=>
    have hq:q<rv.length:=by simpa [liveB] using hi
    by_cases eq:q=p
    ·
     subst eq;have e:((rv.set q (.slice a5 (Z.length+1) q5)).getD q nilS).ownBlock=some g:=e;rw[getD_setV _ _ _ _ hq,if_pos rfl] at e;rcases hblk with hb|hb
     · left;exact⟨.rw q,hq,by show (rv.getD q nilS).ownBlock=_;rw[HU.out,←hb];exact e⟩
     ·
      right;rw[hb] at e;have e2:(w2.drew.alloc (.cells #[.int .i64 ev] 2)).heap.size=g:=Option.some.inj e;rw[←e2];exact B3.size
    ·
     have e:((rv.set p (.slice a5 (Z.length+1) q5)).getD q nilS).ownBlock=some g:=e;rw[getD_setV _ _ _ _ hpr,if_neg eq] at e;exact .inl ⟨.rw q,hq,e⟩
   |nt q=>exact .inl ⟨.nt q,hi,e⟩
   |bd=>exact .inl ⟨.bd,trivial,e⟩
   |plc=>exact .inl ⟨.plc,trivial,e⟩
   |lst=>exact .inl ⟨.lst,trivial,e⟩
   |nts=>exact .inl ⟨.nts,trivial,e⟩
   |nxt=>exact .inl ⟨.nxt,trivial,e⟩
   |sn=>exact .inl ⟨.sn,trivial,e⟩
   |fr=>exact .inl ⟨.fr,trivial,e⟩
   |rws=>exact .inl ⟨.rws,trivial,e⟩
theorem specReadsOf_any (w:World)(v:Value)(es:List Ev)(h:RdE w v es)(hx:es.length≤1048576):
  Calls Try.prog 43 #[v] w fun e w'=>∃v',e = .returned v'∧Own w' w.heap.size v' (idxB rdE es)∧Keep w w':=by
 have hown0:Own (w.alloc (.cells #[] 2)) w.heap.size (.slice (some ⟨w.heap.size,0,none⟩) 0 0) []:=World.ownsRow_lit w #[] 0 (Nat.le_refl _) (by decide) rfl;obtain⟨a,cap,rfl,h⟩:=h;by_cases hl:12<es.length
 ·
  have HE:Hid (idxB rdE es=[]):=Lib.hid (by unfold idxB;rw[if_neg (by omega)]);have l1:(12:Int)<(es.length:Int):=by omega
  go_enter Try.func43,Try.ntmps43
  go_wp2;refine wp_loop_rounds 1 ?_;rw[rounds_succ];go_wp2;go_ret;exact⟨_,rfl,by rw[HE.out];exact hown0,(Keep.refl _).alloc _⟩
 have l1:es.length≤12:=by omega
 clear hl;have HE:Hid (idxB rdE es=idxK rdE es es.length):=Lib.hid (by unfold idxB;rw[if_pos l1]);obtain⟨i0,hi,hz0,hz1,hz2⟩:=info_parts Try.infoI;go_enter Try.func43,Try.ntmps43
 go_wp2;go_loopw [3,4] (fun v i wr=>∃k:Nat,k≤es.length∧i = .int .i64 k∧Own wr w.heap.size v (idxK rdE es k)∧Keep w wr) (fun _ i _=>es.length-(intOf i).toNat)
 case atStart=>exact⟨0,Nat.zero_le _,rfl,hown0,(Keep.refl _).alloc _⟩
 case round=>
  obtain⟨k,hk,rfl,ho,hK⟩:=hrel;clear hown0;by_cases hlt:k<es.length
  ·
   rcases h with h|⟨b,off,rfl,hb,hc⟩
   · exfalso;rw[h] at hlt;simp at hlt
   have AT:=(hc k _ (evs_get hlt)).keep hb hK;have hbw:b<wr.heap.size:=Nat.lt_of_lt_of_le hb hK.size;clear hc;have hml:(idxK rdE es k).length≤k:=idxK_len rdE es k;have hsz:=hK.size;have i1:(0:Int)≤(k:Int):=Int.natCast_nonneg _;have i2:(k:Int)<(es.length:Int):=by omega
   have l2:(es.length:Int)≤12:=by omega
   have HP:Hid (idxK rdE es (k+1)=if rdE (es.getD k zE)=true then idxK rdE es k++[(k:Int)] else idxK rdE es k):=Lib.hid rfl;obtain⟨e,he⟩:∃e,e=es.getD k zE:=⟨_,rfl⟩;rw[←he] at AT HP;clear he;obtain⟨x0,x1,x2,x3,x4,x5⟩:=e;obtain⟨-,-,A2,-,-,-⟩:=atE AT;clear AT;cases x2
   ·
    have HM:Hid (idxK rdE es (k+1)=idxK rdE es k):=Lib.hid (by rw[HP.out];rfl);clear HP;go_wp2;go_roundw;case rel=>exact⟨k+1,by omega,by go_num,by rw[HM.out];exact ho,hK⟩
    case measure=>simp[intOf];omega
   ·
    have HM:Hid (idxK rdE es (k+1)=idxK rdE es k++[(k:Int)]):=Lib.hid (by rw[HP.out];rfl);clear HP;go_wp2_with (at_builtin;refine wpList_append_own _ rfl _ _ 25 rfl w.heap.size 2 i0 (.int .i64 0) 1 8 Try.underlying25 hi hz0 hz1 hz2 rfl (by decide) _ _ _ rfl (World.ownsRow.alloc ho _) ⟨_,0,none⟩ 1 1 [.int .i64 k] rfl rfl ?c1 ?c2 ?c3 ?c4 ?c5 ?_)
    case c1=>
     intro j u hj
     match j,hj with
     | 0,hj=>simp at hj;subst hj;simp[Addr.add]
    case c2=>intro u hu;simp at hu;subst hu;rfl
    case c3=>unfold maxLen;omega
    case c4=>omega
    case c5=>simp;omega
    intro v' w1 hown' hgrow _;have hK1:Keep w w1:=(hK.alloc _).grown hgrow ho.ge;clear hgrow;go_wp2;go_roundw;case rel=>exact⟨k+1,by omega,by go_num,by rw[HM.out];exact own_hit hown',hK1⟩
    case measure=>simp[intOf];omega
  ·
   obtain rfl:k=es.length:=by omega
   go_wp2;go_ret;exact⟨_,rfl,by rw[HE.out];exact ho,hK⟩
theorem l15See_any (w:World)(m D:Nat)(v:BV)(nv rv:List Value)(bs N:Nat)(dss:List (List Dd))(b:Bd)(ve:Value)(es:List Ev)(ev x f:Int)(h:OwnBd w m D v nv rv bs N dss b)(he:RdE w ve es)(hl:es.length≤12)(hs:b.sn.length=(idxB rdE es).length)(hf:b.fr.length=(idxB rdE es).length):
  Calls Try.prog 108 #[.pointer (some ⟨D,0,none⟩),ve,.int .i64 ev,.int .i64 x,.int .i64 f] w fun e w'=>e = .returned (.tuple #[])∧OwnBd w' m D v nv rv bs N dss (seeM (idxB rdE es) b ev x f)∧TurnB w w' (blkB D v nv rv) (blkB D v nv rv):=by
 have hb:=h.base;have HE:Hid (seeM (idxB rdE es) b ev x f={ b with sn:=setK (idxB rdE es) ev x b.sn (idxB rdE es).length,fr:=setK (idxB rdE es) ev f b.fr (idxB rdE es).length }):=Lib.hid (by rw[seeM,setK_same hs,setK_same hf]);generalize seeM (idxB rdE es) b ev x f=B' at HE ⊢
 have r12:(idxB rdE es).length≤12:=by
  unfold idxB;rw[if_pos hl];have:=idxK_len rdE es es.length;omega
 have HS5:Hid (∀k,v.S.ownBlock=some k→k<w.heap.size):=Lib.hid (fun k hk=>(h.fam.lt (i:= .sn) trivial k hk).2);have HF6:Hid (∀k,v.F.ownBlock=some k→k<w.heap.size):=Lib.hid (fun k hk=>(h.fam.lt (i:= .fr) trivial k hk).2);obtain⟨vW,vP,vL,vN,vX,vS,vF,vR⟩:=v;have HS:=Lib.hid hs;have HFL:=Lib.hid hf;go_enter Try.func108,Try.ntmps108
 go_wp2_with fail
 refine (specReadsOf_any _ _ _ he (by omega)).mono ?_;rintro e w1 ⟨v1,rfl,o1,k1⟩;have H1:=h.keep k1;have B1:TurnB w w1 (blkB D ⟨vW,vP,vL,vN,vX,vS,vF,vR⟩ nv rv) (blkB D ⟨vW,vP,vL,vN,vX,vS,vF,vR⟩ nv rv):=(TurnB.refl _ _).keep k1;have s1:=k1.size;generalize idxB rdE es=rs at *;obtain⟨a1,c1,rfl,-⟩:=o1.rd;clear h he hs hf;go_wp2;go_loopw [11] (fun i wr=>∃k:Nat,k≤rs.length∧i = .int .i64 k∧OwnBd wr m D ⟨vW,vP,vL,vN,vX,vS,vF,vR⟩ nv rv bs N dss { b with sn:=setK rs ev x b.sn k,fr:=setK rs ev f b.fr k }∧Own wr w.heap.size (.slice a1 rs.length c1) rs∧TurnB w wr (blkB D ⟨vW,vP,vL,vN,vX,vS,vF,vR⟩ nv rv) (blkB D ⟨vW,vP,vL,vN,vX,vS,vF,vR⟩ nv rv)) (fun i _=>rs.length-(intOf i).toNat)
 case atStart=>exact⟨0,Nat.zero_le _,rfl,H1,o1,B1⟩
 case round=>
  obtain⟨k,hk,rfl,H,ho,B⟩:=hrel;clear H1 B1;by_cases hlt:k<rs.length
  ·
   obtain⟨a',c',e',hc⟩:=ho.rd;simp only[Value.slice.injEq,true_and] at e';obtain⟨rfl,rfl⟩:=e';rcases hc with h0|⟨br,or',rfl,hbr,hcr⟩
   · exfalso;rw[h0] at hlt;simp at hlt
   have d1:=hcr k hlt;have i1:(0:Int)≤(k:Int):=Int.natCast_nonneg _;have i2:(k:Int)<(rs.length:Int):=by omega
   have HH:rs.getD k 0=ev→Hid (setK rs ev x b.sn (k+1)=(setK rs ev x b.sn k).set k x∧setK rs ev f b.fr (k+1)=(setK rs ev f b.fr k).set k f):=fun e=>Lib.hid ⟨by rw[setK,if_pos (decide_eq_true e)],by rw[setK,if_pos (decide_eq_true e)]⟩
   have HZ:rs.getD k 0≠ev→Hid (setK rs ev x b.sn (k+1)=setK rs ev x b.sn k∧setK rs ev f b.fr (k+1)=setK rs ev f b.fr k):=fun e=>Lib.hid ⟨by rw[setK,if_neg (by simpa using e)],by rw[setK,if_neg (by simpa using e)]⟩
   generalize rs.getD k 0=r at d1 HH HZ;clear hcr;by_cases er:r=ev
   ·
    have HM:=HH er;have be:(r==ev)=true:=by simp[er]
    subst er;clear HH HZ;have ls:(setK rs r x b.sn k).length=b.sn.length:=setK_len _ _ _ _ _;have lf:(setK rs r f b.fr k).length=b.fr.length:=setK_len _ _ _ _ _;have hks:k<(setK rs r x b.sn k).length:=by rw[ls,HS.out];exact hlt
    have hkf:k<(setK rs r f b.fr k).length:=by rw[lf,HFL.out];exact hlt
    generalize setK rs r x b.sn k=SN at *;generalize setK rs r f b.fr k=FR at *;obtain⟨gs,cs,eS,lgs,dS,fS⟩:=H.oS.lit hks;obtain⟨gf,cf,eF,-,-,-⟩:=H.oF.lit hkf;simp only at eS eF;subst eS eF;have c5:wr.cell? ⟨D,5,none⟩=some (.slice (some ⟨gs,0,none⟩) SN.length cs):=H.cells.2.2.2.2.2.1;have d5:=dS k hks;have f5:=fS k;have i3:(k:Int)<(SN.length:Int):=by omega
    have i4:(k:Int)<(FR.length:Int):=by omega
    have lS:gs<w.heap.size:=HS5.out gs rfl;have lF:gf<w.heap.size:=HF6.out gf rfl;have nS:(Value.slice (some ⟨br,or',none⟩) rs.length c1).ownBlock=none∨(Value.slice (some ⟨br,or',none⟩) rs.length c1).ownBlock≠some gs:= .inr (fun e=>by have:=ho.ge gs e;omega);have nF:(Value.slice (some ⟨br,or',none⟩) rs.length c1).ownBlock=none∨(Value.slice (some ⟨br,or',none⟩) rs.length c1).ownBlock≠some gf:= .inr (fun e=>by have:=ho.ge gf e;omega);have H2:=H.putS (k:=k) (x:=x) rfl;have B2:=B.grown (grown_set wr gs k (.int .i64 x)) (fun g hg=>⟨.sn,trivial,hg⟩);have o2:=ho.kept (grown_set wr gs k (.int .i64 x)) nS;clear dS fS;go_upto_region 6 with fail
    obtain⟨w2,hw⟩:∃W:World,W=wr.setCell ⟨gs,k,none⟩ (.int .i64 x):=⟨_,rfl⟩;rw[←hw] at H2 B2 o2 ⊢;clear hw c5 d5 f5 d1 H B ho;obtain⟨gf',cf',eF',lgf,dF,fF⟩:=H2.oF.lit hkf;simp only[Value.slice.injEq,Option.some.injEq,Addr.mk.injEq,and_true,true_and] at eF';obtain⟨rfl,rfl⟩:=eF';have c6:w2.cell? ⟨D,6,none⟩=some (.slice (some ⟨gf,0,none⟩) FR.length cf):=H2.cells.2.2.2.2.2.2.1;have d6:=dF k hkf;have f6:=fF k;have H3:=H2.putF (k:=k) (x:=f) rfl;have B3:=B2.grown (grown_set w2 gf k (.int .i64 f)) (fun g hg=>⟨.fr,trivial,hg⟩);have o3:=o2.kept (grown_set w2 gf k (.int .i64 f)) nF;clear dF fF;go_wp2;go_roundw;case rel=>exact⟨k+1,by omega,by go_num,by rw[HM.out.1,HM.out.2];exact H3,o3,B3⟩
    case measure=>simp[intOf];omega
   ·
    have HM:=HZ er;have be:(r==ev)=false:=by simp[er]
    clear HH HZ;go_wp2;go_roundw;case rel=>exact⟨k+1,by omega,by go_num,by rw[HM.out.1,HM.out.2];exact H,ho,B⟩
    case measure=>simp[intOf];omega
  ·
   obtain rfl:k=rs.length:=by omega
   go_wp2;go_end0;exact⟨rfl,by rw[HE.out];exact H,B⟩
end Go.Proofs.Ytgakfkjjkobpiaa
