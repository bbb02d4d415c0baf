/- Gathered texts. -/
import Derived.Test.YtnmelakgmgenjaaGreatML
import Derived.Deep.Cut
import Derived.Laws.Tables
import Derived.Deep.RegionLaw
import Derived.RegionTactic
set_option maxRecDepth 100000
set_option maxHeartbeats 8000000
namespace Go.Proofs.YtnmelakgmgenjaaGreat
open Go.ChangeShapes Go.WideShapes Go.ChangeAt Go.RowKit
def Yd (b:Bd):Bd:={ b with AG:=[],rws:=[] }
def jR:BI->Option Nat
 | .bd=>some 19
 | .AM=>some 5
 | .AO=>some 8
 | .AL=>some 11
 | .sn=>some 14
 | .fr=>some 17
 |_=>none
theorem gI:∀a b i,jR a=some i->jR b=some i->a=b:=by
 intro a b i h1 h2;unfold jR at h1 h2;split at h1<;>split at h2<;>first|rfl|(simp only[Option.some.injEq] at h1 h2;omega)|(cases h2;done)|(cases h1;done)
theorem kg {w:World}{m D bs N:Nat}{B:Nat->Bool}{R:Nat->Rw}{AA:List (List Dd)}{b:Bd}{x8 x11 x14 x17 x20 x23:Value}(HM:Mk w m (DY [5,8,11,14,17,19] B) R true x8 bs N AA)
  (b5:B 5=true) (b8:B 8=true) (b11:B 11=true) (b14:B 14=true) (b17:B 17=true) (b19:B 19=true)
  (r5:R 5=Bn b.AM x11) (r8:R 8=Bn b.AO x14) (r11:R 11=Bn b.AL x17) (r14:R 14=Bn b.sn x20) (r17:R 17=Bn b.fr x23) (r19:R 19=Ha D ⟨x8,x11,x14,AE,x17,x20,x23,AE⟩):AR w m D ⟨x8,x11,x14,AE,x17,x20,x23,AE⟩ [] [] bs N AA (Yd b):=by
 have H1:∀a i,BZ [] [] a->jR a=some i->DY [5,8,11,14,17,19] B i/\Ax D ⟨x8,x11,x14,AE,x17,x20,x23,AE⟩ [] [] (Yd b) a=R i:=by
  intro a i _ hi;unfold jR at hi;split at hi<;>simp at hi<;>subst hi
  . exact⟨⟨by decide,b19⟩,r19.symm⟩
  . exact⟨⟨by decide,b5⟩,r5.symm⟩
  . exact⟨⟨by decide,b8⟩,r8.symm⟩
  . exact⟨⟨by decide,b11⟩,r11.symm⟩
  . exact⟨⟨by decide,b14⟩,r14.symm⟩
  . exact⟨⟨by decide,b17⟩,r17.symm⟩
 have H2:∀a,BZ [] [] a->jR a=none->(Ax D ⟨x8,x11,x14,AE,x17,x20,x23,AE⟩ [] [] (Yd b) a).own w m/\(Ax D ⟨x8,x11,x14,AE,x17,x20,x23,AE⟩ [] [] (Yd b) a).v.ownBlock=none:=by
  intro a ha hn
  match a,ha,hn with
  | .AG,_,_=>exact⟨IQ _ _ _ _,rfl⟩
  | .rws,_,_=>exact⟨IQ _ _ _ _,rfl⟩
  | .nt c,ha,_=>exact absurd (show c<0 from ha) (by omega)
  | .rw c,ha,_=>exact absurd (show c<0 from ha) (by omega)
 refine⟨HM.Ai.via jR gI H1 H2,rfl,rfl,(HM.work rfl).1,(HM.work rfl).2.1,fun a ha k hk=>?_⟩
 cases e:jR a with
 |none=>rw[(H2 a ha e).2] at hk;cases hk
 |some i=>rw[(H1 a i ha e).2] at hk;exact HM.out rfl i (H1 a i ha e).1 k hk
structure oh (w:World)(w1:World)(AA:List (List Dd))(b:Bd)(aW:Option Addr)(aP:Option Addr)(aL:Option Addr)(aX:Option Addr)(aT:Option Addr)(aF:Option Addr)(cW:Nat)(cP:Nat)(cL:Nat)(cX:Nat)(cT:Nat)(cF:Nat)(B:Nat->Bool)(R:Nat->Rw)(bs:Nat)(N:Nat)(D:Nat)(x3 x6 x7 x8 x9 x10 x11 x12 x13 x14 x15 x16 x17 x18 x19 x20 x21 x22 x23 x24:Value)(w3:World):Prop where
 HM:Mk w3 w1.heap.size (DY [5,8,11,14,17,19] B) R (B 2) x8 bs N AA
 HK:AC w1 w3
 F0:B 0=true->x6 = .pointer (some ⟨w.heap.size,0,none⟩)
 F1:B 1=true->x7 = .slice aW AA.length cW
 F2:B 2=true->∃a c,x8 = .slice a AA.length c
 F3:B 3=true->x9 = .pointer (some ⟨w.heap.size,1,none⟩)
 F4:B 4=true->x10 = .slice aP b.AM.length cP
 F5:B 5=true->(∃a c,x11 = .slice a b.AM.length c)/\R 5=Bn b.AM x11
 F6:B 6=true->x12 = .pointer (some ⟨w.heap.size,2,none⟩)
 F7:B 7=true->x13 = .slice aL b.AO.length cL
 F8:B 8=true->(∃a c,x14 = .slice a b.AO.length c)/\R 8=Bn b.AO x14
 F9:B 9=true->x15 = .pointer (some ⟨w.heap.size,4,none⟩)
 F10:B 10=true->x16 = .slice aX b.AL.length cX
 F11:B 11=true->(∃a c,x17 = .slice a b.AL.length c)/\R 11=Bn b.AL x17
 F12:B 12=true->x18 = .pointer (some ⟨w.heap.size,5,none⟩)
 F13:B 13=true->x19 = .slice aT b.sn.length cT
 F14:B 14=true->(∃a c,x20 = .slice a b.sn.length c)/\R 14=Bn b.sn x20
 F15:B 15=true->x21 = .pointer (some ⟨w.heap.size,6,none⟩)
 F16:B 16=true->x22 = .slice aF b.fr.length cF
 F17:B 17=true->(∃a c,x23 = .slice a b.fr.length c)/\R 17=Bn b.fr x23
 F18:B 18=true->(B 2=true/\B 5=true/\B 8=true/\B 11=true/\B 14=true/\B 17=true)/\x24 = .agg #[x8,x11,x14,AE,x17,x20,x23,AE]
 F19:B 19=true->x3 = .pointer (some ⟨D,0,none⟩)/\(R 19).v = .slice (some ⟨D,0,none⟩) 1 1/\(B 20=false->R 19=⟨36,8,.slice (some ⟨D,0,none⟩) 1 1,1,[AE,AE,AE,AE,AE,AE,AE,AE]⟩)
 F20:B 20=true->B 18=true/\B 19=true
 F21:B 20=true->R 19=Ha D ⟨x8,x11,x14,AE,x17,x20,x23,AE⟩
structure om (w:World)(w1:World)(wr:World)(D:Nat)(k:Nat)(aM:Option Addr)(cM:Nat)(bN:Nat)(oN:Nat)(cQ:Nat)(ai:Option Addr)(ci:Nat)(ns:List Nt)(b:Bd)(bw:BV)(nv:List Value)(bs:Nat)(N:Nat)(AA:List (List Dd))(B:Nat->Bool)(G:Nat)(x32 x33 x34 x35 x36 x37 x38 x39 x40 x41 x42 x43:Value)(w3:World):Prop where
 HK:B 10=false->AC wr w3
 bg:B 0=true->x32 = .pointer (some ⟨D,3,none⟩)
 TB:B 1=true->B 0=true/\x33 = .slice aM k cM
 dA:B 2=true->∃g,x34 = .slice (some ⟨g,0,none⟩) 0 0
 RI:B 2=true->B 8=false->B5 cN 104 3 w3 wr.heap.size x34 []
 cK:B 3=true->x35 = .pointer (some ⟨w.heap.size,3,none⟩)
 TA:B 4=true->B 3=true/\x36 = .slice (some ⟨bN,oN,none⟩) b.AG.length cQ
 dD:B 5=true->x37 = .int .i64 (k:Int)
 Ph:B 6=true->(B 4=true/\B 5=true)/\x38 = .pointer (some ⟨bN,oN+k,none⟩)
 TC:B 7=true->B 6=true/\x39 = .slice ai ns.length (ns.length+ci)
 Nw:B 8=true->(B 2=true/\B 7=true)/\∃a c,x40 = .slice a ns.length c
 OY:B 8=true->B 10=false->B5 cN 104 3 w3 wr.heap.size x40 ns
 MW:B 9=true->B 8=true/\x41 = .slice (some ⟨G,0,none⟩) 1 1/\(B 10=false->w3.cell? ⟨G,0,none⟩=some x40)
 B0:B 10=true->(∀j,j<10->B j=true)/\∃a c,x42 = .slice a (k+1) c
 Jo:B 10=true->B 12=false->AR (w3.setCell ⟨D,3,none⟩ x42) w1.heap.size D { bw with N:=x42 } (nv++[x40]) [] bs N AA { Yd b with AG:=b.AG.take (k+1) }/\w3.cell? ⟨D,3,none⟩=some bw.N/\w3.frozen? ⟨D,3,none⟩=false/\AC w1 w3
 cZ:B 11=true->x43 = .pointer (some ⟨D,3,none⟩)
 Ed:B 12=true->B 10=true/\AR (w3) w1.heap.size D { bw with N:=x42 } (nv++[x40]) [] bs N AA { Yd b with AG:=b.AG.take (k+1) }/\AC w1 w3
structure bZ (w:World)(w1:World)(wr:World)(D:Nat)(k:Nat)(aM:Option Addr)(cM:Nat)(bN:Nat)(oN:Nat)(cR:Nat)(ai:Option Addr)(ci:Nat)(zs:List Int)(b:Bd)(bw:BV)(nv:List Value)(rv:List Value)(bs:Nat)(N:Nat)(AA:List (List Dd))(B:Nat->Bool)(G:Nat)(x51 x52 x53 x54 x55 x56 x57 x58 x59 x60 x61:Value)(w3:World):Prop where
 HK:B 9=false->AC wr w3
 bg:B 0=true->x51 = .pointer (some ⟨D,7,none⟩)
 TB:B 1=true->B 0=true/\x52 = .slice aM k cM
 cK:B 2=true->x53 = .pointer (some ⟨w.heap.size,7,none⟩)
 TA:B 3=true->B 2=true/\x54 = .slice (some ⟨bN,oN,none⟩) b.rws.length cR
 dD:B 4=true->x55 = .int .i64 (k:Int)
 Ph:B 5=true->(B 3=true/\B 4=true)/\x56 = .pointer (some ⟨bN,oN+k,none⟩)
 TC:B 6=true->B 5=true/\x57 = .slice ai zs.length ci
 Nw:B 7=true->(B 6=true)/\∃a c,x58 = .slice a zs.length c
 OY:B 7=true->B 9=false->BM w3 wr.heap.size x58 zs
 MW:B 8=true->B 7=true/\x59 = .slice (some ⟨G,0,none⟩) 1 1/\(B 9=false->w3.cell? ⟨G,0,none⟩=some x58)
 B0:B 9=true->(∀j,j<9->B j=true)/\∃a c,x60 = .slice a (k+1) c
 Jo:B 9=true->B 11=false->AR (w3.setCell ⟨D,7,none⟩ x60) w1.heap.size D { bw with R:=x60 } nv (rv++[x58]) bs N AA { Yd b with AG:=b.AG,rws:=b.rws.take (k+1) }/\w3.cell? ⟨D,7,none⟩=some bw.R/\w3.frozen? ⟨D,7,none⟩=false/\AC w1 w3
 cZ:B 10=true->x61 = .pointer (some ⟨D,7,none⟩)
 Ed:B 11=true->B 9=true/\AR (w3) w1.heap.size D { bw with R:=x60 } nv (rv++[x58]) bs N AA { Yd b with AG:=b.AG,rws:=b.rws.take (k+1) }/\AC w1 w3
theorem IE (w:World)(bv:BV)(AA:List (List Dd))(b:Bd)(h:CV w bv AA b)(hb:AW AA b=true):
  Calls Tryz.prog 51 #[bv.agg] w fun e w'=>∃bv' nv rv bs N,e = .returned (BV.agg bv')/\BG w' w.heap.size bv' nv rv bs N AA b/\w.heap.size<=bs/\AC w w':=by
 obtain⟨hwk,q1,q2,q3,q4,q5,q6,q7,q8,q9⟩:=ED hb;obtain⟨u1,hll⟩:=G7 hwk;have HQ:=Lib.hid (show _/\_/\_/\_ from ⟨q3,q4,q8,q9⟩);have g1:b.AM.length<=1048576:=by omega
 have g2:b.AO.length<=1048576:=by omega
 have g3:b.AL.length<=1048576:=by omega
 clear q1 q2 q3 q4 q5 q8 q9 hwk;obtain⟨aW,aP,aL,aN,aX,aT,aF,aR,cW,cP,cL,cQ,cX,cT,cF,cR,rfl⟩:=h.shapes;go_enter Tryz.func51,Tryz.ntmps51
 go_upto_region 1 with fail
 obtain⟨w1,hw1⟩:∃W:World,W=(w.alloc (.cells #[.slice aW AA.length cW,.slice aP b.AM.length cP,.slice aL b.AO.length cL,.slice aN b.AG.length cQ,.slice aX b.AL.length cX,.slice aT b.sn.length cT,.slice aF b.fr.length cF,.slice aR b.rws.length cR] 36)).alloc (.cells #[AE,AE,AE,AE,AE,AE,AE,AE] 36):=⟨_,rfl⟩;have K1:AC w w1:=by rw[hw1];exact ((AC.refl w).alloc _).alloc _
 have s1:w1.heap.size=w.heap.size+1+1:=by rw[hw1,AD,AD]
 have hB1:w1.heap[w.heap.size]? = some (.cells #[.slice aW AA.length cW,.slice aP b.AM.length cP,.slice aL b.AO.length cL,.slice aN b.AG.length cQ,.slice aX b.AL.length cX,.slice aT b.sn.length cT,.slice aF b.fr.length cF,.slice aR b.rws.length cR] 36 (0,0)):=by rw[hw1];exact CX ((AC.refl _).alloc _)
 have hR1:w1.heap[w.heap.size+1]? = some (.cells #[AE,AE,AE,AE,AE,AE,AE,AE] 36 (0,0)):=by rw[hw1,<-AD w (.cells #[.slice aW AA.length cW,.slice aP b.AM.length cP,.slice aL b.AO.length cL,.slice aN b.AG.length cQ,.slice aX b.AL.length cX,.slice aT b.sn.length cT,.slice aF b.fr.length cF,.slice aR b.rws.length cR] 36)];exact heap_alloc_new _ _
 rw[<-hw1];clear hw1;have CC:Hid (∀k u,(#[.slice aW AA.length cW,.slice aP b.AM.length cP,.slice aL b.AO.length cL,.slice aN b.AG.length cQ,.slice aX b.AL.length cX,.slice aT b.sn.length cT,.slice aF b.fr.length cF,.slice aR b.rws.length cR]:Array Value)[k]? = some u->w1.cell? ⟨w.heap.size,k,none⟩=some u):=Lib.hid (fun k u hk=>by rw[cell_of_row w1 _ k _ _ _ hB1];exact hk);have S1:=Lib.hid s1;have s2:w.heap.size+1<w1.heap.size:=by omega
 clear s1;go_cut [3] from 6 (fun s3 wx=>∃D bv' bs N,s3 = .pointer (some ⟨D,0,none⟩)/\AR wx w1.heap.size D bv' [] [] bs N AA (Yd b)/\w1.heap.size<=bs/\AC w1 wx)
 case first=>
  refine Bx (by kernel_rfl) (fun listed a w3=>∃(B:Nat->Bool) (R:Nat->Rw) (bs:Nat) (N:Nat) (D:Nat) (x3 x6 x7 x8 x9 x10 x11 x12 x13 x14 x15 x16 x17 x18 x19 x20 x21 x22 x23 x24:Value),listed=#[B 0,B 1,B 2,B 3,B 4,B 5,B 6,B 7,B 8,B 9,B 10,B 11,B 12,B 13,B 14,B 15,B 16,B 17,B 18,B 19,B 20]/\a=⟨#[.agg #[.slice aW AA.length cW,.slice aP b.AM.length cP,.slice aL b.AO.length cL,.slice aN b.AG.length cQ,.slice aX b.AL.length cX,.slice aT b.sn.length cT,.slice aF b.fr.length cF,.slice aR b.rws.length cR],.pointer (some ⟨w.heap.size,0,none⟩),.pointer (some ⟨w.heap.size+1,0,none⟩),x3,undef,undef,x6,x7,x8,x9,x10,x11,x12,x13,x14,x15,x16,x17,x18,x19,x20,x21,x22,x23,x24,undef,undef,undef,undef,undef,undef,undef,undef,undef,undef,undef,undef,undef,undef,undef,undef,undef,undef,undef,undef,undef,undef,undef,undef,undef,undef,undef,undef,undef,undef,undef,undef,undef,undef,undef,undef,undef,undef],[]⟩/\oh w w1 AA b aW aP aL aX aT aF cW cP cL cX cT cF B R bs N D x3 x6 x7 x8 x9 x10 x11 x12 x13 x14 x15 x16 x17 x18 x19 x20 x21 x22 x23 x24 w3) ?_ ?_ ?_
  . exact⟨fun _=>false,fun _=>⟨0,0,AE,0,[]⟩,0,0,0,undef,undef,undef,undef,undef,undef,undef,undef,undef,undef,undef,undef,undef,undef,undef,undef,undef,undef,undef,undef,rfl,rfl,⟨Mk.start _ _ _ _ _ _ _ _,(AC.refl w1).drew,(fun q=>by cases q),(fun q=>by cases q),(fun q=>by cases q),(fun q=>by cases q),(fun q=>by cases q),(fun q=>by cases q),(fun q=>by cases q),(fun q=>by cases q),(fun q=>by cases q),(fun q=>by cases q),(fun q=>by cases q),(fun q=>by cases q),(fun q=>by cases q),(fun q=>by cases q),(fun q=>by cases q),(fun q=>by cases q),(fun q=>by cases q),(fun q=>by cases q),(fun q=>by cases q),(fun q=>by cases q),(fun q=>by cases q),(fun q=>by cases q)⟩⟩
  ·
   rintro listed a w3 ⟨B,R,bs,N,D,x3,x6,x7,x8,x9,x10,x11,x12,x13,x14,x15,x16,x17,x18,x19,x20,x21,x22,x23,x24,rfl,rfl,h'⟩ i hi;have hlt:=(AF hi).1;have hcs:i=0\/i=1\/i=2\/i=3\/i=4\/i=5\/i=6\/i=7\/i=8\/i=9\/i=10\/i=11\/i=12\/i=13\/i=14\/i=15\/i=16\/i=17\/i=18\/i=19\/i=20:=by simp at hlt;omega
   rcases hcs with rfl|rfl|rfl|rfl|rfl|rfl|rfl|rfl|rfl|rfl|rfl|rfl|rfl|rfl|rfl|rfl|rfl|rfl|rfl|rfl|rfl
   ·
    have hbi:B 0=false:=by simpa using (AF hi).2.1
    refine AH rfl rfl (fun K hK=>?_);simp only[List.getElem_toArray,List.getElem_cons_zero];go_simp;refine hK.out _ _ ?_;exact⟨AZ B 0,R,bs,N,D,_,_,_,_,_,_,_,_,_,_,_,_,_,_,_,_,_,_,_,_,rfl,rfl,{ h' with F0:=(fun _=>rfl),HM:=h'.HM.pass (by decide) }⟩
   ·
    have hbi:B 1=false:=by simpa using (AF hi).2.1
    have d0:B 0=true:=AJ hi 0 rfl (by kernel_rfl);have dc:w3.cell? ⟨w.heap.size,0,none⟩=some (.slice aW AA.length cW):=(h'.HK.cell (by omega)).trans (CC.out 0 _ rfl);have Ex:=Lib.hid (h'.F0 d0);rw[Ex.out];refine AH rfl rfl (fun K hK=>?_);simp only[List.getElem_toArray,List.getElem_cons_succ,List.getElem_cons_zero];go_simp;refine hK.out _ _ ?_;have ex:=Ex.out;subst ex;exact⟨AZ B 1,R,bs,N,D,_,_,_,_,_,_,_,_,_,_,_,_,_,_,_,_,_,_,_,_,rfl,rfl,{ h' with F1:=(fun _=>rfl),HM:=h'.HM.pass (by decide) }⟩
   ·
    have hbi:B 2=false:=by simpa using (AF hi).2.1
    have d1:B 1=true:=AJ hi 1 rfl (by kernel_rfl);have hsz:=h'.HK.size;have Ex:=Lib.hid (h'.F1 d1);rw[Ex.out];refine AH rfl rfl (fun K hK=>?_);simp only[List.getElem_toArray,List.getElem_cons_succ,List.getElem_cons_zero];go_simp;refine (NA _ _ _ (h.W.keep (K1.trans h'.HK)) (by omega) hll).mono ?_;rintro e wz ⟨vz,rfl,hx,kk⟩;go_wp2_with fail
    refine hK.out _ _ ?_;have ex:=Ex.out;subst ex;have HM:=h'.HM;rw[hbi] at HM;obtain⟨az,cz,ez,-⟩:=id hx;exact⟨AZ B 2,R,_,_,D,_,_,_,_,_,_,_,_,_,_,_,_,_,_,_,_,_,_,_,_,rfl,rfl,{ h' with F18:=(fun q=>absurd (h'.F18 q).1.1 (by rw[hbi];simp)),F21:=(fun q=>absurd (h'.F18 (h'.F20 q).1).1.1 (by rw[hbi];simp)),F2:=(fun _=>⟨az,cz,ez⟩),HM:=HM.copied (by decide) kk hx hsz,HK:=h'.HK.trans kk }⟩
   ·
    have hbi:B 3=false:=by simpa using (AF hi).2.1
    refine AH rfl rfl (fun K hK=>?_);simp only[List.getElem_toArray,List.getElem_cons_succ,List.getElem_cons_zero];go_simp;refine hK.out _ _ ?_;exact⟨AZ B 3,R,bs,N,D,_,_,_,_,_,_,_,_,_,_,_,_,_,_,_,_,_,_,_,_,rfl,rfl,{ h' with F3:=(fun _=>rfl),HM:=h'.HM.pass (by decide) }⟩
   ·
    have hbi:B 4=false:=by simpa using (AF hi).2.1
    have d3:B 3=true:=AJ hi 3 rfl (by kernel_rfl);have dc:w3.cell? ⟨w.heap.size,1,none⟩=some (.slice aP b.AM.length cP):=(h'.HK.cell (by omega)).trans (CC.out 1 _ rfl);have Ex:=Lib.hid (h'.F3 d3);rw[Ex.out];refine AH rfl rfl (fun K hK=>?_);simp only[List.getElem_toArray,List.getElem_cons_succ,List.getElem_cons_zero];go_simp;refine hK.out _ _ ?_;have ex:=Ex.out;subst ex;exact⟨AZ B 4,R,bs,N,D,_,_,_,_,_,_,_,_,_,_,_,_,_,_,_,_,_,_,_,_,rfl,rfl,{ h' with F4:=(fun _=>rfl),HM:=h'.HM.pass (by decide) }⟩
   ·
    have hbi:B 5=false:=by simpa using (AF hi).2.1
    have d4:B 4=true:=AJ hi 4 rfl (by kernel_rfl);have hsz:=h'.HK.size;have Ex:=Lib.hid (h'.F4 d4);rw[Ex.out];refine AH rfl rfl (fun K hK=>?_);simp only[List.getElem_toArray,List.getElem_cons_succ,List.getElem_cons_zero];go_simp;refine (DI _ _ _ (h.P.keep (K1.trans h'.HK)) (by omega)).mono ?_;rintro e wz ⟨vz,rfl,oz,kk⟩;go_wp2_with fail
    refine hK.out _ _ ?_;have ex:=Ex.out;subst ex;obtain⟨az,cz,ez,-⟩:=oz.rd;exact⟨AZ B 5,_,bs,N,D,_,_,_,_,_,_,_,_,_,_,_,_,_,_,_,_,_,_,_,_,rfl,rfl,{ h' with F18:=(fun q=>absurd (h'.F18 q).1.2.1 (by rw[hbi];simp)),F21:=(fun q=>absurd (h'.F18 (h'.F20 q).1).1.2.1 (by rw[hbi];simp)),F5:=(fun _=>⟨⟨az,cz,ez⟩,rfl⟩),HM:=h'.HM.add hbi kk (show (Bn b.AM vz).own wz w1.heap.size from oz.Az hsz) (fun q hq=>oz.ge q hq),HK:=h'.HK.trans kk }⟩
   ·
    have hbi:B 6=false:=by simpa using (AF hi).2.1
    refine AH rfl rfl (fun K hK=>?_);simp only[List.getElem_toArray,List.getElem_cons_succ,List.getElem_cons_zero];go_simp;refine hK.out _ _ ?_;exact⟨AZ B 6,R,bs,N,D,_,_,_,_,_,_,_,_,_,_,_,_,_,_,_,_,_,_,_,_,rfl,rfl,{ h' with F6:=(fun _=>rfl),HM:=h'.HM.pass (by decide) }⟩
   ·
    have hbi:B 7=false:=by simpa using (AF hi).2.1
    have d6:B 6=true:=AJ hi 6 rfl (by kernel_rfl);have dc:w3.cell? ⟨w.heap.size,2,none⟩=some (.slice aL b.AO.length cL):=(h'.HK.cell (by omega)).trans (CC.out 2 _ rfl);have Ex:=Lib.hid (h'.F6 d6);rw[Ex.out];refine AH rfl rfl (fun K hK=>?_);simp only[List.getElem_toArray,List.getElem_cons_succ,List.getElem_cons_zero];go_simp;refine hK.out _ _ ?_;have ex:=Ex.out;subst ex;exact⟨AZ B 7,R,bs,N,D,_,_,_,_,_,_,_,_,_,_,_,_,_,_,_,_,_,_,_,_,rfl,rfl,{ h' with F7:=(fun _=>rfl),HM:=h'.HM.pass (by decide) }⟩
   ·
    have hbi:B 8=false:=by simpa using (AF hi).2.1
    have d7:B 7=true:=AJ hi 7 rfl (by kernel_rfl);have hsz:=h'.HK.size;have Ex:=Lib.hid (h'.F7 d7);rw[Ex.out];refine AH rfl rfl (fun K hK=>?_);simp only[List.getElem_toArray,List.getElem_cons_succ,List.getElem_cons_zero];go_simp;refine (DI _ _ _ (h.L.keep (K1.trans h'.HK)) (by omega)).mono ?_;rintro e wz ⟨vz,rfl,oz,kk⟩;go_wp2_with fail
    refine hK.out _ _ ?_;have ex:=Ex.out;subst ex;obtain⟨az,cz,ez,-⟩:=oz.rd;exact⟨AZ B 8,_,bs,N,D,_,_,_,_,_,_,_,_,_,_,_,_,_,_,_,_,_,_,_,_,rfl,rfl,{ h' with F18:=(fun q=>absurd (h'.F18 q).1.2.2.1 (by rw[hbi];simp)),F21:=(fun q=>absurd (h'.F18 (h'.F20 q).1).1.2.2.1 (by rw[hbi];simp)),F8:=(fun _=>⟨⟨az,cz,ez⟩,rfl⟩),HM:=h'.HM.add hbi kk (show (Bn b.AO vz).own wz w1.heap.size from oz.Az hsz) (fun q hq=>oz.ge q hq),HK:=h'.HK.trans kk }⟩
   ·
    have hbi:B 9=false:=by simpa using (AF hi).2.1
    refine AH rfl rfl (fun K hK=>?_);simp only[List.getElem_toArray,List.getElem_cons_succ,List.getElem_cons_zero];go_simp;refine hK.out _ _ ?_;exact⟨AZ B 9,R,bs,N,D,_,_,_,_,_,_,_,_,_,_,_,_,_,_,_,_,_,_,_,_,rfl,rfl,{ h' with F9:=(fun _=>rfl),HM:=h'.HM.pass (by decide) }⟩
   ·
    have hbi:B 10=false:=by simpa using (AF hi).2.1
    have d9:B 9=true:=AJ hi 9 rfl (by kernel_rfl);have dc:w3.cell? ⟨w.heap.size,4,none⟩=some (.slice aX b.AL.length cX):=(h'.HK.cell (by omega)).trans (CC.out 4 _ rfl);have Ex:=Lib.hid (h'.F9 d9);rw[Ex.out];refine AH rfl rfl (fun K hK=>?_);simp only[List.getElem_toArray,List.getElem_cons_succ,List.getElem_cons_zero];go_simp;refine hK.out _ _ ?_;have ex:=Ex.out;subst ex;exact⟨AZ B 10,R,bs,N,D,_,_,_,_,_,_,_,_,_,_,_,_,_,_,_,_,_,_,_,_,rfl,rfl,{ h' with F10:=(fun _=>rfl),HM:=h'.HM.pass (by decide) }⟩
   ·
    have hbi:B 11=false:=by simpa using (AF hi).2.1
    have d10:B 10=true:=AJ hi 10 rfl (by kernel_rfl);have hsz:=h'.HK.size;have Ex:=Lib.hid (h'.F10 d10);rw[Ex.out];refine AH rfl rfl (fun K hK=>?_);simp only[List.getElem_toArray,List.getElem_cons_succ,List.getElem_cons_zero];go_simp;refine (DI _ _ _ (h.X.keep (K1.trans h'.HK)) (by omega)).mono ?_;rintro e wz ⟨vz,rfl,oz,kk⟩;go_wp2_with fail
    refine hK.out _ _ ?_;have ex:=Ex.out;subst ex;obtain⟨az,cz,ez,-⟩:=oz.rd;exact⟨AZ B 11,_,bs,N,D,_,_,_,_,_,_,_,_,_,_,_,_,_,_,_,_,_,_,_,_,rfl,rfl,{ h' with F18:=(fun q=>absurd (h'.F18 q).1.2.2.2.1 (by rw[hbi];simp)),F21:=(fun q=>absurd (h'.F18 (h'.F20 q).1).1.2.2.2.1 (by rw[hbi];simp)),F11:=(fun _=>⟨⟨az,cz,ez⟩,rfl⟩),HM:=h'.HM.add hbi kk (show (Bn b.AL vz).own wz w1.heap.size from oz.Az hsz) (fun q hq=>oz.ge q hq),HK:=h'.HK.trans kk }⟩
   ·
    have hbi:B 12=false:=by simpa using (AF hi).2.1
    refine AH rfl rfl (fun K hK=>?_);simp only[List.getElem_toArray,List.getElem_cons_succ,List.getElem_cons_zero];go_simp;refine hK.out _ _ ?_;exact⟨AZ B 12,R,bs,N,D,_,_,_,_,_,_,_,_,_,_,_,_,_,_,_,_,_,_,_,_,rfl,rfl,{ h' with F12:=(fun _=>rfl),HM:=h'.HM.pass (by decide) }⟩
   ·
    have hbi:B 13=false:=by simpa using (AF hi).2.1
    have d12:B 12=true:=AJ hi 12 rfl (by kernel_rfl);have dc:w3.cell? ⟨w.heap.size,5,none⟩=some (.slice aT b.sn.length cT):=(h'.HK.cell (by omega)).trans (CC.out 5 _ rfl);have Ex:=Lib.hid (h'.F12 d12);rw[Ex.out];refine AH rfl rfl (fun K hK=>?_);simp only[List.getElem_toArray,List.getElem_cons_succ,List.getElem_cons_zero];go_simp;refine hK.out _ _ ?_;have ex:=Ex.out;subst ex;exact⟨AZ B 13,R,bs,N,D,_,_,_,_,_,_,_,_,_,_,_,_,_,_,_,_,_,_,_,_,rfl,rfl,{ h' with F13:=(fun _=>rfl),HM:=h'.HM.pass (by decide) }⟩
   ·
    have hbi:B 14=false:=by simpa using (AF hi).2.1
    have d13:B 13=true:=AJ hi 13 rfl (by kernel_rfl);have hsz:=h'.HK.size;have Ex:=Lib.hid (h'.F13 d13);rw[Ex.out];refine AH rfl rfl (fun K hK=>?_);simp only[List.getElem_toArray,List.getElem_cons_succ,List.getElem_cons_zero];go_simp;refine (DI _ _ _ (h.S.keep (K1.trans h'.HK)) (by omega)).mono ?_;rintro e wz ⟨vz,rfl,oz,kk⟩;go_wp2_with fail
    refine hK.out _ _ ?_;have ex:=Ex.out;subst ex;obtain⟨az,cz,ez,-⟩:=oz.rd;exact⟨AZ B 14,_,bs,N,D,_,_,_,_,_,_,_,_,_,_,_,_,_,_,_,_,_,_,_,_,rfl,rfl,{ h' with F18:=(fun q=>absurd (h'.F18 q).1.2.2.2.2.1 (by rw[hbi];simp)),F21:=(fun q=>absurd (h'.F18 (h'.F20 q).1).1.2.2.2.2.1 (by rw[hbi];simp)),F14:=(fun _=>⟨⟨az,cz,ez⟩,rfl⟩),HM:=h'.HM.add hbi kk (show (Bn b.sn vz).own wz w1.heap.size from oz.Az hsz) (fun q hq=>oz.ge q hq),HK:=h'.HK.trans kk }⟩
   ·
    have hbi:B 15=false:=by simpa using (AF hi).2.1
    refine AH rfl rfl (fun K hK=>?_);simp only[List.getElem_toArray,List.getElem_cons_succ,List.getElem_cons_zero];go_simp;refine hK.out _ _ ?_;exact⟨AZ B 15,R,bs,N,D,_,_,_,_,_,_,_,_,_,_,_,_,_,_,_,_,_,_,_,_,rfl,rfl,{ h' with F15:=(fun _=>rfl),HM:=h'.HM.pass (by decide) }⟩
   ·
    have hbi:B 16=false:=by simpa using (AF hi).2.1
    have d15:B 15=true:=AJ hi 15 rfl (by kernel_rfl);have dc:w3.cell? ⟨w.heap.size,6,none⟩=some (.slice aF b.fr.length cF):=(h'.HK.cell (by omega)).trans (CC.out 6 _ rfl);have Ex:=Lib.hid (h'.F15 d15);rw[Ex.out];refine AH rfl rfl (fun K hK=>?_);simp only[List.getElem_toArray,List.getElem_cons_succ,List.getElem_cons_zero];go_simp;refine hK.out _ _ ?_;have ex:=Ex.out;subst ex;exact⟨AZ B 16,R,bs,N,D,_,_,_,_,_,_,_,_,_,_,_,_,_,_,_,_,_,_,_,_,rfl,rfl,{ h' with F16:=(fun _=>rfl),HM:=h'.HM.pass (by decide) }⟩
   ·
    have hbi:B 17=false:=by simpa using (AF hi).2.1
    have d16:B 16=true:=AJ hi 16 rfl (by kernel_rfl);have hsz:=h'.HK.size;have Ex:=Lib.hid (h'.F16 d16);rw[Ex.out];refine AH rfl rfl (fun K hK=>?_);simp only[List.getElem_toArray,List.getElem_cons_succ,List.getElem_cons_zero];go_simp;refine (DI _ _ _ (h.F.keep (K1.trans h'.HK)) (by omega)).mono ?_;rintro e wz ⟨vz,rfl,oz,kk⟩;go_wp2_with fail
    refine hK.out _ _ ?_;have ex:=Ex.out;subst ex;obtain⟨az,cz,ez,-⟩:=oz.rd;exact⟨AZ B 17,_,bs,N,D,_,_,_,_,_,_,_,_,_,_,_,_,_,_,_,_,_,_,_,_,rfl,rfl,{ h' with F18:=(fun q=>absurd (h'.F18 q).1.2.2.2.2.2 (by rw[hbi];simp)),F21:=(fun q=>absurd (h'.F18 (h'.F20 q).1).1.2.2.2.2.2 (by rw[hbi];simp)),F17:=(fun _=>⟨⟨az,cz,ez⟩,rfl⟩),HM:=h'.HM.add hbi kk (show (Bn b.fr vz).own wz w1.heap.size from oz.Az hsz) (fun q hq=>oz.ge q hq),HK:=h'.HK.trans kk }⟩
   ·
    have hbi:B 18=false:=by simpa using (AF hi).2.1
    have d2:B 2=true:=AJ hi 2 rfl (by kernel_rfl);have d5:B 5=true:=AJ hi 5 rfl (by kernel_rfl);have d8:B 8=true:=AJ hi 8 rfl (by kernel_rfl);have d11:B 11=true:=AJ hi 11 rfl (by kernel_rfl);have d14:B 14=true:=AJ hi 14 rfl (by kernel_rfl);have d17:B 17=true:=AJ hi 17 rfl (by kernel_rfl);obtain⟨a1,c1,e1⟩:=h'.F2 d2;obtain⟨⟨a5,c5,e5⟩,-⟩:=h'.F5 d5;obtain⟨⟨a8,c8,e8⟩,-⟩:=h'.F8 d8;obtain⟨⟨a11,c11,e11⟩,-⟩:=h'.F11 d11;obtain⟨⟨a14,c14,e14⟩,-⟩:=h'.F14 d14;obtain⟨⟨a17,c17,e17⟩,-⟩:=h'.F17 d17;have zw:=Lib.hid (e1);rw[zw.out];have Ep5:=Lib.hid (e5);rw[Ep5.out];have Ep8:=Lib.hid (e8);rw[Ep8.out];have pJ:=Lib.hid (e11);rw[pJ.out];have pM:=Lib.hid (e14);rw[pM.out];have Xu:=Lib.hid (e17);rw[Xu.out];refine AH rfl rfl (fun K hK=>?_);simp only[List.getElem_toArray,List.getElem_cons_succ,List.getElem_cons_zero];clear e1 e5 e8 e11 e14 e17;go_simp;refine hK.out _ _ ?_;have ep1:=zw.out;subst ep1;have ep5:=Ep5.out;subst ep5;have ep8:=Ep8.out;subst ep8;have ep11:=pJ.out;subst ep11;have ep14:=pM.out;subst ep14;have ep17:=Xu.out;subst ep17;exact⟨AZ B 18,R,bs,N,D,_,_,_,_,_,_,_,_,_,_,_,_,_,_,_,_,_,_,_,_,rfl,rfl,{ h' with F18:=(fun _=>⟨⟨d2,d5,d8,d11,d14,d17⟩,rfl⟩),F20:=(fun q=>absurd (h'.F20 q).1 (by rw[hbi];simp)),HM:=h'.HM.pass (by decide) }⟩
   ·
    have hbi:B 19=false:=by simpa using (AF hi).2.1
    have hsz:=h'.HK.size;refine AH rfl rfl (fun K hK=>?_);simp only[List.getElem_toArray,List.getElem_cons_succ,List.getElem_cons_zero];go_simp;refine hK.out _ _ ?_;exact⟨AZ B 19,_,bs,N,w3.heap.size,_,_,_,_,_,_,_,_,_,_,_,_,_,_,_,_,_,_,_,_,rfl,rfl,{ h' with HM:=h'.HM.add hbi ((AC.refl w3).alloc _) (UY w3 hsz) (fun b hb=>GD hb),HK:=h'.HK.alloc _,F19:=(fun _=>⟨rfl,rfl,fun _=>rfl⟩),F20:=(fun q=>absurd (h'.F20 q).2 (by rw[hbi];simp)),F21:=(fun q=>absurd (h'.F20 q).2 (by rw[hbi];simp)) }⟩
   ·
    have hbi:B 20=false:=by simpa using (AF hi).2.1
    have d18:B 18=true:=AJ hi 18 rfl (by kernel_rfl);have d19:B 19=true:=AJ hi 19 rfl (by kernel_rfl);have hsz:=h'.HK.size;obtain⟨dd,e24⟩:=h'.F18 d18;obtain⟨e3,er,ez⟩:=h'.F19 d19;have o19:=h'.HM.Ai.own 19 ⟨by decide,d19⟩;rw[ez hbi] at o19;obtain⟨⟨old,hz,hos⟩,ho⟩:=UZ o19 (v:=⟨x8,x11,x14,AE,x17,x20,x23,AE⟩);obtain⟨a1,c1,e1⟩:=h'.F2 dd.1;obtain⟨⟨a5,c5,e5⟩,-⟩:=h'.F5 dd.2.1;obtain⟨⟨a8,c8,e8⟩,-⟩:=h'.F8 dd.2.2.1;obtain⟨⟨a11,c11,e11⟩,-⟩:=h'.F11 dd.2.2.2.1;obtain⟨⟨a14,c14,e14⟩,-⟩:=h'.F14 dd.2.2.2.2.1;obtain⟨⟨a17,c17,e17⟩,-⟩:=h'.F17 dd.2.2.2.2.2;have hone:(BV.arr ⟨x8,x11,x14,AE,x17,x20,x23,AE⟩).all (·.oneCell')=true:=by rw[e1,e5,e8,e11,e14,e17];simp[Value.oneCell']
    clear e1 e5 e8 e11 e14 e17;have Ep:=Lib.hid (e24);rw[Ep.out];have Eq:=Lib.hid (e3);rw[Eq.out];refine AH rfl rfl (fun K hK=>?_);simp only[List.getElem_toArray,List.getElem_cons_succ,List.getElem_cons_zero];clear e24 e3;refine wp_store_row 36 _ _ rfl D _ rfl rfl 36 old hz AK hos hone ?_;refine hK.out _ _ ?_;have ep:=Ep.out;subst ep;have eq:=Eq.out;subst eq;exact⟨AZ B 20,_,bs,N,D,_,_,_,_,_,_,_,_,_,_,_,_,_,_,_,_,_,_,_,_,rfl,rfl,{ h' with HM:=h'.HM.turn (by decide) ⟨by decide,d19⟩ (r:=Ha D ⟨x8,x11,x14,AE,x17,x20,x23,AE⟩) (by rw[er];exact Af _ _ _) (by rw[er]) ho,HK:=h'.HK.grown (Af _ D _) (fun b hb=>by have:=(h'.HM.Ai.lt ⟨by decide,d19⟩ D (by rw[er];rfl)).1;have:=Option.some.inj hb;omega),F19:=(fun _=>⟨rfl,rfl,fun q=>by cases q⟩),F20:=(fun _=>⟨d18,d19⟩),F21:=(fun _=>rfl) }⟩
  ·
   rintro listed a w3 ⟨B,R,bs,N,D,x3,x6,x7,x8,x9,x10,x11,x12,x13,x14,x15,x16,x17,x18,x19,x20,x21,x22,x23,x24,rfl,rfl,h'⟩ hr;have hall:=DZ hr rfl (by kernel_rfl);have b2:B 2=true:=hall 2 (by simp);have b5:B 5=true:=hall 5 (by simp);have b8:B 8=true:=hall 8 (by simp);have b11:B 11=true:=hall 11 (by simp);have b14:B 14=true:=hall 14 (by simp);have b17:B 17=true:=hall 17 (by simp);have b19:B 19=true:=hall 19 (by simp);have b20:B 20=true:=hall 20 (by simp);clear hall;obtain⟨HM,HK,F0,F1,F2,F3,F4,F5,F6,F7,F8,F9,F10,F11,F12,F13,F14,F15,F16,F17,F18,F19,F20,F21⟩:=h';clear hr;have HB:=kg (by rw[b2] at HM;exact HM) b5 b8 b11 b14 b17 b19 (F5 b5).2 (F8 b8).2 (F11 b11).2 (F14 b14).2 (F17 b17).2 (F21 b20);have HW:=((by rw[b2] at HM;exact HM):Mk w3 w1.heap.size _ R true x8 bs N AA).work rfl;have e3:=(F19 b19).1;clear HM F0 F1 F2 F3 F4 F5 F6 F7 F8 F9 F10 F11 F12 F13 F14 F15 F16 F17 F18 F19 F20 F21;subst e3;go_wp2;go_meet;case rel=>exact⟨D,_,bs,N,rfl,HB,HW.2.2,HK⟩
 case rest=>
  obtain⟨D,bv',bs,N,rfl,H,hbs,kc⟩:=hcut;obtain⟨j0,hj,hy0,hy1,hy2⟩:=info_parts Tryz.QD;go_wp2;go_loopw [4] (fun i wr=>∃(k:Nat) (bw:BV) (nv:List Value),k<=b.AG.length/\i = .int .i64 k/\AR wr w1.heap.size D bw nv [] bs N AA { Yd b with AG:=b.AG.take k }/\AC w1 wr) (fun i _=>b.AG.length-(intOf i).toNat)
  case atStart=>exact⟨0,bv',[],Nat.zero_le _,rfl,H,kc⟩
  case round=>
   obtain⟨k,bw,nv,hk,rfl,Hr,kr⟩:=hrel;clear H kc;have hbw:w.heap.size<wr.heap.size:=by have:=kr.size;omega
   have hB3:wr.cell? ⟨w.heap.size,3,none⟩=some (.slice aN b.AG.length cQ):=(kr.cell (by omega)).trans (CC.out 3 _ rfl);by_cases hlt:k<b.AG.length
   ·
    obtain⟨a',c',e',hN⟩:=h.N;simp only[Value.slice.injEq,true_and] at e';obtain⟨rfl,rfl⟩:=e';rcases hN with h0|⟨bN,oN,rfl,hbN0,jT⟩
    . exfalso;rw[h0] at hlt;simp at hlt
    obtain⟨vi,dE0,tC⟩:=jT k hlt;have nl:(b.AG.getD k []).length<=8:=HQ.out.2.2.2 k (by have:=HQ.out.2.1;omega);have nk:b.AG.length<=3:=by have:=HQ.out.2.1;omega
    have HT:Hid (b.AG.take (k+1)=b.AG.take k++[b.AG.getD k []]):=Lib.hid (by rw[List.take_add_one,List.getD_eq_getElem?_getD,List.getElem?_eq_getElem hlt];rfl);generalize b.AG.getD k []=ns at *;have KK:=K1.trans kr;have dE:=(KK.cell hbN0).trans dE0;have rE:=tC.keep KK;obtain⟨ai,ci,rfl,-⟩:=id rE;have hbN:bN<wr.heap.size:=Nat.lt_of_lt_of_le hbN0 KK.size;have hbD:=Hr.base.2;have hbs2:=Hr.base.1;have hln:nv.length=k:=by have:=Hr.ln;simp only[List.length_take] at this;omega
    obtain⟨aM,cM,eN,-⟩:=Hr.hN;have eN2:bw.N = .slice aM k cM:=by rw[eN];simp only[List.length_take];rw[Nat.min_eq_left hk]
    have dM:wr.cell? ⟨D,3,none⟩=some (.slice aM k cM):=by rw[<-eN2];exact Hr.cells.2.2.2.1
    have HR0:wr.ownsRow w1.heap.size 101 1 (.slice aM k cM) k nv:=by
     have o:wr.ownsRow w1.heap.size 101 1 bw.N nv.length nv:=Hr.Ai.own .AG trivial;rw[eN2,hln] at o;exact o
    have sr:=kr.size;have i1:(0:Int)<=(k:Int):=Int.natCast_nonneg _;have i2:(k:Int)<(b.AG.length:Int):=by omega
    have HH:=Lib.hid Hr;have jH:=Lib.hid eN2;have jI:=Lib.hid hln;clear Hr eN eN2 hln dE0 tC jT;go_upto_region 5 with fail
    refine Bx (by kernel_rfl) (fun listed a w3=>∃(B:Nat->Bool) (G:Nat) (x32 x33 x34 x35 x36 x37 x38 x39 x40 x41 x42 x43:Value),listed=#[B 0,B 1,B 2,B 3,B 4,B 5,B 6,B 7,B 8,B 9,B 10,B 11,B 12]/\a=⟨#[.agg #[.slice aW AA.length cW,.slice aP b.AM.length cP,.slice aL b.AO.length cL,.slice (some ⟨bN,oN,none⟩) b.AG.length cQ,.slice aX b.AL.length cX,.slice aT b.sn.length cT,.slice aF b.fr.length cF,.slice aR b.rws.length cR],.pointer (some ⟨w.heap.size,0,none⟩),.pointer (some ⟨w.heap.size+1,0,none⟩),.pointer (some ⟨D,0,none⟩),.int .i64 (k:Int),undef,u6,u7,u8,u9,u10,u11,u12,u13,u14,u15,u16,u17,u18,u19,u20,u21,u22,u23,u24,.int .i64 (k:Int),.pointer (some ⟨w.heap.size,3,none⟩),.slice (some ⟨bN,oN,none⟩) b.AG.length cQ,.int .i64 (b.AG.length:Int),.bool true,u30,u31,x32,x33,x34,x35,x36,x37,x38,x39,x40,x41,x42,x43,u44,u45,u46,u47,u48,u49,u50,u51,u52,u53,u54,u55,u56,u57,u58,u59,u60,u61,u62],[]⟩/\om w w1 wr D k aM cM bN oN cQ ai ci ns b bw nv bs N AA B G x32 x33 x34 x35 x36 x37 x38 x39 x40 x41 x42 x43 w3) ?_ ?_ ?_
    . exact⟨fun _=>false,0,u32,u33,u34,u35,u36,u37,u38,u39,u40,u41,u42,u43,rfl,rfl,⟨(fun _=>(AC.refl wr).drew),(fun q=>by cases q),(fun q=>by cases q),(fun q=>by cases q),(fun q=>by cases q),(fun q=>by cases q),(fun q=>by cases q),(fun q=>by cases q),(fun q=>by cases q),(fun q=>by cases q),(fun q=>by cases q),(fun q=>by cases q),(fun q=>by cases q),(fun q=>by cases q),(fun q=>by cases q),(fun q=>by cases q),(fun q=>by cases q)⟩⟩
    ·
     rintro listed a w3 ⟨B,G,x32,x33,x34,x35,x36,x37,x38,x39,x40,x41,x42,x43,rfl,rfl,h'⟩ i hi;have hlt:=(AF hi).1;have hcs:i=0\/i=1\/i=2\/i=3\/i=4\/i=5\/i=6\/i=7\/i=8\/i=9\/i=10\/i=11\/i=12:=by simp at hlt;omega
     rcases hcs with rfl|rfl|rfl|rfl|rfl|rfl|rfl|rfl|rfl|rfl|rfl|rfl|rfl
     ·
      have hbi:B 0=false:=by simpa using (AF hi).2.1
      refine AH rfl rfl (fun K hK=>?_);simp only[List.getElem_toArray,List.getElem_cons_zero];go_simp;refine hK.out _ _ ?_;exact⟨AZ B 0,G,_,_,_,_,_,_,_,_,_,_,_,_,rfl,rfl,{ h' with B0:=(fun q=>absurd ((h'.B0 q).1 0 (by omega)) (by rw[hbi];simp)),Jo:=(fun q=>absurd ((h'.B0 q).1 0 (by omega)) (by rw[hbi];simp)),Ed:=(fun q=>absurd ((h'.B0 (h'.Ed q).1).1 0 (by omega)) (by rw[hbi];simp)),bg:=(fun _=>rfl),TB:=(fun q=>absurd (h'.TB q).1 (by rw[hbi];simp)) }⟩
     ·
      have hbi:B 1=false:=by simpa using (AF hi).2.1
      have d0:B 0=true:=AJ hi 0 rfl (by kernel_rfl)
      have hac:B 10=false:=by
       cases e:B 10 with
       |false=>rfl
       |true=>exact absurd ((h'.B0 e).1 1 (by omega)) (by rw[hbi];simp)
      have dc:w3.cell? ⟨D,3,none⟩=some (.slice aM k cM):=((h'.HK hac).cell hbD).trans dM;have Ex:=Lib.hid (h'.bg d0);rw[Ex.out];refine AH rfl rfl (fun K hK=>?_);simp only[List.getElem_toArray,List.getElem_cons_succ,List.getElem_cons_zero];go_simp;refine hK.out _ _ ?_;have ex:=Ex.out;subst ex;exact⟨AZ B 1,G,_,_,_,_,_,_,_,_,_,_,_,_,rfl,rfl,{ h' with B0:=(fun q=>absurd ((h'.B0 q).1 1 (by omega)) (by rw[hbi];simp)),Jo:=(fun q=>absurd ((h'.B0 q).1 1 (by omega)) (by rw[hbi];simp)),Ed:=(fun q=>absurd ((h'.B0 (h'.Ed q).1).1 1 (by omega)) (by rw[hbi];simp)),TB:=(fun _=>⟨d0,rfl⟩) }⟩
     ·
      have hbi:B 2=false:=by simpa using (AF hi).2.1
      have hac:B 10=false:=by
       cases e:B 10 with
       |false=>rfl
       |true=>exact absurd ((h'.B0 e).1 2 (by omega)) (by rw[hbi];simp)
      have hsz:=(h'.HK hac).size;refine AH rfl rfl (fun K hK=>?_);simp only[List.getElem_toArray,List.getElem_cons_succ,List.getElem_cons_zero];go_simp;refine hK.out _ _ ?_;exact⟨AZ B 2,G,_,_,_,_,_,_,_,_,_,_,_,_,rfl,rfl,{ h' with B0:=(fun q=>absurd ((h'.B0 q).1 2 (by omega)) (by rw[hbi];simp)),Jo:=(fun q=>absurd ((h'.B0 q).1 2 (by omega)) (by rw[hbi];simp)),Ed:=(fun q=>absurd ((h'.B0 (h'.Ed q).1).1 2 (by omega)) (by rw[hbi];simp)),HK:=(fun q=>(h'.HK q).alloc _),dA:=(fun _=>⟨_,rfl⟩),RI:=(fun _ _=>World.ownsRow_lit w3 #[] 0 hsz (by decide) rfl),Nw:=(fun q=>absurd (h'.Nw q).1.1 (by rw[hbi];simp)),OY:=(fun q=>absurd (h'.Nw q).1.1 (by rw[hbi];simp)),MW:=(fun q=>absurd (h'.Nw (h'.MW q).1).1.1 (by rw[hbi];simp)) }⟩
     ·
      have hbi:B 3=false:=by simpa using (AF hi).2.1
      refine AH rfl rfl (fun K hK=>?_);simp only[List.getElem_toArray,List.getElem_cons_succ,List.getElem_cons_zero];go_simp;refine hK.out _ _ ?_;exact⟨AZ B 3,G,_,_,_,_,_,_,_,_,_,_,_,_,rfl,rfl,{ h' with B0:=(fun q=>absurd ((h'.B0 q).1 3 (by omega)) (by rw[hbi];simp)),Jo:=(fun q=>absurd ((h'.B0 q).1 3 (by omega)) (by rw[hbi];simp)),Ed:=(fun q=>absurd ((h'.B0 (h'.Ed q).1).1 3 (by omega)) (by rw[hbi];simp)),cK:=(fun _=>rfl),TA:=(fun q=>absurd (h'.TA q).1 (by rw[hbi];simp)) }⟩
     ·
      have hbi:B 4=false:=by simpa using (AF hi).2.1
      have d3:B 3=true:=AJ hi 3 rfl (by kernel_rfl)
      have hac:B 10=false:=by
       cases e:B 10 with
       |false=>rfl
       |true=>exact absurd ((h'.B0 e).1 4 (by omega)) (by rw[hbi];simp)
      have dc:w3.cell? ⟨w.heap.size,3,none⟩=some (.slice (some ⟨bN,oN,none⟩) b.AG.length cQ):=((h'.HK hac).cell hbw).trans hB3;have Ex:=Lib.hid (h'.cK d3);rw[Ex.out];refine AH rfl rfl (fun K hK=>?_);simp only[List.getElem_toArray,List.getElem_cons_succ,List.getElem_cons_zero];go_simp;refine hK.out _ _ ?_;have ex:=Ex.out;subst ex;exact⟨AZ B 4,G,_,_,_,_,_,_,_,_,_,_,_,_,rfl,rfl,{ h' with B0:=(fun q=>absurd ((h'.B0 q).1 4 (by omega)) (by rw[hbi];simp)),Jo:=(fun q=>absurd ((h'.B0 q).1 4 (by omega)) (by rw[hbi];simp)),Ed:=(fun q=>absurd ((h'.B0 (h'.Ed q).1).1 4 (by omega)) (by rw[hbi];simp)),TA:=(fun _=>⟨d3,rfl⟩),Ph:=(fun q=>absurd (h'.Ph q).1.1 (by rw[hbi];simp)) }⟩
     ·
      have hbi:B 5=false:=by simpa using (AF hi).2.1
      refine AH rfl rfl (fun K hK=>?_);simp only[List.getElem_toArray,List.getElem_cons_succ,List.getElem_cons_zero];go_simp;refine hK.out _ _ ?_;exact⟨AZ B 5,G,_,_,_,_,_,_,_,_,_,_,_,_,rfl,rfl,{ h' with B0:=(fun q=>absurd ((h'.B0 q).1 5 (by omega)) (by rw[hbi];simp)),Jo:=(fun q=>absurd ((h'.B0 q).1 5 (by omega)) (by rw[hbi];simp)),Ed:=(fun q=>absurd ((h'.B0 (h'.Ed q).1).1 5 (by omega)) (by rw[hbi];simp)),dD:=(fun _=>rfl),Ph:=(fun q=>absurd (h'.Ph q).1.2 (by rw[hbi];simp)) }⟩
     ·
      have hbi:B 6=false:=by simpa using (AF hi).2.1
      have d4:B 4=true:=AJ hi 4 rfl (by kernel_rfl);have d5:B 5=true:=AJ hi 5 rfl (by kernel_rfl);have Ex:=Lib.hid ((h'.TA d4).2);rw[Ex.out];have Ey:=Lib.hid (h'.dD d5);rw[Ey.out];refine AH rfl rfl (fun K hK=>?_);simp only[List.getElem_toArray,List.getElem_cons_succ,List.getElem_cons_zero];go_simp;refine hK.out _ _ ?_;have ex:=Ex.out;subst ex;have ey:=Ey.out;subst ey;exact⟨AZ B 6,G,_,_,_,_,_,_,_,_,_,_,_,_,rfl,rfl,{ h' with B0:=(fun q=>absurd ((h'.B0 q).1 6 (by omega)) (by rw[hbi];simp)),Jo:=(fun q=>absurd ((h'.B0 q).1 6 (by omega)) (by rw[hbi];simp)),Ed:=(fun q=>absurd ((h'.B0 (h'.Ed q).1).1 6 (by omega)) (by rw[hbi];simp)),Ph:=(fun _=>⟨⟨d4,d5⟩,rfl⟩),TC:=(fun q=>absurd (h'.TC q).1 (by rw[hbi];simp)) }⟩
     ·
      have hbi:B 7=false:=by simpa using (AF hi).2.1
      have d6:B 6=true:=AJ hi 6 rfl (by kernel_rfl)
      have hac:B 10=false:=by
       cases e:B 10 with
       |false=>rfl
       |true=>exact absurd ((h'.B0 e).1 7 (by omega)) (by rw[hbi];simp)
      have dc:w3.cell? ⟨bN,oN+k,none⟩=some (.slice ai ns.length (ns.length+ci)):=((h'.HK hac).cell hbN).trans dE;have Ex:=Lib.hid ((h'.Ph d6).2);rw[Ex.out];refine AH rfl rfl (fun K hK=>?_);simp only[List.getElem_toArray,List.getElem_cons_succ,List.getElem_cons_zero];go_simp;refine hK.out _ _ ?_;have ex:=Ex.out;subst ex;exact⟨AZ B 7,G,_,_,_,_,_,_,_,_,_,_,_,_,rfl,rfl,{ h' with B0:=(fun q=>absurd ((h'.B0 q).1 7 (by omega)) (by rw[hbi];simp)),Jo:=(fun q=>absurd ((h'.B0 q).1 7 (by omega)) (by rw[hbi];simp)),Ed:=(fun q=>absurd ((h'.B0 (h'.Ed q).1).1 7 (by omega)) (by rw[hbi];simp)),TC:=(fun _=>⟨d6,rfl⟩),Nw:=(fun q=>absurd (h'.Nw q).1.2 (by rw[hbi];simp)),OY:=(fun q=>absurd (h'.Nw q).1.2 (by rw[hbi];simp)) }⟩
     ·
      have hbi:B 8=false:=by simpa using (AF hi).2.1
      have d2:B 2=true:=AJ hi 2 rfl (by kernel_rfl);have d7:B 7=true:=AJ hi 7 rfl (by kernel_rfl)
      have hac:B 10=false:=by
       cases e:B 10 with
       |false=>rfl
       |true=>exact absurd ((h'.B0 e).1 8 (by omega)) (by rw[hbi];simp)
      have hK3:=h'.HK hac;have hsz:=hK3.size;obtain⟨g,eg⟩:=h'.dA d2;have oL:=h'.RI d2 hbi;rw[eg] at oL;have Ex:=Lib.hid (eg);rw[Ex.out];have Ey:=Lib.hid ((h'.TC d7).2);rw[Ey.out];refine AH rfl rfl (fun K hK=>?_);simp only[List.getElem_toArray,List.getElem_cons_succ,List.getElem_cons_zero];clear eg;refine Hd _ _ rfl wr.heap.size g rfl oL _ rfl ns (rE.keep hK3) (by omega) hsz ?_;intro vz wz oz gz;simp only[Act.put,List.setIfInBounds_toArray,List.set_cons_zero,List.set_cons_succ];refine hK.out _ _ ?_;have ex:=Ex.out;subst ex;have ey:=Ey.out;subst ey;have hgz:wr.heap.size<=g:=(World.ownsRow.lt oL g rfl).1;obtain⟨az,cz,ez,-⟩:=B5.rd EE oz;exact⟨AZ B 8,G,_,_,_,_,_,_,_,_,_,_,_,_,rfl,rfl,{ h' with B0:=(fun q=>absurd ((h'.B0 q).1 8 (by omega)) (by rw[hbi];simp)),Jo:=(fun q=>absurd ((h'.B0 q).1 8 (by omega)) (by rw[hbi];simp)),Ed:=(fun q=>absurd ((h'.B0 (h'.Ed q).1).1 8 (by omega)) (by rw[hbi];simp)),MW:=(fun q=>absurd (h'.MW q).1 (by rw[hbi];simp)),HK:=(fun _=>hK3.grown gz (fun q hq=>by have:=Option.some.inj hq;omega)),RI:=(fun _ q=>by cases q),Nw:=(fun _=>⟨⟨d2,d7⟩,az,_,ez⟩),OY:=(fun _ _=>oz) }⟩
     ·
      have hbi:B 9=false:=by simpa using (AF hi).2.1
      have d8:B 8=true:=AJ hi 8 rfl (by kernel_rfl);obtain⟨_,a8,c8,e8⟩:=h'.Nw d8;have Ex:=Lib.hid (e8);rw[Ex.out];refine AH rfl rfl (fun K hK=>?_);simp only[List.getElem_toArray,List.getElem_cons_succ,List.getElem_cons_zero];clear e8;go_simp;refine hK.out _ _ ?_;have ex:=Ex.out;subst ex;exact⟨AZ B 9,w3.heap.size,_,_,_,_,_,_,_,_,_,_,_,_,rfl,rfl,{ h' with B0:=(fun q=>absurd ((h'.B0 q).1 9 (by omega)) (by rw[hbi];simp)),Jo:=(fun q=>absurd ((h'.B0 q).1 9 (by omega)) (by rw[hbi];simp)),Ed:=(fun q=>absurd ((h'.B0 (h'.Ed q).1).1 9 (by omega)) (by rw[hbi];simp)),HK:=(fun q=>(h'.HK q).alloc _),OY:=(fun q r=>(h'.OY q r).keep ((AC.refl w3).alloc _)),MW:=(fun _=>⟨d8,rfl,fun _=>AU (AC.refl _) 0⟩),RI:=(fun _ q=>Gg d8 q) }⟩
     ·
      have hbi:B 10=false:=by simpa using (AF hi).2.1
      have d1:B 1=true:=AJ hi 1 rfl (by kernel_rfl);have d9:B 9=true:=AJ hi 9 rfl (by kernel_rfl);have c0:=(h'.TB d1).1;obtain⟨bJ,eG,cG⟩:=h'.MW d9;obtain⟨zf,a8,c8,e8⟩:=h'.Nw bJ;obtain⟨yU,dle⟩:=zf;have qx:=(h'.TC dle).1;obtain⟨⟨qy,yV⟩,-⟩:=h'.Ph qx;have yT:=(h'.TA qy).1
      have hall:∀j,j<10->B j=true:=by
       intro j hj;have hj2:j=0\/j=1\/j=2\/j=3\/j=4\/j=5\/j=6\/j=7\/j=8\/j=9:=by omega
       rcases hj2 with rfl|rfl|rfl|rfl|rfl|rfl|rfl|rfl|rfl|rfl
       . exact c0
       . exact d1
       . exact yU
       . exact yT
       . exact qy
       . exact yV
       . exact qx
       . exact dle
       . exact bJ
       . exact d9
      have hK3:=h'.HK hbi;have oA:=h'.OY bJ hbi;have cG2:=cG hbi;rw[e8] at cG2;have HR:=World.ownsRow.kept HR0 hK3.grownBy (by cases (Value.slice aM k cM).ownBlock<;>simp);have hsz:=hK3.size;have Ex:=Lib.hid ((h'.TB d1).2);rw[Ex.out];have Ey:=Lib.hid (eG);rw[Ey.out];have Ez:=Lib.hid (e8);rw[Ez.out];refine AH rfl rfl (fun K hK=>?_);simp only[List.getElem_toArray,List.getElem_cons_succ,List.getElem_cons_zero];clear eG e8;refine Dx _ _ 34 rfl w1.heap.size 101 j0 (.slice none 0 0) 1 24 Tryz.underlying34 hj hy0 hy1 hy2 rfl (by decide) (.slice aM k cM) k nv rfl HR ⟨G,0,none⟩ 1 1 [.slice a8 ns.length c8] rfl rfl (fun j u hu=>?_) (fun u hu=>by simp at hu;subst hu;rfl) (by unfold maxLen;omega) (by omega) (by omega) ?_
      ·
       match j,hu with
       | 0,hu=>simp at hu;subst hu;simpa [Addr.add] using cG2
      intro vz wz oz gz bz;simp only[Act.put,List.setIfInBounds_toArray,List.set_cons_zero,List.set_cons_succ];refine hK.out _ _ ?_;have ex:=Ex.out;subst ex;have ey:=Ey.out;subst ey;have ez:=Ez.out;subst ez
      have ho7:(EP 101 (nv++[.slice a8 ns.length c8]) vz).own wz w1.heap.size:=by
       show wz.ownsRow w1.heap.size 101 1 vz (nv++[Value.slice a8 ns.length c8]).length (nv++[Value.slice a8 ns.length c8]);rw[List.length_append,jI.out];exact oz
      have hu:∀q,(Value.slice a8 ns.length c8).ownBlock=some q->wr.heap.size<=q:=fun q hq=>(World.ownsRow.lt oA q hq).1
      obtain⟨H8,c8',f8⟩:=HH.out.SZ hK3 hu (DS oA (by omega)) (by rw[jH.out];exact gz) (by rw[jH.out];rcases bz with e|e;exact .inl e;exact .inr (.inl e)) ho7;obtain⟨a9,c9,e9,-⟩:=Bt ho7;replace e9:vz = .slice a9 (k+1) c9:=by rw[e9,List.length_append,jI.out];rfl
      have K9:AC w1 wz:=(kr.trans hK3).grown gz (fun q hq=>(World.ownsRow.lt HR q hq).1);exact⟨AZ B 10,G,_,_,_,_,_,_,_,_,_,_,_,_,rfl,rfl,{ h' with B0:=(fun _=>⟨fun j hj=>by unfold AZ;rw[if_neg (by omega)];exact hall j hj,a9,c9,e9⟩),Jo:=(fun _ _=>⟨by rw[HT.out];exact H8,c8',f8,K9⟩),Ed:=(fun q=>absurd (h'.Ed q).1 (by rw[hbi];simp)),HK:=(fun q=>by cases q),OY:=(fun _ q=>by cases q),MW:=(fun _=>⟨bJ,rfl,fun q=>by cases q⟩),RI:=(fun _ q=>Gg (bJ) q) }⟩
     ·
      have hbi:B 11=false:=by simpa using (AF hi).2.1
      refine AH rfl rfl (fun K hK=>?_);simp only[List.getElem_toArray,List.getElem_cons_succ,List.getElem_cons_zero];go_simp;refine hK.out _ _ ?_;exact⟨AZ B 11,G,_,_,_,_,_,_,_,_,_,_,_,_,rfl,rfl,{ h' with cZ:=(fun _=>rfl),B0:=(fun q=>⟨fun j hj=>by unfold AZ;rw[if_neg (by omega)];exact (h'.B0 q).1 j hj,(h'.B0 q).2⟩) }⟩
     ·
      have hbi:B 12=false:=by simpa using (AF hi).2.1
      have d10:B 10=true:=AJ hi 10 rfl (by kernel_rfl);have d11:B 11=true:=AJ hi 11 rfl (by kernel_rfl);obtain⟨P1,P2,P3,P4⟩:=h'.Jo d10 hbi;obtain⟨-,a9,c9,e9⟩:=h'.B0 d10;have Ex:=Lib.hid (h'.cZ d11);rw[Ex.out];have Ey:=Lib.hid (e9);rw[Ey.out];refine AH rfl rfl (fun K hK=>?_);simp only[List.getElem_toArray,List.getElem_cons_succ,List.getElem_cons_zero];clear e9;have HP1:=Lib.hid P1;clear P1;go_simp;refine hK.out _ _ ?_;have ex:=Ex.out;subst ex;have ey:=Ey.out;subst ey;have P1:=HP1.out;exact⟨AZ B 12,G,_,_,_,_,_,_,_,_,_,_,_,_,rfl,rfl,{ h' with HK:=(fun q=>Gg (d10) q),OY:=(fun _ q=>Gg (d10) q),MW:=(fun q=>⟨(h'.MW q).1,(h'.MW q).2.1,fun r=>Gg (d10) r⟩),B0:=(fun q=>⟨fun j hj=>by unfold AZ;rw[if_neg (by omega)];exact (h'.B0 q).1 j hj,(h'.B0 q).2⟩),Jo:=(fun _ q=>by cases q),Ed:=(fun _=>⟨d10,P1,P4.grown (Ae w3 D 3 _) (fun q hq=>by have:=Option.some.inj hq;omega)⟩),RI:=(fun _ q=>Gg ((h'.B0 d10).1 8 (by omega)) q) }⟩
    ·
     rintro listed a w3 ⟨B,G,x32,x33,x34,x35,x36,x37,x38,x39,x40,x41,x42,x43,rfl,rfl,h'⟩ hr;have hall:=DZ hr rfl (by kernel_rfl);have b12:B 12=true:=hall 12 (by simp);clear hall;obtain⟨HK,bg,TB,dA,RI,cK,TA,dD,Ph,TC,Nw,OY,MW,B0,Jo,cZ,Ed⟩:=h';clear hr;obtain⟨-,Q2,Q3⟩:=Ed b12;have HQ2:=Lib.hid Q2;have HQ3:=Lib.hid Q3;clear Q2 Q3 HK bg TB dA RI cK TA dD Ph TC Nw OY MW B0 Jo cZ Ed;go_wp2;go_roundw;case rel=>exact⟨k+1,by omega,by omega,⟨_,_,HQ2.out⟩,HQ3.out⟩
     case measure=>simp[intOf];omega
   ·
    obtain rfl:k=b.AG.length:=by omega
    simp only[List.take_length] at Hr;clear hlt hk;obtain⟨j0,hj,hy0,hy1,hy2⟩:=info_parts Tryz.QC;go_wp2;go_loopw [5] (fun i wq=>∃(k:Nat) (bw:BV) (rv:List Value),k<=b.rws.length/\i = .int .i64 k/\AR wq w1.heap.size D bw nv rv bs N AA { Yd b with AG:=b.AG,rws:=b.rws.take k }/\AC w1 wq) (fun i _=>b.rws.length-(intOf i).toNat)
    case atStart=>exact⟨0,bw,[],Nat.zero_le _,rfl,Hr,kr⟩
    case round=>
     clear Hr kr hbw hB3;obtain⟨k,bw,rv,hk,rfl,Hr,kr⟩:=hrel;have hbw:w.heap.size<wr.heap.size:=by have:=kr.size;omega
     have hB3:wr.cell? ⟨w.heap.size,7,none⟩=some (.slice aR b.rws.length cR):=(kr.cell (by omega)).trans (CC.out 7 _ rfl);by_cases hlt:k<b.rws.length
     ·
      obtain⟨a',c',e',hN⟩:=h.R;simp only[Value.slice.injEq,true_and] at e';obtain⟨rfl,rfl⟩:=e';rcases hN with h0|⟨bN,oN,rfl,hbN0,jT⟩
      . exfalso;rw[h0] at hlt;simp at hlt
      obtain⟨vi,dE0,tC⟩:=jT k hlt;have nl:(b.rws.getD k []).length<=20:=HQ.out.2.2.1 k (by have:=HQ.out.1;omega);have nk:b.rws.length<=3:=by have:=HQ.out.1;omega
      have HT:Hid (b.rws.take (k+1)=b.rws.take k++[b.rws.getD k []]):=Lib.hid (by rw[List.take_add_one,List.getD_eq_getElem?_getD,List.getElem?_eq_getElem hlt];rfl);generalize b.rws.getD k []=zs at *;have KK:=K1.trans kr;have dE:=(KK.cell hbN0).trans dE0;have rE:=tC.keep KK;obtain⟨ai,ci,rfl,-⟩:=id rE;have hbN:bN<wr.heap.size:=Nat.lt_of_lt_of_le hbN0 KK.size;have hbD:=Hr.base.2;have hbs2:=Hr.base.1;have hln:rv.length=k:=by have:=Hr.lr;simp only[List.length_take] at this;omega
      obtain⟨aM,cM,eN,-⟩:=Hr.hR;have eN2:bw.R = .slice aM k cM:=by rw[eN];simp only[List.length_take];rw[Nat.min_eq_left hk]
      have dM:wr.cell? ⟨D,7,none⟩=some (.slice aM k cM):=by rw[<-eN2];exact Hr.cells.2.2.2.2.2.2.2
      have HR0:wr.ownsRow w1.heap.size 28 1 (.slice aM k cM) k rv:=by
       have o:wr.ownsRow w1.heap.size 28 1 bw.R rv.length rv:=Hr.Ai.own .rws trivial;rw[eN2,hln] at o;exact o
      have sr:=kr.size;have i1:(0:Int)<=(k:Int):=Int.natCast_nonneg _;have i2:(k:Int)<(b.rws.length:Int):=by omega
      have HH:=Lib.hid Hr;have jH:=Lib.hid eN2;have jI:=Lib.hid hln;clear Hr eN eN2 hln dE0 tC jT;go_upto_region 9 with fail
      refine Bx (by kernel_rfl) (fun listed a w3=>∃(B:Nat->Bool) (G:Nat) (x51 x52 x53 x54 x55 x56 x57 x58 x59 x60 x61:Value),listed=#[B 0,B 1,B 2,B 3,B 4,B 5,B 6,B 7,B 8,B 9,B 10,B 11]/\a=⟨#[.agg #[.slice aW AA.length cW,.slice aP b.AM.length cP,.slice aL b.AO.length cL,.slice aN b.AG.length cQ,.slice aX b.AL.length cX,.slice aT b.sn.length cT,.slice aF b.fr.length cF,.slice (some ⟨bN,oN,none⟩) b.rws.length cR],.pointer (some ⟨w.heap.size,0,none⟩),.pointer (some ⟨w.heap.size+1,0,none⟩),.pointer (some ⟨D,0,none⟩),.int .i64 (b.AG.length:Int),.int .i64 (k:Int),u6,u7,u8,u9,u10,u11,u12,u13,u14,u15,u16,u17,u18,u19,u20,u21,u22,u23,u24,.int .i64 (b.AG.length:Int),.pointer (some ⟨w.heap.size,3,none⟩),.slice aN b.AG.length cQ,.int .i64 (b.AG.length:Int),.bool false,u30,u31,u32,u33,u34,u35,u36,u37,u38,u39,u40,u41,u42,u43,.int .i64 (k:Int),.pointer (some ⟨w.heap.size,7,none⟩),.slice (some ⟨bN,oN,none⟩) b.rws.length cR,.int .i64 (b.rws.length:Int),.bool true,u49,u50,x51,x52,x53,x54,x55,x56,x57,x58,x59,x60,x61,u62],[]⟩/\bZ w w1 wr D k aM cM bN oN cR ai ci zs b bw nv rv bs N AA B G x51 x52 x53 x54 x55 x56 x57 x58 x59 x60 x61 w3) ?_ ?_ ?_
      . exact⟨fun _=>false,0,u51,u52,u53,u54,u55,u56,u57,u58,u59,u60,u61,rfl,rfl,⟨(fun _=>(AC.refl wr).drew),(fun q=>by cases q),(fun q=>by cases q),(fun q=>by cases q),(fun q=>by cases q),(fun q=>by cases q),(fun q=>by cases q),(fun q=>by cases q),(fun q=>by cases q),(fun q=>by cases q),(fun q=>by cases q),(fun q=>by cases q),(fun q=>by cases q),(fun q=>by cases q),(fun q=>by cases q)⟩⟩
      ·
       rintro listed a w3 ⟨B,G,x51,x52,x53,x54,x55,x56,x57,x58,x59,x60,x61,rfl,rfl,h'⟩ i hi;have hlt:=(AF hi).1;have hcs:i=0\/i=1\/i=2\/i=3\/i=4\/i=5\/i=6\/i=7\/i=8\/i=9\/i=10\/i=11:=by simp at hlt;omega
       rcases hcs with rfl|rfl|rfl|rfl|rfl|rfl|rfl|rfl|rfl|rfl|rfl|rfl
       ·
        have hbi:B 0=false:=by simpa using (AF hi).2.1
        refine AH rfl rfl (fun K hK=>?_);simp only[List.getElem_toArray,List.getElem_cons_zero];go_simp;refine hK.out _ _ ?_;exact⟨AZ B 0,G,_,_,_,_,_,_,_,_,_,_,_,rfl,rfl,{ h' with B0:=(fun q=>absurd ((h'.B0 q).1 0 (by omega)) (by rw[hbi];simp)),Jo:=(fun q=>absurd ((h'.B0 q).1 0 (by omega)) (by rw[hbi];simp)),Ed:=(fun q=>absurd ((h'.B0 (h'.Ed q).1).1 0 (by omega)) (by rw[hbi];simp)),bg:=(fun _=>rfl),TB:=(fun q=>absurd (h'.TB q).1 (by rw[hbi];simp)) }⟩
       ·
        have hbi:B 1=false:=by simpa using (AF hi).2.1
        have d0:B 0=true:=AJ hi 0 rfl (by kernel_rfl)
        have hac:B 9=false:=by
         cases e:B 9 with
         |false=>rfl
         |true=>exact absurd ((h'.B0 e).1 1 (by omega)) (by rw[hbi];simp)
        have dc:w3.cell? ⟨D,7,none⟩=some (.slice aM k cM):=((h'.HK hac).cell hbD).trans dM;have Ex:=Lib.hid (h'.bg d0);rw[Ex.out];refine AH rfl rfl (fun K hK=>?_);simp only[List.getElem_toArray,List.getElem_cons_succ,List.getElem_cons_zero];go_simp;refine hK.out _ _ ?_;have ex:=Ex.out;subst ex;exact⟨AZ B 1,G,_,_,_,_,_,_,_,_,_,_,_,rfl,rfl,{ h' with B0:=(fun q=>absurd ((h'.B0 q).1 1 (by omega)) (by rw[hbi];simp)),Jo:=(fun q=>absurd ((h'.B0 q).1 1 (by omega)) (by rw[hbi];simp)),Ed:=(fun q=>absurd ((h'.B0 (h'.Ed q).1).1 1 (by omega)) (by rw[hbi];simp)),TB:=(fun _=>⟨d0,rfl⟩) }⟩
       ·
        have hbi:B 2=false:=by simpa using (AF hi).2.1
        refine AH rfl rfl (fun K hK=>?_);simp only[List.getElem_toArray,List.getElem_cons_succ,List.getElem_cons_zero];go_simp;refine hK.out _ _ ?_;exact⟨AZ B 2,G,_,_,_,_,_,_,_,_,_,_,_,rfl,rfl,{ h' with B0:=(fun q=>absurd ((h'.B0 q).1 2 (by omega)) (by rw[hbi];simp)),Jo:=(fun q=>absurd ((h'.B0 q).1 2 (by omega)) (by rw[hbi];simp)),Ed:=(fun q=>absurd ((h'.B0 (h'.Ed q).1).1 2 (by omega)) (by rw[hbi];simp)),cK:=(fun _=>rfl),TA:=(fun q=>absurd (h'.TA q).1 (by rw[hbi];simp)) }⟩
       ·
        have hbi:B 3=false:=by simpa using (AF hi).2.1
        have d2:B 2=true:=AJ hi 2 rfl (by kernel_rfl)
        have hac:B 9=false:=by
         cases e:B 9 with
         |false=>rfl
         |true=>exact absurd ((h'.B0 e).1 3 (by omega)) (by rw[hbi];simp)
        have dc:w3.cell? ⟨w.heap.size,7,none⟩=some (.slice (some ⟨bN,oN,none⟩) b.rws.length cR):=((h'.HK hac).cell hbw).trans hB3;have Ex:=Lib.hid (h'.cK d2);rw[Ex.out];refine AH rfl rfl (fun K hK=>?_);simp only[List.getElem_toArray,List.getElem_cons_succ,List.getElem_cons_zero];go_simp;refine hK.out _ _ ?_;have ex:=Ex.out;subst ex;exact⟨AZ B 3,G,_,_,_,_,_,_,_,_,_,_,_,rfl,rfl,{ h' with B0:=(fun q=>absurd ((h'.B0 q).1 3 (by omega)) (by rw[hbi];simp)),Jo:=(fun q=>absurd ((h'.B0 q).1 3 (by omega)) (by rw[hbi];simp)),Ed:=(fun q=>absurd ((h'.B0 (h'.Ed q).1).1 3 (by omega)) (by rw[hbi];simp)),TA:=(fun _=>⟨d2,rfl⟩),Ph:=(fun q=>absurd (h'.Ph q).1.1 (by rw[hbi];simp)) }⟩
       ·
        have hbi:B 4=false:=by simpa using (AF hi).2.1
        refine AH rfl rfl (fun K hK=>?_);simp only[List.getElem_toArray,List.getElem_cons_succ,List.getElem_cons_zero];go_simp;refine hK.out _ _ ?_;exact⟨AZ B 4,G,_,_,_,_,_,_,_,_,_,_,_,rfl,rfl,{ h' with B0:=(fun q=>absurd ((h'.B0 q).1 4 (by omega)) (by rw[hbi];simp)),Jo:=(fun q=>absurd ((h'.B0 q).1 4 (by omega)) (by rw[hbi];simp)),Ed:=(fun q=>absurd ((h'.B0 (h'.Ed q).1).1 4 (by omega)) (by rw[hbi];simp)),dD:=(fun _=>rfl),Ph:=(fun q=>absurd (h'.Ph q).1.2 (by rw[hbi];simp)) }⟩
       ·
        have hbi:B 5=false:=by simpa using (AF hi).2.1
        have d3:B 3=true:=AJ hi 3 rfl (by kernel_rfl);have d4:B 4=true:=AJ hi 4 rfl (by kernel_rfl);have Ex:=Lib.hid ((h'.TA d3).2);rw[Ex.out];have Ey:=Lib.hid (h'.dD d4);rw[Ey.out];refine AH rfl rfl (fun K hK=>?_);simp only[List.getElem_toArray,List.getElem_cons_succ,List.getElem_cons_zero];go_simp;refine hK.out _ _ ?_;have ex:=Ex.out;subst ex;have ey:=Ey.out;subst ey;exact⟨AZ B 5,G,_,_,_,_,_,_,_,_,_,_,_,rfl,rfl,{ h' with B0:=(fun q=>absurd ((h'.B0 q).1 5 (by omega)) (by rw[hbi];simp)),Jo:=(fun q=>absurd ((h'.B0 q).1 5 (by omega)) (by rw[hbi];simp)),Ed:=(fun q=>absurd ((h'.B0 (h'.Ed q).1).1 5 (by omega)) (by rw[hbi];simp)),Ph:=(fun _=>⟨⟨d3,d4⟩,rfl⟩),TC:=(fun q=>absurd (h'.TC q).1 (by rw[hbi];simp)) }⟩
       ·
        have hbi:B 6=false:=by simpa using (AF hi).2.1
        have d5:B 5=true:=AJ hi 5 rfl (by kernel_rfl)
        have hac:B 9=false:=by
         cases e:B 9 with
         |false=>rfl
         |true=>exact absurd ((h'.B0 e).1 6 (by omega)) (by rw[hbi];simp)
        have dc:w3.cell? ⟨bN,oN+k,none⟩=some (.slice ai zs.length ci):=((h'.HK hac).cell hbN).trans dE;have Ex:=Lib.hid ((h'.Ph d5).2);rw[Ex.out];refine AH rfl rfl (fun K hK=>?_);simp only[List.getElem_toArray,List.getElem_cons_succ,List.getElem_cons_zero];go_simp;refine hK.out _ _ ?_;have ex:=Ex.out;subst ex;exact⟨AZ B 6,G,_,_,_,_,_,_,_,_,_,_,_,rfl,rfl,{ h' with B0:=(fun q=>absurd ((h'.B0 q).1 6 (by omega)) (by rw[hbi];simp)),Jo:=(fun q=>absurd ((h'.B0 q).1 6 (by omega)) (by rw[hbi];simp)),Ed:=(fun q=>absurd ((h'.B0 (h'.Ed q).1).1 6 (by omega)) (by rw[hbi];simp)),TC:=(fun _=>⟨d5,rfl⟩),Nw:=(fun q=>absurd (h'.Nw q).1 (by rw[hbi];simp)),OY:=(fun q=>absurd (h'.Nw q).1 (by rw[hbi];simp)) }⟩
       ·
        have hbi:B 7=false:=by simpa using (AF hi).2.1
        have d6:B 6=true:=AJ hi 6 rfl (by kernel_rfl)
        have hac:B 9=false:=by
         cases e:B 9 with
         |false=>rfl
         |true=>exact absurd ((h'.B0 e).1 7 (by omega)) (by rw[hbi];simp)
        have hK3:=h'.HK hac;have hsz:=hK3.size;have Ey:=Lib.hid ((h'.TC d6).2);rw[Ey.out];refine AH rfl rfl (fun K hK=>?_);simp only[List.getElem_toArray,List.getElem_cons_succ,List.getElem_cons_zero];go_simp;refine (DI _ _ _ (rE.keep hK3) (by omega)).mono ?_;rintro e wz ⟨vz,rfl,oz,kk⟩;go_wp2_with fail
        refine hK.out _ _ ?_;have ey:=Ey.out;subst ey;obtain⟨az,cz,ez,-⟩:=oz.rd;exact⟨AZ B 7,G,_,_,_,_,_,_,_,_,_,_,_,rfl,rfl,{ h' with B0:=(fun q=>absurd ((h'.B0 q).1 7 (by omega)) (by rw[hbi];simp)),Jo:=(fun q=>absurd ((h'.B0 q).1 7 (by omega)) (by rw[hbi];simp)),Ed:=(fun q=>absurd ((h'.B0 (h'.Ed q).1).1 7 (by omega)) (by rw[hbi];simp)),MW:=(fun q=>absurd (h'.MW q).1 (by rw[hbi];simp)),HK:=(fun _=>hK3.trans kk),Nw:=(fun _=>⟨d6,az,_,ez⟩),OY:=(fun _ _=>oz.Az hsz) }⟩
       ·
        have hbi:B 8=false:=by simpa using (AF hi).2.1
        have d7:B 7=true:=AJ hi 7 rfl (by kernel_rfl);obtain⟨_,a8,c8,e8⟩:=h'.Nw d7;have Ex:=Lib.hid (e8);rw[Ex.out];refine AH rfl rfl (fun K hK=>?_);simp only[List.getElem_toArray,List.getElem_cons_succ,List.getElem_cons_zero];clear e8;go_simp;refine hK.out _ _ ?_;have ex:=Ex.out;subst ex;exact⟨AZ B 8,w3.heap.size,_,_,_,_,_,_,_,_,_,_,_,rfl,rfl,{ h' with B0:=(fun q=>absurd ((h'.B0 q).1 8 (by omega)) (by rw[hbi];simp)),Jo:=(fun q=>absurd ((h'.B0 q).1 8 (by omega)) (by rw[hbi];simp)),Ed:=(fun q=>absurd ((h'.B0 (h'.Ed q).1).1 8 (by omega)) (by rw[hbi];simp)),HK:=(fun q=>(h'.HK q).alloc _),OY:=(fun q r=>(h'.OY q r).keep ((AC.refl w3).alloc _)),MW:=(fun _=>⟨d7,rfl,fun _=>AU (AC.refl _) 0⟩) }⟩
       ·
        have hbi:B 9=false:=by simpa using (AF hi).2.1
        have d1:B 1=true:=AJ hi 1 rfl (by kernel_rfl);have d8:B 8=true:=AJ hi 8 rfl (by kernel_rfl);have c0:=(h'.TB d1).1;obtain⟨bJ,eG,cG⟩:=h'.MW d8;obtain⟨zf,a8,c8,e8⟩:=h'.Nw bJ;have dle:=zf;have qx:=(h'.TC dle).1;obtain⟨⟨qy,yV⟩,-⟩:=h'.Ph qx;have yT:=(h'.TA qy).1
        have hall:∀j,j<9->B j=true:=by
         intro j hj;have hj2:j=0\/j=1\/j=2\/j=3\/j=4\/j=5\/j=6\/j=7\/j=8:=by omega
         rcases hj2 with rfl|rfl|rfl|rfl|rfl|rfl|rfl|rfl|rfl
         . exact c0
         . exact d1
         . exact yT
         . exact qy
         . exact yV
         . exact qx
         . exact dle
         . exact bJ
         . exact d8
        have hK3:=h'.HK hbi;have oA:=h'.OY bJ hbi;have cG2:=cG hbi;rw[e8] at cG2;have HR:=World.ownsRow.kept HR0 hK3.grownBy (by cases (Value.slice aM k cM).ownBlock<;>simp);have hsz:=hK3.size;have Ex:=Lib.hid ((h'.TB d1).2);rw[Ex.out];have Ey:=Lib.hid (eG);rw[Ey.out];have Ez:=Lib.hid (e8);rw[Ez.out];refine AH rfl rfl (fun K hK=>?_);simp only[List.getElem_toArray,List.getElem_cons_succ,List.getElem_cons_zero];clear eG e8;refine Dx _ _ 26 rfl w1.heap.size 28 j0 (.slice none 0 0) 1 24 Tryz.underlying26 hj hy0 hy1 hy2 rfl (by decide) (.slice aM k cM) k rv rfl HR ⟨G,0,none⟩ 1 1 [.slice a8 zs.length c8] rfl rfl (fun j u hu=>?_) (fun u hu=>by simp at hu;subst hu;rfl) (by unfold maxLen;omega) (by omega) (by omega) ?_
        ·
         match j,hu with
         | 0,hu=>simp at hu;subst hu;simpa [Addr.add] using cG2
        intro vz wz oz gz bz;simp only[Act.put,List.setIfInBounds_toArray,List.set_cons_zero,List.set_cons_succ];refine hK.out _ _ ?_;have ex:=Ex.out;subst ex;have ey:=Ey.out;subst ey;have ez:=Ez.out;subst ez
        have ho7:(EP 28 (rv++[.slice a8 zs.length c8]) vz).own wz w1.heap.size:=by
         show wz.ownsRow w1.heap.size 28 1 vz (rv++[Value.slice a8 zs.length c8]).length (rv++[Value.slice a8 zs.length c8]);rw[List.length_append,jI.out];exact oz
        have hu:∀q,(Value.slice a8 zs.length c8).ownBlock=some q->wr.heap.size<=q:=fun q hq=>(World.ownsRow.lt oA q hq).1
        obtain⟨H8,c8',f8⟩:=HH.out.VI hK3 hu (DS oA (by omega)) (by rw[jH.out];exact gz) (by rw[jH.out];rcases bz with e|e;exact .inl e;exact .inr (.inl e)) ho7;obtain⟨a9,c9,e9,-⟩:=Bt ho7;replace e9:vz = .slice a9 (k+1) c9:=by rw[e9,List.length_append,jI.out];rfl
        have K9:AC w1 wz:=(kr.trans hK3).grown gz (fun q hq=>(World.ownsRow.lt HR q hq).1);exact⟨AZ B 9,G,_,_,_,_,_,_,_,_,_,_,_,rfl,rfl,{ h' with B0:=(fun _=>⟨fun j hj=>by unfold AZ;rw[if_neg (by omega)];exact hall j hj,a9,c9,e9⟩),Jo:=(fun _ _=>⟨by rw[HT.out];exact H8,c8',f8,K9⟩),Ed:=(fun q=>absurd (h'.Ed q).1 (by rw[hbi];simp)),HK:=(fun q=>by cases q),OY:=(fun _ q=>by cases q),MW:=(fun _=>⟨bJ,rfl,fun q=>by cases q⟩) }⟩
       ·
        have hbi:B 10=false:=by simpa using (AF hi).2.1
        refine AH rfl rfl (fun K hK=>?_);simp only[List.getElem_toArray,List.getElem_cons_succ,List.getElem_cons_zero];go_simp;refine hK.out _ _ ?_;exact⟨AZ B 10,G,_,_,_,_,_,_,_,_,_,_,_,rfl,rfl,{ h' with cZ:=(fun _=>rfl),B0:=(fun q=>⟨fun j hj=>by unfold AZ;rw[if_neg (by omega)];exact (h'.B0 q).1 j hj,(h'.B0 q).2⟩) }⟩
       ·
        have hbi:B 11=false:=by simpa using (AF hi).2.1
        have d9:B 9=true:=AJ hi 9 rfl (by kernel_rfl);have d10:B 10=true:=AJ hi 10 rfl (by kernel_rfl);obtain⟨P1,P2,P3,P4⟩:=h'.Jo d9 hbi;obtain⟨-,a9,c9,e9⟩:=h'.B0 d9;have Ex:=Lib.hid (h'.cZ d10);rw[Ex.out];have Ey:=Lib.hid (e9);rw[Ey.out];refine AH rfl rfl (fun K hK=>?_);simp only[List.getElem_toArray,List.getElem_cons_succ,List.getElem_cons_zero];clear e9;have HP1:=Lib.hid P1;clear P1;go_simp;refine hK.out _ _ ?_;have ex:=Ex.out;subst ex;have ey:=Ey.out;subst ey;have P1:=HP1.out;exact⟨AZ B 11,G,_,_,_,_,_,_,_,_,_,_,_,rfl,rfl,{ h' with HK:=(fun q=>Gg (d9) q),OY:=(fun _ q=>Gg (d9) q),MW:=(fun q=>⟨(h'.MW q).1,(h'.MW q).2.1,fun r=>Gg (d9) r⟩),B0:=(fun q=>⟨fun j hj=>by unfold AZ;rw[if_neg (by omega)];exact (h'.B0 q).1 j hj,(h'.B0 q).2⟩),Jo:=(fun _ q=>by cases q),Ed:=(fun _=>⟨d9,P1,P4.grown (Ae w3 D 7 _) (fun q hq=>by have:=Option.some.inj hq;omega)⟩) }⟩
      ·
       rintro listed a w3 ⟨B,G,x51,x52,x53,x54,x55,x56,x57,x58,x59,x60,x61,rfl,rfl,h'⟩ hr;have hall:=DZ hr rfl (by kernel_rfl);have b11:B 11=true:=hall 11 (by simp);clear hall;obtain⟨HK,bg,TB,cK,TA,dD,Ph,TC,Nw,OY,MW,B0,Jo,cZ,Ed⟩:=h';clear hr;obtain⟨-,Q2,Q3⟩:=Ed b11;have HQ2:=Lib.hid Q2;have HQ3:=Lib.hid Q3;clear Q2 Q3 HK bg TB cK TA dD Ph TC Nw OY MW B0 Jo cZ Ed;go_wp2;go_roundw;case rel=>exact⟨k+1,by omega,by omega,⟨_,_,HQ2.out⟩,HQ3.out⟩
       case measure=>simp[intOf];omega
     ·
      obtain rfl:k=b.rws.length:=by omega
      simp only[List.take_length] at Hr;have Ur:=(Below.block kr (w.heap.size+1) s2).trans hR1;have Hn:AR wr w1.heap.size D bw nv rv bs N AA b:=by cases b;exact Hr
      clear Hr hk hlt;have Gs:=Hn.JK;obtain⟨Xj,Xg,Xe,Xf,Xk,Xi,Xd,Xh,cW2,cP2,cL2,cQ2,cX2,cT2,cF2,cR2,rfl⟩:=Hn.rd.shapes;simp only[BV.arr] at Gs;have HK:=Lib.hid (K1.trans kr);have HG:=Lib.hid (Af wr (w.heap.size+1) #[.slice Xj AA.length cW2,.slice Xg b.AM.length cP2,.slice Xe b.AO.length cL2,.slice Xf b.AG.length cQ2,.slice Xk b.AL.length cX2,.slice Xi b.sn.length cT2,.slice Xd b.fr.length cF2,.slice Xh b.rws.length cR2]);have HZ:=Lib.hid (setRow_heap wr (w.heap.size+1) _ #[.slice Xj AA.length cW2,.slice Xg b.AM.length cP2,.slice Xe b.AO.length cL2,.slice Xf b.AG.length cQ2,.slice Xk b.AL.length cX2,.slice Xi b.sn.length cT2,.slice Xd b.fr.length cF2,.slice Xh b.rws.length cR2] _ _ Ur);have Tg:∀q,some (w.heap.size+1)=some q->q<w1.heap.size/\(q<bs\/N<=q):=fun q hq=>by have:=Option.some.inj hq;omega
      have HO:=Lib.hid (((Hn.far HG.out Tg).val).Az (show w.heap.size<=w1.heap.size by omega));go_wp2_with (first|refine wpList_load_row rfl 36 _ rfl D rfl 36 _ (0,0) _ Gs Tryz.underlying36 rfl AK ?_|refine wpList_store_row rfl 36 _ _ rfl (w.heap.size+1) _ rfl rfl 36 _ Ur AK rfl (by simp[Value.oneCell']) ?_)
      refine bodyPost_ret (BU (by rfl) _ _ (w.heap.size+1) _ _ (0,0) _ rfl HZ.out Tryz.underlying36 rfl AK) rfl ?_;exact⟨⟨.slice Xj AA.length cW2,.slice Xg b.AM.length cP2,.slice Xe b.AO.length cL2,.slice Xf b.AG.length cQ2,.slice Xk b.AL.length cX2,.slice Xi b.sn.length cT2,.slice Xd b.fr.length cF2,.slice Xh b.rws.length cR2⟩,nv,rv,bs,N,rfl,HO.out,by omega,HK.out.grown HG.out (fun q hq=>by have:=Option.some.inj hq;omega)⟩
theorem Gw (w:World)(m D:Nat)(v:BV)(nv rv:List Value)(bs N:Nat)(AA:List (List Dd))(b:Bd)(p:Nat)(x ev:Int)(h:AR w m D v nv rv bs N AA b)(hp:p<b.AM.length)(hl:p<b.AO.length)(hr:p<b.rws.length)(ht:(b.rws.getD p []).length<=1048576):
  Calls Tryz.prog 86 #[.pointer (some ⟨D,0,none⟩),.int .i64 p,.int .i64 x,.int .i64 ev] w fun e w'=>e = .returned (.tuple #[])/\∃rv',AR w' m D v nv rv' bs N AA (Dn b p x ev)/\Ak w w' (Bp D v nv rv) (Bp D v nv rv'):=by
 obtain⟨i0,hi,hz0,hz1,hz2⟩:=info_parts Tryz.GU;obtain⟨vW,vP,vL,vN,vX,vS,vF,vR⟩:=v;obtain⟨gp,cp,eP,lp,dp,fp⟩:=h.oP.lit hp;obtain⟨gl,cl,eL,-,-,-⟩:=h.oL.lit hl;obtain⟨aR,cR,eR,hR⟩:=h.hR;rcases hR with h0|⟨gr,rfl,-,-⟩
 . exfalso;rw[h0] at hr;simp at hr
 simp only at eP eL eR;subst eP eL eR;have c1:w.cell? ⟨D,1,none⟩=some (.slice (some ⟨gp,0,none⟩) b.AM.length cp):=h.cells.2.1;have d1:=dp p hp;have f1:=fp p;have mb:=h.base;have mP:=h.ge .AM trivial gp rfl;have mL:=h.ge .AO trivial gl rfl;have mR:=h.ge .rws trivial gr rfl;have i1:(0:Int)<=(p:Int):=Int.natCast_nonneg _;have i2:(p:Int)<(b.AM.length:Int):=by omega
 have i3:(p:Int)<(b.AO.length:Int):=by omega
 have i4:(p:Int)<(b.rws.length:Int):=by omega
 have H1:=h.mr (k:=p) (x:=x) rfl;have B1:=(Ak.refl w (Bp D ⟨vW,.slice (some ⟨gp,0,none⟩) b.AM.length cp,.slice (some ⟨gl,0,none⟩) b.AO.length cl,vN,vX,vS,vF,.slice (some ⟨gr,0,none⟩) b.rws.length cR⟩ nv rv)).grown (Ae w gp p (.int .i64 x)) (fun g hg=>⟨.AM,trivial,hg⟩);have HD:=Lib.hid h;clear dp fp h;go_enter Tryz.func86,Tryz.ntmps86
 go_upto_region 1 with fail
 obtain⟨w1,hw⟩:∃W:World,W=w.setCell ⟨gp,p,none⟩ (.int .i64 x):=⟨_,rfl⟩;rw[<-hw] at H1 B1 ⊢;clear hw c1 d1 f1;obtain⟨gl',cl',eL',ll,dl,fl⟩:=H1.oL.lit hl;simp only[Value.slice.injEq,Option.some.injEq,Addr.mk.injEq,and_true,true_and] at eL';obtain⟨rfl,rfl⟩:=eL';have c2:w1.cell? ⟨D,2,none⟩=some (.slice (some ⟨gl,0,none⟩) b.AO.length cl):=H1.cells.2.2.1;have d2:=dl p hl;have f2:=fl p;have H2:=H1.EL (k:=p) (x:=ev) rfl;have B2:=B1.grown (Ae w1 gl p (.int .i64 ev)) (fun g hg=>⟨.AO,trivial,hg⟩);clear dl fl;go_upto_region 2 with fail
 obtain⟨w2,hw⟩:∃W:World,W=w1.setCell ⟨gl,p,none⟩ (.int .i64 ev):=⟨_,rfl⟩;rw[<-hw] at H2 B2 ⊢;clear hw c2 d2 f2 H1 B1;have H3:AR (w2.drew.alloc (.cells #[.int .i64 ev] 2)) m D _ nv rv bs N AA _:=H2.drew.keep ((AC.refl _).alloc _);obtain⟨aR',cR',eR',hR'⟩:=H2.drew.hR;simp only[Value.slice.injEq,true_and] at eR';obtain⟨rfl,rfl⟩:=eR';rcases hR' with h0|⟨gr',er,lr,dr⟩
 . exfalso;rw[h0] at hr;simp at hr
 simp only[Option.some.injEq,Addr.mk.injEq,and_true] at er;subst er;have c3:w2.drew.cell? ⟨D,7,none⟩=some (.slice (some ⟨gr,0,none⟩) b.rws.length cR):=H2.drew.cells.2.2.2.2.2.2.2;have d3:=dr p hr;have ow:=H3.oR hr;have zD:=H2.drew.base.2;have B3:=B2.keep (((AC.refl w2).drew).alloc (.cells #[.int .i64 ev] 2));obtain⟨au,cu,hu⟩:∃a c,rv.getD p AE = .slice a (b.rws.getD p []).length c:=by obtain⟨a,c,e,_⟩:=ow.rd;exact⟨a,c,e⟩
 have HU:=Lib.hid hu;rw[hu] at d3;have o3:(w2.drew.alloc (.cells #[.int .i64 ev] 2)).ownsRow m 2 1 (.slice au (b.rws.getD p []).length cu) (b.rws.getD p []).length ((b.rws.getD p []).map (Value.int .i64)):=by rw[<-hu];exact ow
 have s3:m<=(w2.drew.alloc (.cells #[.int .i64 ev] 2)).heap.size:=by have:=H3.base;omega
 have RL:Hid ((b.rws.getD p []).length<=1048576):=Lib.hid ht;have c4:w2.cell? ⟨D,7,none⟩=some (.slice (some ⟨gr,0,none⟩) b.rws.length cR):=c3;have d4:w2.cell? ⟨gr,p,none⟩=some (.slice au (b.rws.getD p []).length cu):=d3;have l4:gr<w2.heap.size:=lr;have z4:D<w2.heap.size:=zD;have c5:(w2.alloc (.cells #[.int .i64 ev] 2)).cell? ⟨D,7,none⟩=some (.slice (some ⟨gr,0,none⟩) b.rws.length cR):=(((AC.refl w2).alloc _).cell z4).trans c4;have d5:(w2.alloc (.cells #[.int .i64 ev] 2)).cell? ⟨gr,p,none⟩=some (.slice au (b.rws.getD p []).length cu):=(((AC.refl w2).alloc _).cell l4).trans d4;clear ow dr hu;generalize hZ:b.rws.getD p []=Z at *;have HZ:=Lib.hid hZ;clear hZ;go_wp2_with fail
 go_region_law ((first
  | (refine DF rfl (.tmp 33) (.tmp 35) 28 rfl m 2 i0 (.int .i64 0) 1 8 Tryz.underlying28 hi hz0 hz1 hz2 rfl (by decide) (.slice au Z.length cu) Z.length (Z.map (Value.int .i64)) rfl o3 ⟨_,0,none⟩ 1 1 [.int .i64 ev] rfl rfl (fun j u hj=>by match j,hj with|0,hj=>simp at hj;subst hj;simp[Addr.add]) (fun u hu=>by simp at hu;subst hu;rfl) (by unfold maxLen;omega) (by omega) s3 ?_;intro v' w5 hown' hgrow hblk;have HH:=H3.Y8 hr (u:=v') (zs:=Z++[ev]) (by rw[HU.out];exact hgrow) (by rw[HU.out];rcases hblk with h|h;exact .inl h;exact .inr (.inl h)) (ES hown') rfl;obtain⟨HO,hcell,hfr⟩:=HH;have c6:w5.cell? ⟨D,7,none⟩=some (.slice (some ⟨gr,0,none⟩) b.rws.length cR):=(H3.stay (.rw p) (by show p<rv.length;rw[H3.lr];exact hr) (by simp) (by show World.grownBy _ _ (rv.getD p AE).ownBlock;rw[HU.out];exact hgrow) 7).trans c5;obtain⟨a5,q5,hv5,-⟩:=(ES hown').rd;rw[List.length_append,List.length_singleton] at hv5;subst hv5)))
 all_goals
  go_wp2;go_end0;refine⟨rfl,rv.set p (.slice a5 (Z.length+1) q5),?_,?_⟩
  ·
   have e:Dn b p x ev={ b with AM:=b.AM.set p x,AO:=b.AO.set p ev,rws:=b.rws.set p (Z++[ev]) }:=by rw[Dn,HZ.out]
   rw[e];exact HO
  ·
   have hpr:p<rv.length:=by rw[H3.lr];exact hr
   refine ((B3.grown hgrow (fun k hk=>⟨.rw p,hpr,by show (rv.getD p AE).ownBlock=_;rw[HU.out];exact hk⟩)).grown (Ae _ gr p _) (fun g hg=>⟨.rws,trivial,hg⟩)).more (fun g hg=>?_);obtain⟨i,hi,e⟩:=hg
   cases i with
   |rw q=>
    have hq:q<rv.length:=by simpa [BZ] using hi
    by_cases eq:q=p
    ·
     subst eq;have e:((rv.set q (.slice a5 (Z.length+1) q5)).getD q AE).ownBlock=some g:=e;rw[BR _ _ _ _ hq,if_pos rfl] at e;rcases hblk with hb|hb
     . left;exact⟨.rw q,hq,by show (rv.getD q AE).ownBlock=_;rw[HU.out,<-hb];exact e⟩
     ·
      right;rw[hb] at e;have e2:(w2.drew.alloc (.cells #[.int .i64 ev] 2)).heap.size=g:=Option.some.inj e;rw[<-e2];exact B3.size
    ·
     have e:((rv.set p (.slice a5 (Z.length+1) q5)).getD q AE).ownBlock=some g:=e;rw[BR _ _ _ _ hpr,if_neg eq] at e;exact .inl ⟨.rw q,hq,e⟩
   |nt q=>exact .inl ⟨.nt q,hi,e⟩
   |bd=>exact .inl ⟨.bd,trivial,e⟩
   |AM=>exact .inl ⟨.AM,trivial,e⟩
   |AO=>exact .inl ⟨.AO,trivial,e⟩
   |AG=>exact .inl ⟨.AG,trivial,e⟩
   |AL=>exact .inl ⟨.AL,trivial,e⟩
   |sn=>exact .inl ⟨.sn,trivial,e⟩
   |fr=>exact .inl ⟨.fr,trivial,e⟩
   |rws=>exact .inl ⟨.rws,trivial,e⟩
theorem M7 (w:World)(m D:Nat)(v:BV)(nv rv:List Value)(bs N:Nat)(AA:List (List Dd))(b:Bd)(ve:Value)(es:List Ev)(ev x f:Int)(h:AR w m D v nv rv bs N AA b)(he:bA w ve es)(hl:es.length<=12)(hs:b.sn.length=(AX Ah es).length)(hf:b.fr.length=(AX Ah es).length):
  Calls Tryz.prog 110 #[.pointer (some ⟨D,0,none⟩),ve,.int .i64 ev,.int .i64 x,.int .i64 f] w fun e w'=>e = .returned (.tuple #[])/\AR w' m D v nv rv bs N AA (Fo (AX Ah es) b ev x f)/\Ak w w' (Bp D v nv rv) (Bp D v nv rv):=by
 have hb:=h.base;have HE:Hid (Fo (AX Ah es) b ev x f={ b with sn:=Dc (AX Ah es) ev x b.sn (AX Ah es).length,fr:=Dc (AX Ah es) ev f b.fr (AX Ah es).length }):=Lib.hid (by rw[Fo,PV hs,PV hf]);generalize Fo (AX Ah es) b ev x f=B' at HE ⊢
 have r12:(AX Ah es).length<=12:=by
  unfold AX;rw[if_pos hl];have:=DP Ah es es.length;omega
 have HS5:Hid (∀k,v.S.ownBlock=some k->k<w.heap.size):=Lib.hid (fun k hk=>(h.Ai.lt (i:= .sn) trivial k hk).2);have HF6:Hid (∀k,v.F.ownBlock=some k->k<w.heap.size):=Lib.hid (fun k hk=>(h.Ai.lt (i:= .fr) trivial k hk).2);obtain⟨vW,vP,vL,vN,vX,vS,vF,vR⟩:=v;have HS:=Lib.hid hs;have HFL:=Lib.hid hf;go_enter Tryz.func110,Tryz.ntmps110
 go_wp2_with fail
 refine (Eo _ _ _ he (by omega)).mono ?_;rintro e w1 ⟨v1,rfl,o1,k1⟩;have H1:=h.keep k1;have B1:Ak w w1 (Bp D ⟨vW,vP,vL,vN,vX,vS,vF,vR⟩ nv rv) (Bp D ⟨vW,vP,vL,vN,vX,vS,vF,vR⟩ nv rv):=(Ak.refl _ _).keep k1;have s1:=k1.size;generalize AX Ah es=rs at *;obtain⟨a1,c1,rfl,-⟩:=o1.rd;clear h he hs hf;go_wp2;go_loopw [11] (fun i wr=>∃k:Nat,k<=rs.length/\i = .int .i64 k/\AR wr m D ⟨vW,vP,vL,vN,vX,vS,vF,vR⟩ nv rv bs N AA { b with sn:=Dc rs ev x b.sn k,fr:=Dc rs ev f b.fr k }/\BM wr w.heap.size (.slice a1 rs.length c1) rs/\Ak w wr (Bp D ⟨vW,vP,vL,vN,vX,vS,vF,vR⟩ nv rv) (Bp D ⟨vW,vP,vL,vN,vX,vS,vF,vR⟩ nv rv)) (fun i _=>rs.length-(intOf i).toNat)
 case atStart=>exact⟨0,Nat.zero_le _,rfl,H1,o1,B1⟩
 case round=>
  obtain⟨k,hk,rfl,H,ho,B⟩:=hrel;clear H1 B1;by_cases hlt:k<rs.length
  ·
   obtain⟨a',c',e',hc⟩:=ho.rd;simp only[Value.slice.injEq,true_and] at e';obtain⟨rfl,rfl⟩:=e';rcases hc with h0|⟨br,or',rfl,hbr,hcr⟩
   . exfalso;rw[h0] at hlt;simp at hlt
   have d1:=hcr k hlt;have i1:(0:Int)<=(k:Int):=Int.natCast_nonneg _;have i2:(k:Int)<(rs.length:Int):=by omega
   have HH:rs.getD k 0=ev->Hid (Dc rs ev x b.sn (k+1)=(Dc rs ev x b.sn k).set k x/\Dc rs ev f b.fr (k+1)=(Dc rs ev f b.fr k).set k f):=fun e=>Lib.hid ⟨by rw[Dc,if_pos (decide_eq_true e)],by rw[Dc,if_pos (decide_eq_true e)]⟩
   have HZ:rs.getD k 0≠ev->Hid (Dc rs ev x b.sn (k+1)=Dc rs ev x b.sn k/\Dc rs ev f b.fr (k+1)=Dc rs ev f b.fr k):=fun e=>Lib.hid ⟨by rw[Dc,if_neg (by simpa using e)],by rw[Dc,if_neg (by simpa using e)]⟩
   generalize rs.getD k 0=r at d1 HH HZ;clear hcr;by_cases er:r=ev
   ·
    have HM:=HH er;have be:(r==ev)=true:=by simp[er]
    subst er;clear HH HZ;have ls:(Dc rs r x b.sn k).length=b.sn.length:=IW _ _ _ _ _;have lf:(Dc rs r f b.fr k).length=b.fr.length:=IW _ _ _ _ _;have hks:k<(Dc rs r x b.sn k).length:=by rw[ls,HS.out];exact hlt
    have zC:k<(Dc rs r f b.fr k).length:=by rw[lf,HFL.out];exact hlt
    generalize Dc rs r x b.sn k=SN at *;generalize Dc rs r f b.fr k=FR at *;obtain⟨gs,cs,eS,lgs,dS,fS⟩:=H.oS.lit hks;obtain⟨gf,cf,eF,-,-,-⟩:=H.oF.lit zC;simp only at eS eF;subst eS eF;have c5:wr.cell? ⟨D,5,none⟩=some (.slice (some ⟨gs,0,none⟩) SN.length cs):=H.cells.2.2.2.2.2.1;have d5:=dS k hks;have f5:=fS k;have i3:(k:Int)<(SN.length:Int):=by omega
    have i4:(k:Int)<(FR.length:Int):=by omega
    have lS:gs<w.heap.size:=HS5.out gs rfl;have lF:gf<w.heap.size:=HF6.out gf rfl;have nS:(Value.slice (some ⟨br,or',none⟩) rs.length c1).ownBlock=none\/(Value.slice (some ⟨br,or',none⟩) rs.length c1).ownBlock≠some gs:= .inr (fun e=>by have:=ho.ge gs e;omega);have nF:(Value.slice (some ⟨br,or',none⟩) rs.length c1).ownBlock=none\/(Value.slice (some ⟨br,or',none⟩) rs.length c1).ownBlock≠some gf:= .inr (fun e=>by have:=ho.ge gf e;omega);have H2:=H.iU (k:=k) (x:=x) rfl;have B2:=B.grown (Ae wr gs k (.int .i64 x)) (fun g hg=>⟨.sn,trivial,hg⟩);have o2:=ho.kept (Ae wr gs k (.int .i64 x)) nS;clear dS fS;go_upto_region 6 with fail
    obtain⟨w2,hw⟩:∃W:World,W=wr.setCell ⟨gs,k,none⟩ (.int .i64 x):=⟨_,rfl⟩;rw[<-hw] at H2 B2 o2 ⊢;clear hw c5 d5 f5 d1 H B ho;obtain⟨gf',cf',eF',lgf,dF,fF⟩:=H2.oF.lit zC;simp only[Value.slice.injEq,Option.some.injEq,Addr.mk.injEq,and_true,true_and] at eF';obtain⟨rfl,rfl⟩:=eF';have c6:w2.cell? ⟨D,6,none⟩=some (.slice (some ⟨gf,0,none⟩) FR.length cf):=H2.cells.2.2.2.2.2.2.1;have d6:=dF k zC;have f6:=fF k;have H3:=H2.sV (k:=k) (x:=f) rfl;have B3:=B2.grown (Ae w2 gf k (.int .i64 f)) (fun g hg=>⟨.fr,trivial,hg⟩);have o3:=o2.kept (Ae w2 gf k (.int .i64 f)) nF;clear dF fF;go_wp2;go_roundw;case rel=>exact⟨k+1,by omega,by go_num,by rw[HM.out.1,HM.out.2];exact H3,o3,B3⟩
    case measure=>simp[intOf];omega
   ·
    have HM:=HZ er;have be:(r==ev)=false:=by simp[er]
    clear HH HZ;go_wp2;go_roundw;case rel=>exact⟨k+1,by omega,by go_num,by rw[HM.out.1,HM.out.2];exact H,ho,B⟩
    case measure=>simp[intOf];omega
  ·
   obtain rfl:k=rs.length:=by omega
   go_wp2;go_end0;exact⟨rfl,by rw[HE.out];exact H,B⟩
theorem QK (w:World)(v:Value)(es:List Ev)(c k:Nat)(h:bA w v es)(hl:es.length<=12):
  Calls Tryz.prog 108 #[v,.int .i64 c,.int .i64 k] w fun e w'=>e = .returned (.int .i64 (Kq es c k))/\AC w w':=by
 obtain⟨a,cp,rfl,h⟩:=h;go_enter Tryz.func108,Tryz.ntmps108
 go_wp2;go_loopw [7] (fun i wr=>∃q:Nat,3<=q/\(q<=es.length\/q=3)/\i = .int .i64 q/\Hid (∀j,3<=j->j<q->Xl es c k j=false)/\AC w wr) (fun i _=>es.length-(intOf i).toNat)
 case atStart=>exact⟨3,Nat.le_refl _,.inr rfl,rfl,Lib.hid (fun j h1 h2=>by omega),AC.refl _⟩
 case round=>
  obtain⟨q,h3,hq,rfl,HN,hK⟩:=hrel;by_cases hlt:q<es.length
  ·
   rcases h with h0|⟨b,off,rfl,hb,hc⟩
   . exfalso;rw[h0] at hlt;simp at hlt
   have AT:=(hc q _ (MO hlt)).keep hb hK;have HY:Xl es c k q=true->Hid (Kq es c k=(q:Int)):=fun e=>Lib.hid (fu h3 hlt HN.out e)
   have HX:Xl es c k q=false->Hid (∀j,3<=j->j<q+1->Xl es c k j=false):=fun e=>Lib.hid (fun j h1 h2=>by
    by_cases ej:j=q
    . subst ej;exact e
    . exact HN.out j h1 (by omega))
   unfold Xl at HY;have HX:(((es.getD q zE).1==(c:Int))&&((es.getD q zE).2.1==(k:Int)))=false->Hid (∀j,3<=j->j<q+1->Xl es c k j=false):=HX;generalize es.getD q zE=y at AT HY HX;obtain⟨y0,y1,y2,y3,y4,y5⟩:=y;obtain⟨q0,q1,-,-,-,-⟩:=oK AT;simp only at HY HX q0 q1;have i1:(0:Int)<=(q:Int):=Int.natCast_nonneg _;have i2:(q:Int)<(es.length:Int):=by omega
   clear hc AT HN;cases e0:(y0==(c:Int))
   ·
    have HE:=HX (by rw[e0];rfl);clear HX HY;go_wp2;go_roundw;case rel=>exact⟨q+1,by omega,.inl (by omega),by go_num,HE,hK⟩
    case measure=>simp[intOf];omega
   ·
    cases e1:(y1==(k:Int))
    ·
     have HE:=HX (by rw[e0,e1];rfl);clear HX HY;go_wp2;go_roundw;case rel=>exact⟨q+1,by omega,.inl (by omega),by go_num,HE,hK⟩
     case measure=>simp[intOf];omega
    ·
     have HE:=HY (by rw[e0,e1];rfl);clear HX HY;go_wp2;go_ret;exact⟨by rw[HE.out];rfl,hK⟩
  ·
   have HE:Hid (Kq es c k=-1):=Lib.hid (Yq (fun j h1 h2=>HN.out j h1 (by omega)));have i2:¬((q:Int)<(es.length:Int)):=by omega
   clear HN;go_wp2;go_ret;exact⟨by rw[HE.out];rfl,hK⟩
end Go.Proofs.YtnmelakgmgenjaaGreat
