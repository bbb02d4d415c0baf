/- Gathered texts. -/
import Derived.Defers
import Derived.Recover
import Derived.Lib.Hide
import Derived.Laws.Rows
import Derived.Deep.Cut
import Derived.Test.YtflehmepjhikcaaGreatDoorMV
import Derived.Deep.RegionHeld3
import Derived.Deep.QuietTactic
import Derived.BigQuiet
set_option maxRecDepth 100000
set_option maxHeartbeats 8000000
namespace Go.Proofs.YtflehmepjhikcaaGreatDoor
open Go.ChangeShapes Go.WideShapes Go.ChangeAt Go.RowKit
theorem Y9 (p0:Addr)(w:World):CallsD Tryz.prog 108 #[.pointer (some p0)] .returning w fun e u' w'=>e = .returned (.tuple #[])/\u' = .returning/\w'=w:=by
 refine callsD_of_wpS Tryz.func108 rfl fun c₀ cs hu=>?_
 apply wpS_seq;apply wpS_region;have hn:∀w:World,(binOp BinOp.neq 20 .nilIface .nilIface).run Tryz.prog w = .ok (.bool false) w:=fun _=>by kernel_rfl
 simp[wpOpsS,go_sem,recoverD,hu,Tryz.ntmps108,Exit.thenS,hn];refine wpS_cond (t:=false) (by simp[Act.eval,Array.replicate]) ?_;simp only[Bool.false_eq_true,if_false];refine wpS_of_wp (wp_skip ?_);cases c₀;simp_all [bodyPostS,results,Tryz.results108]
theorem eZ (g:Nat)(w:World)(x:Value)(hg:w.heap[g]? = some (.cells #[x] 25 (0,0))):CallsD Tryz.prog 108 #[.pointer (some ⟨g,0,none⟩)] (.panicking [{ v:=Vj,recovered:=false }]) w fun e u' w'=>e = .returned (.tuple #[])/\u' = .panicking [{ v:=Vj,recovered:=true }]/\w'=(w.alloc (.cells #[] 2)).setCell ⟨g,0,none⟩ (.slice (some ⟨w.heap.size,0,none⟩) 0 0):=by
 have hl:g<w.heap.size:=(Array.getElem?_eq_some_iff.1 hg).1;have hg2:=(Below.block ((AC.refl w).alloc (.cells #[] 2)) g hl).trans hg;have hc:(w.alloc (.cells #[] 2)).cell? ⟨g,0,none⟩=some x:=by rw[cell_of_row _ g 0 _ _ _ hg2];rfl
 have hf:(w.alloc (.cells #[] 2)).frozen? ⟨g,0,none⟩=false:=frozen_of_row _ g 0 _ _ hg2;have hv:∀w:World,(binOp BinOp.neq 20 Vj .nilIface).run Tryz.prog w = .ok (.bool true) w:=fun _=>by kernel_rfl
 refine callsD_of_wpS Tryz.func108 rfl fun c₀ cs hu=>?_
 apply wpS_seq;apply wpS_region;simp[wpOpsS,go_sem,recoverD,hu,Tryz.ntmps108,Exit.thenS,hv];refine wpS_cond (t:=true) (by simp[Act.eval,Array.replicate]) ?_;simp only[if_true];refine wpS_of_wp ?_;go_wp2;cases c₀;simp_all [bodyPostS,results,Tryz.results108];exact (World.setCell_alloc_past _ _ _ _ hl).symm
theorem Pk {w wr:World}{v:Value}{zs:List Int}{x:Value}(O:A7 wr (w.heap.size+2) v zs)(K:AC w wr)(hg:wr.heap[w.heap.size+1]? = some (.cells #[x] 25 (0,0))):
  (wr.setCell ⟨w.heap.size+1,0,none⟩ v).cell? ⟨w.heap.size+1,0,none⟩=some v/\(wr.setCell ⟨w.heap.size+1,0,none⟩ v).heap[w.heap.size+1]? = some (.cells #[v] 25 (0,0))/\A7 (wr.setCell ⟨w.heap.size+1,0,none⟩ v) (w.heap.size+2) v zs/\AC w (wr.setCell ⟨w.heap.size+1,0,none⟩ v)/\wr.cell? ⟨w.heap.size+1,0,none⟩=some x/\wr.frozen? ⟨w.heap.size+1,0,none⟩=false:=by
 have hS:=heap_setCell_same wr (w.heap.size+1) 0 _ _ v hg;refine⟨by rw[cell_of_row _ _ 0 _ _ _ hS];rfl,hS,World.ownsRow.kept O (Ac wr (w.heap.size+1) 0 v) ?_,K.grown (Ac wr (w.heap.size+1) 0 v) (fun k hk=>by have:=Option.some.inj hk;omega),by rw[cell_of_row _ _ 0 _ _ _ hg];rfl,frozen_of_row wr _ 0 _ _ hg⟩
 cases e:v.ownBlock with
 |none=>exact .inl rfl
 |some k=>exact .inr (fun e'=>by have:=O.ge k e;have:=Option.some.inj e';omega)
theorem Im (w:World)(v:BV)(AA:List (List Dd))(b:Bd)(h:Cf w v AA b)(hz:Ks AA b):
  Calls Tryz.prog 79 #[v.agg] w fun e w'=>∃v',e = .returned v'/\A7 w' w.heap.size v' (KP AA b)/\AC w w':=by
 obtain⟨aW,aP,aL,aN,aX,aS,aF,aR,cW,cP,cL,cN,cX,cS,cF,cR,rfl⟩:=h.shapes;have C:=fun (W:World) (kW:AC w W)=>FJ W _ AA b (h.keep kW) hz
 have HS:=Lib.hid h.S;have HP:=Lib.hid h.P;have z1:=hz.sn;have z2:=hz.AM;clear h hz;have HD:Hid (KP AA b=if Am AA b=true then b.sn++b.AM else []):=Lib.hid rfl;have um:∀(fn:Fn) (first cap:Array Value) (w:World),(Instr.makeFunc fn first cap).run Tryz.prog w = .ok (.func fn first cap) w:=fun _ _ _ _=>rfl
 obtain⟨w1,hw1⟩:∃W:World,W=((w.alloc (.cells #[.slice aW AA.length cW,.slice aP b.AM.length cP,.slice aL b.AO.length cL,.slice aN b.AJ.length cN,.slice aX b.AK.length cX,.slice aS b.sn.length cS,.slice aF b.fr.length cF,.slice aR b.rws.length cR] 103)).alloc (.cells #[.slice none 0 0] 25)):=⟨_,rfl⟩;have K1:AC w w1:=by rw[hw1];exact ((AC.refl w).alloc _).alloc _
 have s1:w1.heap.size=w.heap.size+2:=by rw[hw1,AD,AD]
 have hR1:w1.heap[w.heap.size+1]? = some (.cells #[.slice none 0 0] 25 (0,0)):=by
  rw[hw1,<-AD w (.cells #[.slice aW AA.length cW,.slice aP b.AM.length cP,.slice aL b.AO.length cL,.slice aN b.AJ.length cN,.slice aX b.AK.length cX,.slice aS b.sn.length cS,.slice aF b.fr.length cF,.slice aR b.rws.length cR] 103)];exact heap_alloc_new _ _
 have hB1:w1.heap[w.heap.size]? = some (.cells #[.slice aW AA.length cW,.slice aP b.AM.length cP,.slice aL b.AO.length cL,.slice aN b.AJ.length cN,.slice aX b.AK.length cX,.slice aS b.sn.length cS,.slice aF b.fr.length cF,.slice aR b.rws.length cR] 103 (0,0)):=by rw[hw1];exact (Below.block ((AC.refl _).alloc _) _ (by rw[AD];omega)).trans (heap_alloc_new _ _)
 go_enter_defers Tryz.func79,Tryz.ntmps79
 go_upto_region 2 with fail
 rw[<-hw1];clear hw1;go_wp2_with (first|refine wpList_load_row rfl 103 _ rfl w.heap.size rfl 103 _ (0,0) _ hB1 Tryz.underlying103 rfl AQ ?_|fail)
 refine (C _ K1).mono ?_;rintro e w2 ⟨rfl,k2⟩;have K2:=K1.trans k2;have hsz:=k2.size;have hR2:=(Below.block k2 (w.heap.size+1) (by omega)).trans hR1;have hB2:=(Below.block k2 w.heap.size (by omega)).trans hB1;have k3:AC w2 (w2.alloc (.cells #[] 2)):=(AC.refl w2).alloc _;have O3:A7 (w2.alloc (.cells #[] 2)) (w.heap.size+2) (.slice (some ⟨w2.heap.size,0,none⟩) 0 0) []:=World.ownsRow_lit w2 #[] 0 (by omega) (by decide) rfl;have hR3:=(Below.block k3 (w.heap.size+1) (by omega)).trans hR2;have hB3:=(Below.block k3 w.heap.size (by omega)).trans hB2;have K3:=K2.trans k3;have hsz3:=k3.size;clear hR1 hB1 hB2 C;cases hb:Am AA b
 ·
  rw[Ad rfl];have HE:Hid (KP AA b=[]):=Lib.hid (by rw[HD.out,hb];rfl);obtain⟨hc,-,OZ,KZ,-,-⟩:=Pk O3 K3 hR3;go_wp2;refine leaves_cons (f:=108) (args:=#[.pointer (some ⟨w.heap.size+1,0,none⟩)]) (by simp) (by simp[go_sem]) ?_;refine (eZ _ _ _ hR2).mono ?_;rintro e u' w9 ⟨rfl,rfl,rfl⟩;simp[Leaves,settle,results,Tryz.results79,go_sem,hc];exact⟨by rw[HE.out];exact OZ.BK (by omega),KZ⟩
 ·
  rw[Aq rfl];have HE:Hid (KP AA b=b.sn++b.AM):=Lib.hid (by rw[HD.out,hb];rfl);clear HD hb hR2;obtain⟨w3,hw3⟩:∃W:World,W=w2.alloc (.cells #[] 2):=⟨_,rfl⟩;rw[<-hw3] at O3 hR3 hB3 K3 k3 hsz3;have f5:w3.cell? ⟨w.heap.size,5,none⟩=some (.slice aS b.sn.length cS):=by rw[cell_of_row w3 _ 5 _ _ _ hB3];rfl
  have f5':(w2.alloc (.cells #[] 2)).cell? ⟨w.heap.size,5,none⟩=some (.slice aS b.sn.length cS):=by rw[<-hw3];exact f5
  go_wp2_with (at_builtin;rw[<-hw3];refine Az rfl _ _ rfl (w.heap.size+2) _ [] rfl O3 _ rfl b.sn (HS.out.keep K3) (by simp) z1 (by omega) ?_)
  intro v4 w4 O4 g4 _;rw[<-hw3] at g4;have hge:∀k,some w2.heap.size=some k->w.heap.size+2<=k:=fun k hk=>by have:=Option.some.inj hk;omega
  have K4:AC w w4:=K3.grown g4 (fun k hk=>by have:=hge k hk;omega);have hR4:w4.heap[w.heap.size+1]? = some (.cells #[.slice none 0 0] 25 (0,0)):=(g4.block _ (by omega) (fun e=>by have:=hge _ e.symm;omega)).trans hR3;have hB4:=(g4.block w.heap.size (by omega) (fun e=>by have:=hge _ e.symm;omega)).trans hB3;have hsz4:=g4.size;clear hR3 hB3 O3 f5 f5' hw3 g4;obtain⟨a4,x4,rfl,-⟩:=id O4.rd;obtain⟨hc4,hS5,O5,K5,c4,fr4⟩:=Pk O4 K4 hR4;have hB5:=(heap_setCell_other w4 ⟨w.heap.size+1,0,none⟩ w.heap.size (.slice a4 b.sn.length x4) (by show w.heap.size≠w.heap.size+1;omega)).trans hB4;have hsz5:w4.heap.size=(w4.setCell ⟨w.heap.size+1,0,none⟩ (.slice a4 b.sn.length x4)).heap.size:=by simp
  go_upto_region 4 with fail
  generalize w4.setCell ⟨w.heap.size+1,0,none⟩ (.slice a4 b.sn.length x4)=w5 at *;have f1:w5.cell? ⟨w.heap.size,1,none⟩=some (.slice aP b.AM.length cP):=by rw[cell_of_row w5 _ 1 _ _ _ hB5];rfl
  clear c4 fr4 O4 hR4 hB4;go_wp2_with (at_builtin;refine Az rfl _ _ rfl (w.heap.size+2) _ b.sn rfl O5 _ rfl b.AM (HP.out.keep K5) z1 z2 (by omega) ?_)
  intro v6 w6 O6 g6 _;have K6:AC w w6:=K5.grown g6 (fun k hk=>by have:=O5.ge k hk;omega);have hR6:w6.heap[w.heap.size+1]? = some (.cells #[.slice a4 b.sn.length x4] 25 (0,0)):=(g6.block _ (by omega) (fun e=>by have:=O5.ge _ e.symm;omega)).trans hS5;clear hS5 hB5 O5 f1 g6 hc4;generalize b.sn++b.AM=out at O6 HE;obtain⟨a6,x6,rfl,-⟩:=id O6.rd;obtain⟨hc,-,O7,K7,c6,fr6⟩:=Pk O6 K6 hR6;clear hR6 O6;go_wp2;refine leaves_cons (f:=108) (args:=#[.pointer (some ⟨w.heap.size+1,0,none⟩)]) (by simp) (by simp[go_sem]) ?_;refine (Y9 _ _).mono ?_;rintro e u' w9 ⟨rfl,rfl,rfl⟩;simp[Leaves,settle,results,Tryz.results79,go_sem,hc];exact⟨by rw[HE.out];exact O7.BK (by omega),K7⟩
noncomputable def PC (w:World) (g:Nat) (k x:Value):World:=match (Instr.mapUpdate 130 (.map (some g)) k x).run Tryz.prog w with | .ok _ w'=>w'|_=>w
theorem Jb {w:World}{g:Nat}{b:Bd}(hk:∃kl,keyOf Tryz.prog 127 (GV b)=some kl)(bv:BV)(hW:Wv w g #[] []):(Instr.mapUpdate 130 (.map (some g)) (GV b) bv.agg).run Tryz.prog w = .ok () (PC w g (GV b) bv.agg)/\(∃es',Wv (PC w g (GV b) bv.agg) g es' [(bv,b)])/\w.grownBy (PC w g (GV b) bv.agg) (some g):=by
 obtain⟨w',es',hrun,h1,h2⟩:=hW.put (by decide) hk bv;have e:PC w g (GV b) bv.agg=w':=by unfold PC;rw[hrun]
 rw[e];exact⟨hrun,⟨es',h1⟩,h2⟩
theorem VM {w w':World}{r:Option Nat}(h:w.grownBy w' r){g j:Nat}(hg:g<w.heap.size)(hr:r≠some g):w'.cell? ⟨g,j,none⟩=w.cell? ⟨g,j,none⟩:=World.cell?_of_block (a:=⟨g,j,none⟩) (h.block g hg (fun e=>hr e.symm))
theorem aK {w w1 w2 w3 Wi:World}{ds:List (List Dd)}{b:Bd}{bv:BV}{q q':Nat}(K1:AC w w1)(hE:w1.heap[w.heap.size]? = some (.cells #[] 25 (0,0)))(s1:w1.heap.size=w.heap.size+1)(k2:AC w1 w2)(F:DB w2 w1.heap.size w2.heap.size bv ds b)(k3:AC w2 w3)(hk:∃kl,keyOf Tryz.prog 127 (GV b)=some kl)
  (I:Wv Wi q #[] []) (I':Wv Wi q' #[] []) (K:AC w3 Wi) (hq:w3.heap.size<=q) (hq':w3.heap.size<=q') (hne:q≠q'):∃es,LY w (PC Wi q (GV b) bv.agg) ds (fun g=>w1.heap.size<=g/\g<w2.heap.size) (.slice (some ⟨w.heap.size,0,none⟩) 0 0) [] [] q q' es [(bv,b)]:=by
 obtain⟨-,⟨es,h1⟩,h2⟩:=Jb hk bv I;exact⟨es,LY.new K1 hE s1 k2 F k3 (K.grown h2 (fun g e=>by have:=Option.some.inj e;omega)) h1 (I'.kept h2 (fun e=>hne (Option.some.inj e))) hne hq hq'⟩
theorem aO {w w1 w2 w3 Wi:World}{ds:List (List Dd)}{b:Bd}{bv:BV}{q:Nat}(K1:AC w w1)(hE:w1.heap[w.heap.size]? = some (.cells #[] 25 (0,0)))(s1:w1.heap.size=w.heap.size+1)(k2:AC w1 w2)(F:DB w2 w1.heap.size w2.heap.size bv ds b)(k3:AC w2 w3)(hk:∃kl,keyOf Tryz.prog 127 (GV b)=some kl)
  (I:Wv Wi q #[] []) (K:AC w3 Wi) (hq:w3.heap.size<=q):∃es,LY w (YX (PC Wi q (GV b) bv.agg)) ds (fun g=>w1.heap.size<=g/\g<w2.heap.size) (.slice (some ⟨w.heap.size,0,none⟩) 0 0) [] [] q (WN (PC Wi q (GV b) bv.agg)) es [(bv,b)]:=by
 obtain⟨-,⟨es,h1⟩,h2⟩:=Jb hk bv I;have hl:=h1.lt;have z:=h2.size;have zk:=K.size;exact⟨es,LY.new K1 hE s1 k2 F k3 ((K.grown h2 (fun g e=>by have:=Option.some.inj e;omega)).trans (AW _)) (h1.keep (AW _)) (Wv.mk' _) (by unfold WN;omega) hq (by unfold WN;omega)⟩
structure Ud (S:Sy)(l:List (List Int)):Prop where
 ord:NK l
 all:∀e,e∈l↔∃b,S.R b/\S.en b=true/\e=Ak b
theorem dU (vs:List BV)(bs:List Bd):(UI vs bs bs.length).map (·.2)=bs:=by
 unfold UI;rw[List.map_map];apply List.ext_getElem (by simp);intro i h1 h2;rw[List.getElem_map,List.getElem_range];show bs.getD i Mj=_;rw[List.getD_eq_getElem?_getD,List.getElem?_eq_getElem h2];rfl
theorem Rj.ends {ds:List (List Dd)}{S:Sy}(C:qg ds S){n:Int}{dn lx:List Bd}{E:List (List Int)}(D:EX S n dn lx E):E.length<=78125/\∀i,i<E.length->(E.getD i []).length<=15:=by
 refine⟨C.fe E D.nd (fun z hz=>by obtain⟨b,q1,q2,q3,_⟩:=D.e1 z hz;exact⟨b,q1,q2,q3⟩),fun i hi=>?_⟩;have hm:E.getD i []∈E:=by rw[List.getD_eq_getElem?_getD,List.getElem?_eq_getElem hi];exact List.getElem_mem hi
 obtain⟨b,q1,q2,q3,_⟩:=D.e1 _ hm;rw[q3];exact C.sl q1 q2
theorem M9 {E E':List (List Int)}(hp:E'.Perm E)(hn:E.Nodup)(hs:∀i j,i<j->j<E'.length->Bm (E'.getD j []) (E'.getD i [])=false):NK E':=by
 have hn':E'.Nodup:=hp.nodup_iff.2 hn;unfold NK;rw[List.pairwise_iff_getElem];intro i j hi hj hij;have q:=hs i j hij hj;have ei:E'.getD i []=E'[i]:=by rw[List.getD_eq_getElem?_getD,List.getElem?_eq_getElem hi];rfl
 have ej:E'.getD j []=E'[j]:=by rw[List.getD_eq_getElem?_getD,List.getElem?_eq_getElem hj];rfl
 rw[ei,ej] at q;rcases GD E'[i] E'[j] with e|e|e
 . have:=(List.getElem_inj hn').1 e;omega
 . exact e
 . rw[e] at q;cases q
theorem Lo (w:World)(v:Value)(AA:List (List Dd))(h:Fo w v AA)(hx:AA.length<=1048576)(hm:∀i,i<AA.length->(AA.getD i []).length<=1048576){S:Sy}(ok:Jw S)(Z:QD (Ky AA) S)(C:qg (Ky AA) S)(hb0:S.b0=M4 AA)(g:Nat)(hg:g=46)(CA:WT g (Ky AA) S):
  Calls Tryz.prog 45 #[v,.func (Fn.func g) #[] #[]] w fun e w'=>∃v' hs l,e = .returned v'/\B0 25 BU w' w.heap.size v' hs l/\Ud S l/\AC w w':=by
 have XO:=Lib.hid ok;have XZ:=Lib.hid Z;have XC:=Lib.hid C;have XA:=Lib.hid CA;have XG:=Lib.hid hg;have XB:=Lib.hid hb0;have CN:=fun (W:World) (kW:AC w W)=>J7 W v AA (h.keep kW) hx hm
 obtain⟨aD,cD,rfl,-⟩:=id h;obtain⟨w1,hw1⟩:∃W:World,W=w.alloc (.cells #[] 25):=⟨_,rfl⟩;have K1:AC w w1:=by rw[hw1];exact (AC.refl w).alloc _
 have s1:w1.heap.size=w.heap.size+1:=by rw[hw1,AD]
 have hE1:w1.heap[w.heap.size]? = some (.cells #[] 25 (0,0)):=by rw[hw1];exact heap_alloc_new _ _
 clear h hm ok Z C hb0 CA hg;go_enter Tryz.func45,Tryz.ntmps45
 go_upto_region 2 with fail
 rw[<-hw1];clear hw1;go_wp2_with fail
 refine (CN _ K1).mono ?_;rintro e w2 ⟨bv,rfl,F2,k2⟩;obtain⟨ds,hds⟩:∃ds,ds=Ky AA:=⟨_,rfl⟩;obtain⟨b0,hb0⟩:∃b0,b0=M4 AA:=⟨_,rfl⟩;rw[<-hds] at XZ XC XA F2;rw[<-hb0] at XB F2;clear hds hb0 CN;obtain⟨uW,uP,uL,uN,uX,uS,uF,uR,Ua,UX,UV,UW,Ub,UZ,UU,UY,rfl⟩:=F2.rd.shapes;obtain⟨w3,hw3⟩:∃W:World,W=w2.alloc (.cells #[.slice uW ds.length Ua,.slice uP b0.AM.length UX,.slice uL b0.AO.length UV,.slice uN b0.AJ.length UW,.slice uX b0.AK.length Ub,.slice uS b0.sn.length UZ,.slice uF b0.fr.length UU,.slice uR b0.rws.length UY] 103):=⟨_,rfl⟩;have k3:AC w2 w3:=by rw[hw3];exact (AC.refl w2).alloc _
 have hD3:w3.heap[w2.heap.size]? = some (.cells #[.slice uW ds.length Ua,.slice uP b0.AM.length UX,.slice uL b0.AO.length UV,.slice uN b0.AJ.length UW,.slice uX b0.AK.length Ub,.slice uS b0.sn.length UZ,.slice uF b0.fr.length UU,.slice uR b0.rws.length UY] 103 (0,0)):=by rw[hw3];exact heap_alloc_new _ _
 have s3:w3.heap.size=w2.heap.size+1:=by rw[hw3,AD]
 have hR0:S.R b0:=by have:=XO.out.new.1;rw[XB.out] at this;exact this
 have key0:=YR (XZ.out.one hR0);have st0:=(XZ.out.one hR0).st;go_upto_region 3 with fail
 rw[<-hw3];clear hw3;have sO:=Lib.hid K1;have tJ:=Lib.hid k2;have kU:=Lib.hid k3;have XE:=Lib.hid hE1;have XF:=Lib.hid F2;have XR:=Lib.hid hR0;have XD:=Lib.hid hD3;have mkr:∀(t:TypeId) (w:World),(Instr.makeMap t none).run Tryz.prog w = .ok (.map (some (WN w))) (YX w):=jU;have kd:AC w3 w3.drew:=(AC.refl w3).drew;have c0:(w3.drew).cell? ⟨w2.heap.size,0,none⟩=some (.slice uW ds.length Ua):=by rw[show (w3.drew).cell? ⟨w2.heap.size,0,none⟩=w3.cell? ⟨w2.heap.size,0,none⟩ from rfl,cell_of_row _ _ 0 _ _ _ hD3];rfl
 have c1:(w3.drew).cell? ⟨w2.heap.size,1,none⟩=some (.slice uP b0.AM.length UX):=by rw[show (w3.drew).cell? ⟨w2.heap.size,1,none⟩=w3.cell? ⟨w2.heap.size,1,none⟩ from rfl,cell_of_row _ _ 1 _ _ _ hD3];rfl
 have c2:(w3.drew).cell? ⟨w2.heap.size,2,none⟩=some (.slice uL b0.AO.length UV):=by rw[show (w3.drew).cell? ⟨w2.heap.size,2,none⟩=w3.cell? ⟨w2.heap.size,2,none⟩ from rfl,cell_of_row _ _ 2 _ _ _ hD3];rfl
 have c3:(w3.drew).cell? ⟨w2.heap.size,3,none⟩=some (.slice uN b0.AJ.length UW):=by rw[show (w3.drew).cell? ⟨w2.heap.size,3,none⟩=w3.cell? ⟨w2.heap.size,3,none⟩ from rfl,cell_of_row _ _ 3 _ _ _ hD3];rfl
 have c4:(w3.drew).cell? ⟨w2.heap.size,4,none⟩=some (.slice uX b0.AK.length Ub):=by rw[show (w3.drew).cell? ⟨w2.heap.size,4,none⟩=w3.cell? ⟨w2.heap.size,4,none⟩ from rfl,cell_of_row _ _ 4 _ _ _ hD3];rfl
 have c5:(w3.drew).cell? ⟨w2.heap.size,5,none⟩=some (.slice uS b0.sn.length UZ):=by rw[show (w3.drew).cell? ⟨w2.heap.size,5,none⟩=w3.cell? ⟨w2.heap.size,5,none⟩ from rfl,cell_of_row _ _ 5 _ _ _ hD3];rfl
 have c6:(w3.drew).cell? ⟨w2.heap.size,6,none⟩=some (.slice uF b0.fr.length UU):=by rw[show (w3.drew).cell? ⟨w2.heap.size,6,none⟩=w3.cell? ⟨w2.heap.size,6,none⟩ from rfl,cell_of_row _ _ 6 _ _ _ hD3];rfl
 have c7:(w3.drew).cell? ⟨w2.heap.size,7,none⟩=some (.slice uR b0.rws.length UY):=by rw[show (w3.drew).cell? ⟨w2.heap.size,7,none⟩=w3.cell? ⟨w2.heap.size,7,none⟩ from rfl,cell_of_row _ _ 7 _ _ _ hD3];rfl
 have c8:w2.heap.size<(w3.drew).heap.size:=by show w2.heap.size<w3.heap.size;omega
 have Qn:∀(W:World) (q:Nat),Wv W q #[] []->(Instr.mapUpdate 130 (.map (some q)) (GV b0) (.agg #[.slice uW ds.length Ua,.slice uP b0.AM.length UX,.slice uL b0.AO.length UV,.slice uN b0.AJ.length UW,.slice uX b0.AK.length Ub,.slice uS b0.sn.length UZ,.slice uF b0.fr.length UU,.slice uR b0.rws.length UY])).run Tryz.prog W = .ok () (PC W q (GV b0) (.agg #[.slice uW ds.length Ua,.slice uP b0.AM.length UX,.slice uL b0.AO.length UV,.slice uN b0.AJ.length UW,.slice uX b0.AK.length Ub,.slice uS b0.sn.length UZ,.slice uF b0.fr.length UU,.slice uR b0.rws.length UY])):=fun W q hW=>(Jb key0 ⟨.slice uW ds.length Ua,.slice uP b0.AM.length UX,.slice uL b0.AO.length UV,.slice uN b0.AJ.length UW,.slice uX b0.AK.length Ub,.slice uS b0.sn.length UZ,.slice uF b0.fr.length UU,.slice uR b0.rws.length UY⟩ hW).1
 have wv0:∀W:World,Wv (YX W) (WN W) #[] []:=Wv.mk';have wv1:∀(W:World) (q:Nat),Wv W q #[] []->Wv (YX W) q #[] []:=fun W q h=>h.keep (AW W)
 clear K1 k2 k3 hE1 F2 hR0 hD3;go_cut [8,9] from 12 (fun s8 s9 wx=>∃bn bx es,s8 = .map (some bn)/\s9 = .map (some bx)/\LY w wx ds (fun g=>w1.heap.size<=g/\g<w2.heap.size) (.slice (some ⟨w.heap.size,0,none⟩) 0 0) [] [] bn bx es [(⟨.slice uW ds.length Ua,.slice uP b0.AM.length UX,.slice uL b0.AO.length UV,.slice uN b0.AJ.length UW,.slice uX b0.AK.length Ub,.slice uS b0.sn.length UZ,.slice uF b0.fr.length UU,.slice uR b0.rws.length UY⟩,b0)])
 case first=>
  go_wp2_with fail
  go_region_held3 (fun w'=>w'.cell? ⟨w2.heap.size,0,none⟩=some (.slice uW ds.length Ua)/\w'.cell? ⟨w2.heap.size,1,none⟩=some (.slice uP b0.AM.length UX)/\w'.cell? ⟨w2.heap.size,2,none⟩=some (.slice uL b0.AO.length UV)/\w'.cell? ⟨w2.heap.size,3,none⟩=some (.slice uN b0.AJ.length UW)/\w'.cell? ⟨w2.heap.size,4,none⟩=some (.slice uX b0.AK.length Ub)/\w'.cell? ⟨w2.heap.size,5,none⟩=some (.slice uS b0.sn.length UZ)/\w'.cell? ⟨w2.heap.size,6,none⟩=some (.slice uF b0.fr.length UU)/\w'.cell? ⟨w2.heap.size,7,none⟩=some (.slice uR b0.rws.length UY)/\w2.heap.size<w'.heap.size)
   (first|(go_split_ands;first|(refine⟨?_,?_,?_,?_,?_,?_,?_,?_,?_⟩<;>(go_keep;done))|(refine⟨?_,?_,?_,?_,?_,?_,?_,?_,?_⟩<;>first|(rw[(AW _).cell (by assumption)];assumption)|(rw[Cx];omega))|(refine⟨?_,?_,?_,?_,?_,?_,?_,?_,?_⟩<;>first|(rw[kk.cell (by assumption)];assumption)|(exact Nat.lt_of_lt_of_le (by assumption) kk.size))|(refine⟨?_,?_,?_,?_,?_,?_,?_,?_,?_⟩<;>first|(rw[VM (Jb key0 ⟨.slice uW ds.length Ua,.slice uP b0.AM.length UX,.slice uL b0.AO.length UV,.slice uN b0.AJ.length UW,.slice uX b0.AK.length Ub,.slice uS b0.sn.length UZ,.slice uF b0.fr.length UU,.slice uR b0.rws.length UY⟩ (by first|exact Wv.mk' _|exact (Wv.mk' _).keep (AW _)|exact (Wv.mk' _).keep kk|exact ((Wv.mk' _).keep kk).keep (AW _)|exact ((Wv.mk' _).keep (AW _)).keep kk)).2.2 (by assumption) (by simp only[ne_eq,Option.some.injEq,WN,Cx];omega)];assumption)|(exact Nat.lt_of_lt_of_le (by assumption) (Jb key0 ⟨.slice uW ds.length Ua,.slice uP b0.AM.length UX,.slice uL b0.AO.length UV,.slice uN b0.AJ.length UW,.slice uX b0.AK.length Ub,.slice uS b0.sn.length UZ,.slice uF b0.fr.length UU,.slice uR b0.rws.length UY⟩ (by first|exact Wv.mk' _|exact (Wv.mk' _).keep (AW _)|exact (Wv.mk' _).keep kk|exact ((Wv.mk' _).keep kk).keep (AW _)|exact ((Wv.mk' _).keep (AW _)).keep kk)).2.2.size)))|(go_keep;done))
   ((first|(go_at_call 77;refine (Kn _ ⟨.slice uW ds.length Ua,.slice uP b0.AM.length UX,.slice uL b0.AO.length UV,.slice uN b0.AJ.length UW,.slice uX b0.AK.length Ub,.slice uS b0.sn.length UZ,.slice uF b0.fr.length UU,.slice uR b0.rws.length UY⟩ ds b0 (by first|exact XF.out.rd.keep (kU.out.trans kd)|exact (XF.out.rd.keep (kU.out.trans kd)).keep (AW _)|exact ((XF.out.rd.keep (kU.out.trans kd)).keep (AW _)).keep (AW _)) st0).mono ?_;rintro e wz ⟨rfl,kk⟩;have wv2:=(fun (q:Nat) (h:Wv _ q #[] [])=>Wv.keep h kk);(try have a1:=Qn _ _ (wv2 _ (wv0 w3.drew)));(try have a2:=Qn _ _ (wv1 _ _ (wv2 _ (wv0 w3.drew))));(try have b1:=Qn _ _ (wv2 _ (wv1 _ _ (wv0 w3.drew))));(try have b2:=Qn _ _ (wv2 _ (wv0 (YX w3.drew))));have hz8:w2.heap.size<wz.heap.size:=(by have q:=kk.size;(try simp only[Cx] at q);omega);have d1:=Qn _ _ (wv0 wz);have d2:=Qn _ _ (wv1 _ _ (wv0 wz));have d3:=Qn _ _ (wv0 (YX wz)))|fail))
  all_goals
   go_wp2;go_meet;refine Exists.elim (α:=Array MapEntry) (by first|exact aK (bv:=⟨.slice uW ds.length Ua,.slice uP b0.AM.length UX,.slice uL b0.AO.length UV,.slice uN b0.AJ.length UW,.slice uX b0.AK.length Ub,.slice uS b0.sn.length UZ,.slice uF b0.fr.length UU,.slice uR b0.rws.length UY⟩) sO.out XE.out s1 tJ.out XF.out kU.out key0 (by first|exact Wv.mk' _|exact (Wv.mk' _).keep (AW _)|exact (Wv.mk' _).keep kk|exact ((Wv.mk' _).keep kk).keep (AW _)|exact ((Wv.mk' _).keep (AW _)).keep kk) (by first|exact Wv.mk' _|exact (Wv.mk' _).keep (AW _)|exact (Wv.mk' _).keep kk|exact ((Wv.mk' _).keep kk).keep (AW _)|exact ((Wv.mk' _).keep (AW _)).keep kk) (by first|exact kd.trans kk|exact (kd.trans kk).trans (AW _)|exact ((kd.trans kk).trans (AW _)).trans (AW _)|exact kd.trans ((AW _).trans kk)|exact (kd.trans ((AW _).trans kk)).trans (AW _)|exact ((kd.trans ((AW _).trans kk)).trans (AW _)).trans (AW _)|exact kd.trans ((AW _).trans ((AW _).trans kk))|exact (kd.trans ((AW _).trans ((AW _).trans kk))).trans (AW _)|exact ((kd.trans ((AW _).trans ((AW _).trans kk))).trans (AW _)).trans (AW _)) (by have q:=kk.size;(try simp only[Cx] at q);(try simp only[Au] at q);(try simp only[WN]);(try simp only[Cx]);(try simp only[Au]);omega) (by have q:=kk.size;(try simp only[Cx] at q);(try simp only[Au] at q);(try simp only[WN]);(try simp only[Cx]);(try simp only[Au]);omega) (by have q:=kk.size;(try simp only[Cx] at q);(try simp only[Au] at q);(try simp only[WN]);(try simp only[Cx]);(try simp only[Au]);omega)|exact aO (bv:=⟨.slice uW ds.length Ua,.slice uP b0.AM.length UX,.slice uL b0.AO.length UV,.slice uN b0.AJ.length UW,.slice uX b0.AK.length Ub,.slice uS b0.sn.length UZ,.slice uF b0.fr.length UU,.slice uR b0.rws.length UY⟩) sO.out XE.out s1 tJ.out XF.out kU.out key0 (by first|exact Wv.mk' _|exact (Wv.mk' _).keep (AW _)|exact (Wv.mk' _).keep kk|exact ((Wv.mk' _).keep kk).keep (AW _)|exact ((Wv.mk' _).keep (AW _)).keep kk) (by first|exact kd.trans kk|exact (kd.trans kk).trans (AW _)|exact ((kd.trans kk).trans (AW _)).trans (AW _)|exact kd.trans ((AW _).trans kk)|exact (kd.trans ((AW _).trans kk)).trans (AW _)|exact ((kd.trans ((AW _).trans kk)).trans (AW _)).trans (AW _)|exact kd.trans ((AW _).trans ((AW _).trans kk))|exact (kd.trans ((AW _).trans ((AW _).trans kk))).trans (AW _)|exact ((kd.trans ((AW _).trans ((AW _).trans kk))).trans (AW _)).trans (AW _)) (by have q:=kk.size;(try simp only[Cx] at q);(try simp only[Au] at q);(try simp only[WN]);(try simp only[Cx]);(try simp only[Au]);omega)) (fun es hO=>⟨_,_,es,rfl,rfl,hO⟩)
 obtain⟨bn,bx,es,rfl,rfl,O1⟩:=hcut
 have G1:FT S 0 (([(⟨.slice uW ds.length Ua,.slice uP b0.AM.length UX,.slice uL b0.AO.length UV,.slice uN b0.AJ.length UW,.slice uX b0.AK.length Ub,.slice uS b0.sn.length UZ,.slice uF b0.fr.length UU,.slice uR b0.rws.length UY⟩,b0)]:List (BV×Bd)).map (·.2)):=by
  have q:=VG XO.out;rw[XB.out] at q;exact q
 have D1:=U7 XO.out;obtain⟨i0,hi,hz0,hz1,hz2⟩:=info_parts Tryz.PA;clear sO tJ kU XE XF XR XD mkr Qn wv0 wv1 c0 c1 c2 c3 c4 c5 c6 c7 c8 kd key0 st0;go_wp2;go_loopg [5,8,9,11] 26 (fun k s5 s8 s9 _ wr=>∃(n:Nat) (P:Nat->Prop) (ve:Value) (hs:List Value) (E:List (List Int)) (bn bx:Nat) (es:Array MapEntry) (l:List (BV×Bd)),ve=s5/\s8 = .map (some bn)/\s9 = .map (some bx)/\26-n=k/\n<=25/\LY w wr ds P ve hs E bn bx es l/\FT S (n:Int) (l.map (·.2))/\EX S (n:Int) [] [] E)
 case atStart=>exact⟨0,_,_,_,_,bn,bx,es,_,rfl,rfl,rfl,rfl,by omega,O1,G1,D1⟩
 case round=>
  clear O1 G1 D1;obtain⟨n,P,ve,hs,E,bn,bx,es,l,rfl,rfl,rfl,hk,hn,O,G,D⟩:=hrel;have hlen:=O.wn.len;have XK:=Lib.hid hk;obtain⟨hE1,hE2⟩:=Rj.ends XC.out D;clear hk;by_cases hz:es.size=0
  ·
   have hl:l=[]:=by
    cases l with
    |nil=>rfl
    |cons p l=>
     obtain⟨x,hx,_⟩:=O.wn.qp p (by simp);have:es=#[]:=Array.eq_empty_of_size_eq_zero hz;rw[this] at hx;simp at hx
   subst hl;have hz':¬(0:Int)<(es.size:Int):=by omega
   have CS:=Pm wr _ ve hs E O.en O.nz (by omega) (fun i hi=>by have:=hE2 i hi;omega);have XF:=Lib.hid (D.Wm XO.out (by omega) G);have XN:=Lib.hid D.nd;have sV:=Lib.hid O.K;have XB:=Lib.hid (fun q (hq:ve.ownBlock=some q)=>(O.en.Af.lt (i:=none) trivial q hq).1);clear O G D hE1 hE2;go_wp2_with fail
   refine CS.mono ?_;rintro e wf ⟨rfl,hs',E',O',hp,hso,hg⟩;have XE:=Lib.hid (show Ud S E' from ⟨M9 hp XN.out hso,fun e=>by rw[hp.mem_iff];exact XF.out e⟩);have za:=Lib.hid O';have zV:=Lib.hid hg;clear CS hp hso O' hg hlen;go_wp2;go_ret;exact⟨_,hs',E',rfl,za.out,XE.out,sV.out.grown zV.out (fun q hq=>XB.out q hq)⟩
  ·
   have hz':(0:Int)<(es.size:Int):=by omega
   have hzd:decide (0<es.size)=true:=decide_eq_true (by omega);have hzn:0<es.size:=by omega
   have hn24:n<=24:=by
    have hl:l≠[]:=fun e=>by
     subst e
     have:es.toList=[]:=by
      cases h:es.toList with
      |nil=>rfl
      |cons x r=>
       obtain⟨p,hp,_⟩:=O.wn.jD x (by rw[h];simp);cases hp
     apply hz;rw[<-Array.length_toList,this];rfl
    have:=G.top XO.out (by simpa using hl);omega
   obtain⟨c,hb,I0⟩:=O.range;have hrg:=run_range_map (P:=Tryz.prog) wr 130 127 103 bn es c Tryz.underlying130 hb;obtain⟨r,hr⟩:∃r,r=wr.heap.size:=⟨_,rfl⟩;obtain⟨wa,WL⟩:∃W:World,W=wr.alloc (.mapIter (some bn) c #[] c):=⟨_,rfl⟩;rw[<-hr,<-WL] at hrg I0;have J0:=Rj.new (es:=es) (by omega) G D;have XHZ:=Lib.hid hz;clear O G D hE1 hE2 hb hr WL hz;obtain⟨wo,rfl⟩:∃wo:World,wo=wr:=⟨_,rfl⟩;go_wp2;clear hrg hlen hz';go_loopg [5,11] (leftOf es #[]).size (fun k s5 _ wq=>∃(P:Nat->Prop) (ve:Value) (hs:List Value) (E:List (List Int)) (Ml:Array MapEntry) (lx:List (BV×Bd)) (seen:Array Nat) (dn:List Bd),ve=s5/\(leftOf es seen).size=k/\KT w wq ds P ve hs E bn bx r es l Ml lx seen/\Rj S (n:Int) es l seen dn lx E)
   case atStart=>exact⟨_,_,_,_,_,_,_,_,rfl,rfl,I0,J0⟩
   case round=>
    clear I0 J0;obtain⟨P,ve,hs,E,Ml,lx,seen,dn,rfl,hk,I,J⟩:=hrel;have XJ:=Lib.hid J;have zZ:=Lib.hid hk;clear J hk;rcases I.next with ⟨h0,hnx⟩|⟨x,p,w5,hxe,hxs,hpl,hxk,hlt,hnx,hen,I5⟩
    ·
     obtain⟨w6,hcl,O6⟩:=I.clear;have XN:=Lib.hid (XJ.out.end XO.out XZ.out I.wn h0)
     have XM:Hid (FT S ((n+1:Nat):Int) (lx.map (·.2))/\EX S ((n+1:Nat):Int) [] [] E):=Lib.hid (by
      have q:=XN.out
      rwa [show ((n:Int)+1)=((n+1:Nat):Int) by omega] at q)
     have zb:=Lib.hid O6;clear I h0 O6 XN;go_wp2;go_roundg (26-(n+1))
     case measure=>rw[<-XK.out];omega
     case rel=>exact⟨n+1,P,ve,hs,E,bx,bn,Ml,lx,rfl,rfl,rfl,rfl,by omega,zb.out,XM.out.1,XM.out.2⟩
    ·
     obtain⟨hR,htm⟩:=XJ.out.one hpl;have hH:=I5.held p hpl;have XP:=Lib.hid (And.intro hxe (And.intro hxs (And.intro hpl (And.intro hxk hlt))));have sM:=Lib.hid I5;have xD:=Lib.hid (And.intro I.wn.pw I.wn.nd);obtain⟨bp,bd⟩:=p;simp only at hR htm hH hnx hen hxk XP;obtain⟨bW,bP,bL,bN,bX,bS,bF,bR,dW,dP,dL,dN,dX,dS,dF,dR,rfl⟩:=hH.rd.shapes;have XH:=Lib.hid hH;have Zs:=Lib.hid hR;clear hH hR I I5 hxe hxs hpl hxk hlt;obtain⟨w6,hw6⟩:∃W:World,W=w5.alloc (.cells #[.slice bW ds.length dW,.slice bP bd.AM.length dP,.slice bL bd.AO.length dL,.slice bN bd.AJ.length dN,.slice bX bd.AK.length dX,.slice bS bd.sn.length dS,.slice bF bd.fr.length dF,.slice bR bd.rws.length dR] 103):=⟨_,rfl⟩;have k6:AC w5 w6:=by rw[hw6];exact (AC.refl w5).alloc _
     have d6:w6.heap[w5.heap.size]? = some (.cells #[.slice bW ds.length dW,.slice bP bd.AM.length dP,.slice bL bd.AO.length dL,.slice bN bd.AJ.length dN,.slice bX bd.AK.length dX,.slice bS bd.sn.length dS,.slice bF bd.fr.length dF,.slice bR bd.rws.length dR] 103 (0,0)):=by rw[hw6];exact heap_alloc_new _ _
     have s6:w5.heap.size<w6.heap.size:=by rw[hw6,AD];omega
     obtain⟨D,hDe⟩:∃D,D=w5.heap.size:=⟨_,rfl⟩;have XQ:Hid (∀q,ve.ownBlock=some q->q≠D):=Lib.hid (fun q hq e=>by have:=(sM.out.en.Af.lt (i:=none) trivial q hq).2;omega);have xA:=Lib.hid (sM.out.keep k6);have sJ:=Lib.hid (XH.out.on (Aw.Bq k6));go_upto_region 8 with fail
     rw[<-hw6,<-hDe];rw[<-hDe] at d6 s6;clear hw6 hDe k6 hnx hen sM XH;have CE:=Mv w6 _ ds bd sJ.out.rd (XC.out.sz Zs.out);rw[XC.out.en Zs.out] at CE;obtain⟨tt,uw⟩:∃tt,tt=S.en bd:=⟨_,rfl⟩;rw[<-uw] at CE;have XT:=Lib.hid uw;clear uw;go_wp2_with (first|refine wpList_load_row rfl 103 _ rfl D rfl 103 _ (0,0) _ d6 Tryz.underlying103 rfl AQ ?_|fail)
     refine CE.mono ?_;rintro e w7 ⟨rfl,k7⟩;have ZU:=Lib.hid (xA.out.keep k7);have qi:=Lib.hid (sJ.out.on (Aw.Bq k7));have d7:=(Below.block k7 D s6).trans d6;have s7:=Nat.lt_of_lt_of_le s6 k7.size;clear CE d6 s6 xA sJ k7;go_upto_if 34 with fail
     go_cut [5] from 35 to 44 (fun s5 wx=>∃(v':Value) (hs':List Value),v'=s5/\KT w wx ds P v' hs' (if S.en bd=true then E++[Ak bd] else E) bn bx r es l Ml lx (seen.push x.born)/\Cs wx P ⟨.slice bW ds.length dW,.slice bP bd.AM.length dP,.slice bL bd.AO.length dL,.slice bN bd.AJ.length dN,.slice bX bd.AK.length dX,.slice bS bd.sn.length dS,.slice bF bd.fr.length dF,.slice bR bd.rws.length dR⟩ ds bd/\wx.heap[D]? = some (.cells #[.slice bW ds.length dW,.slice bP bd.AM.length dP,.slice bL bd.AO.length dL,.slice bN bd.AJ.length dN,.slice bX bd.AK.length dX,.slice bS bd.sn.length dS,.slice bF bd.fr.length dF,.slice bR bd.rws.length dR] 103 (0,0)))
     case first=>
      cases tt with
      |true=>
       have CS:=Im w7 _ ds bd qi.out.rd (XC.out.sz Zs.out);rw[XC.out.sh Zs.out XT.out.symm] at CS;have zU:Hid (S.en bd=true):=Lib.hid XT.out.symm;clear XT;go_wp2_with (first|refine wpList_load_row rfl 103 _ rfl D rfl 103 _ (0,0) _ d7 Tryz.underlying103 rfl AQ ?_|fail)
       refine CS.mono ?_;rintro e w8 ⟨u,rfl,OU,k8⟩;obtain⟨au,cu,rfl,-⟩:=OU.rd;have k9:AC w8 (w8.alloc (.cells #[.slice au (Ak bd).length cu] 25)):=(AC.refl w8).alloc _;have hN:=heap_alloc_new w8 (.cells #[.slice au (Ak bd).length cu] 25);obtain⟨w9,hw9⟩:∃W:World,W=w8.alloc (.cells #[.slice au (Ak bd).length cu] 25):=⟨_,rfl⟩;rw[<-hw9] at hN k9;have k79:=k8.trans k9;have hrow:w9.ownsRow w.heap.size 25 1 ve hs.length hs:=World.ownsRow.kept (ZU.out.en.Af.own none trivial) k79.grownBy (Classical.em (ve.ownBlock=none));have hlen:hs.length<=78125:=by rw[ZU.out.en.len];exact (Rj.ends XC.out XJ.out.done).1
       have hbs:w.heap.size<=w9.heap.size:=Nat.le_trans ZU.out.K.size k79.size;have s9:w9.heap.size=w8.heap.size+1:=by rw[hw9,AD]
       clear CS;go_wp2_with ((at_builtin;rw[<-hw9];refine wpList_append_own_at _ rfl _ _ 36 rfl w.heap.size 25 i0 (.slice none 0 0) 1 24 Tryz.underlying36 hi hz0 hz1 hz2 rfl (by decide) _ _ _ rfl hrow ⟨w8.heap.size,0,none⟩ 1 1 [.slice au (Ak bd).length cu] rfl rfl (World.news_of_block (cs:=#[.slice au (Ak bd).length cu]) (t:=25) (fr:=(0,0)) hN) (by simp[Value.oneCell']) ?e3 ?e4 ?e5 ?_))
       case e3=>unfold maxLen;omega
       case e4=>omega
       case e5=>exact hbs
       intro v10 w10 hown10 hgrow10 hnil hblk10;rw[<-hw9] at hgrow10;have XW:=Lib.hid (And.intro hown10 (And.intro hgrow10 (And.intro hnil hblk10)));have Ug:=Lib.hid (And.intro k79 (And.intro OU k9));clear hown10 hgrow10 hnil hblk10 hrow hN hw9 k79 k8 k9 OU;go_wp2;go_meet;refine⟨_,hs++[.slice au (Ak bd).length cu],rfl,?_,?_,?_⟩
       ·
        rw[if_pos zU.out];exact ZU.out.push Ug.out.1 (Ug.out.2.1.keep Ug.out.2.2) XW.out.2.1 (by rw[s9];exact XW.out.2.2.2) XW.out.1 (fun e=>XW.out.2.2.1 e)
       . exact (qi.out.on (Aw.Bq Ug.out.1)).on (Aw.DH XW.out.2.1 (fun q hq=>ZU.out.nE q hq))
       . exact (XW.out.2.1.block D (Nat.lt_of_lt_of_le s7 Ug.out.1.size) (fun e=>XQ.out D e.symm rfl)).trans ((Below.block Ug.out.1 D s7).trans d7)
      |false=>
       go_wp2;go_meet;exact⟨_,hs,rfl,by rw[if_neg (by rw[<-XT.out];simp)];exact ZU.out,qi.out,d7⟩
     clear d7 s7 ZU qi XQ XT;obtain⟨v7,hs7,rfl,I7,H7,d7⟩:=hcut;have CA:=XA.out wc _ bd Zs.out H7.rd;have ZU:=Lib.hid I7;have zW:=XG.out;clear I7 H7;obtain rfl:=zW
     all_goals
      go_wp2_with (first|refine wpList_load_row rfl 103 _ rfl D rfl 103 _ (0,0) _ d7 Tryz.underlying103 rfl AQ ?_|fail)
      refine CA.mono ?_;rintro e w8 ⟨v8,rfl,⟨vs,P2,hSt,hlow⟩,k8⟩;have I8:=ZU.out.wide k8 hlow;have uj:=ZU.out.wx.lt;have CT:=ZF w8 bx _ Ml lx v8 vs ds _ P2 XZ.out I8.wx (fun q hq=>XJ.out.AK XO.out hq) (fun q hq=>(XO.out.step Zs.out hq).1) hSt (fun hp=>by have:=(hlow bx hp).1;omega) (fun e=>by have:=(hSt.lt bx e).1;omega) (by have:=XC.out.nl Zs.out;omega);have XS:=Lib.hid (And.intro I8 (And.intro hSt k8));clear CA d7 I8 hSt k8 hlow uj;go_wp2_with fail
      refine CT.mono ?_;rintro e w9 ⟨rfl,⟨es9,W9⟩,G9⟩
      have I9:=Lib.hid (XS.out.1.put G9 W9 (fun q hq=>by
       rcases List.mem_append.1 hq with hq|hq
       . exact XS.out.1.Qk q hq
       ·
        obtain⟨j,hj,rfl,_⟩:=UJ hq (Nat.le_refl _)
        exact (XS.out.2.1.each j hj).mono (fun _ => .inr)))
      have J9:=Lib.hid (XJ.out.step XO.out xD.out.1 xD.out.2 XP.out.1 XP.out.2.1 XP.out.2.2.1 XP.out.2.2.2.1 (dU vs (S.nx bd)));clear CT W9 G9;go_wp2;go_roundg (leftOf es (seen.push x.born)).size
      case measure=>rw[<-zZ.out];exact XP.out.2.2.2.2
      case rel=>exact⟨_,_,hs7,_,es9,_,_,_,rfl,rfl,I9.out,J9.out⟩
theorem NN {AA:List (List Dd)}{b:Bd}(hB:Am AA b=true):Ia AA b=Bh AA (AB AA) false b:=by
 unfold Ia Bh Cq;rw[if_pos hB];have e:(An AA b).filter (fun s=>!(false&&decide (10<=s)))=An AA b:=List.filter_eq_self.2 (fun s _=>rfl);rw[e];refine List.map_congr_left (fun s hs=>?_);unfold JB RV;rw[if_pos hB,if_pos (Je hs)];simp
theorem Xt {AA:List (List Dd)}(hb:AL AA=true){quick:Bool}(L:List (List Int))(hn:L.Nodup)(h:∀x∈L,∃b,Bi AA quick b/\DF AA b=true/\x=Ak b):L.length<=78125:=by
 refine PU 78125 (fun x c=>∃a b,EC AA a b/\Ak b=x/\NX AA a=c) _ hn (fun x hx=>?_) ?_
 ·
  obtain⟨b,hr,he,e⟩:=h x hx;obtain⟨a,τ,T,z,M,-⟩:=Ay hb hr;have C:=gD hb M he;exact⟨_,QV C,a,b,C,e.symm,rfl⟩
 ·
  rintro x x' c ⟨a,b,C,rfl,ec⟩ ⟨a',b',C',rfl,ec'⟩;have e:=ec.trans ec'.symm;unfold NX at e;have e2:=Fg _ _ (by simp) (DZ C) (DZ C') e;obtain⟨e3,e4⟩:=List.append_inj e2 (by simp)
  have f1:b.sn=b'.sn:=by
   rw[C.sn,C'.sn];refine List.map_congr_left (fun r hr=>?_);have:=(List.map_inj_left.1 e3) r hr;rw[LV _ (C.f r hr).2 (C'.f r hr).2 this]
  have f2:b.AM=b'.AM:=by
   rw[C.AM,C'.AM];refine List.map_congr_left (fun p hp=>?_);have:=(List.map_inj_left.1 e4) p hp;rw[LV _ (C.l p (List.mem_range.1 hp)).2 (C'.l p (List.mem_range.1 hp)).2 this]
  unfold Ak;rw[f1,f2]
theorem Fj {AA:List (List Dd)}(hb:AL AA=true){quick:Bool}{b:Bd}(h:Bi AA quick b):Am AA b=true:=by
 obtain⟨a,_,_,_,M,_⟩:=Ay hb h;exact Gx hb M
theorem gy {AA:List (List Dd)}(hb:AL AA=true)(quick:Bool):qg AA (jy AA quick) where
 sz h:=(Dq.of (Fj hb h)).sz (by omega)
 en h:=by
  show Ii AA _=DF AA _;unfold Ii;rw[Fj hb h,Bool.true_and,QZ (Fj hb h)]
 sh h _:=by unfold KP;rw[if_pos (Fj hb h)];rfl
 sl {b} h _:=by
  obtain⟨_,h1,_,_,_,_,h6,_⟩:=Hk (Fj hb h);unfold Ak;rw[List.length_append];omega
 nl {b} h:=by
  have:=Ht hb (es:=AB AA) (quick:=quick) (b:=b);exact Nat.le_trans this (by omega)
 fe L hn h:=Xt hb L hn h
theorem gu:qg [] jq where
 sz h:=by rw[show _=_ from h];exact⟨by simp,fun i hi=>by simp at hi,by simp,by simp,by simp,fun i hi=>by simp at hi,by simp,by simp,by simp,by simp,fun i hi=>by simp at hi⟩
 en h:=by rw[show _=_ from h];rfl
 sh _ he:=by cases he
 sl _ he:=by cases he
 nl _:=Nat.zero_le _
 fe L _ h:=by
  cases L with
  |nil=>exact Nat.zero_le _
  |cons x L=>obtain⟨b,_,he,_⟩:=h x (by simp);cases he
theorem Wl {AA:List (List Dd)}(hb:AL AA=true):WT 46 AA (jy AA false):=fun w v b hR h=>by
 have hB:=Fj hb hR
 have hp:(Cq AA b).length<=1000:=by
  have:=Ht hb (es:=AB AA) (quick:=false) (b:=b);rw[<-NN hB] at this;unfold Ia at this;rw[List.length_map] at this;omega
 have q:=GZ w v AA b h ((gy hb false).sz hR) hp (fun _ _=>hB);rw[NN hB] at q;exact q
theorem Yp:Cq [] ⟨[],[],[],[],[],[],[]⟩=[]:=rfl
theorem Ui:WT 46 [] jq:=fun w v b hR h=>by
 have e:b=⟨[],[],[],[],[],[],[]⟩:=hR;subst e;exact GZ w v [] _ h (gu.sz rfl) (by rw[Yp];simp) (fun s hs=>by rw[Yp] at hs;cases hs)
theorem Ud.right {AA:List (List Dd)}{quick:Bool}{l:List (List Int)}(hb:AL AA=true)(h:Ud (jy AA quick) l):DL AA quick l:=⟨fun _=>⟨h.ord,h.all⟩,fun e=>(by rw[hb] at e;cases e)⟩
theorem Ud.wrong {AA:List (List Dd)}{quick:Bool}{l:List (List Int)}(hb:AL AA=false)(h:Ud jq l):DL AA quick l:=⟨fun e=>(by rw[hb] at e;cases e),fun _=>(by
 cases l with
 |nil=>rfl
 |cons x l=>obtain⟨b,_,he,_⟩:=(h.all x).1 (by simp);cases he)⟩
theorem VA {quick:Bool}{g:Nat}(hg:g=46)(hr:∀AA,AL AA=true->WT g AA (jy AA quick))(h0:WT g [] jq)(w:World)(v:Value)(AA:List (List Dd))(h:Fo w v AA)(hx:AA.length<=1048576)(hm:∀i,i<AA.length->(AA.getD i []).length<=1048576):
  Calls Tryz.prog 45 #[v,.func (Fn.func g) #[] #[]] w fun e w'=>∃v' l,e = .returned v'/\WW w' w.heap.size w'.heap.size v' l/\DL AA quick l/\AC w w':=by
 cases hb:AL AA with
 |true=>
  have e1:Ky AA=AA:=by unfold Ky;rw[if_pos hb]
  have e2:M4 AA=Ci AA:=by unfold M4;rw[if_pos hb]
  refine (Lo w v AA h hx hm (S:=jy AA quick) (kE hb quick) (by rw[e1];exact kF hb quick) (by rw[e1];exact gy hb quick) (by rw[e2];rfl) g hg (by rw[e1];exact hr AA hb)).mono ?_;rintro e w' ⟨v',hs,l,rfl,hO,hE,k⟩;exact⟨v',l,rfl,hO.free,hE.right hb,k⟩
 |false=>
  have e1:Ky AA=[]:=by unfold Ky;rw[if_neg (by rw[hb];simp)]
  have e2:M4 AA=Mj:=by unfold M4;rw[if_neg (by rw[hb];simp)]
  refine (Lo w v AA h hx hm (S:=jq) jr (by rw[e1];exact jv) (by rw[e1];exact gu) (by rw[e2];rfl) g hg (by rw[e1];exact h0)).mono ?_;rintro e w' ⟨v',hs,l,rfl,hO,hE,k⟩;exact⟨v',l,rfl,hO.free,hE.wrong hb,k⟩
theorem Oy (w:World)(v:Value)(AA:List (List Dd))(h:Fo w v AA)(hx:AA.length<=1048576)(hm:∀i,i<AA.length->(AA.getD i []).length<=1048576):
  Calls Tryz.prog 22 #[v] w fun e w'=>∃v' l,e = .returned v'/\WW w' w.heap.size w'.heap.size v' l/\DL AA false l/\AC w w':=by
 have C:=VA rfl (fun _ hb=>Wl hb) Ui w v AA h hx hm;obtain⟨a,c,rfl,-⟩:=h;clear hm;go_enter Tryz.func22,Tryz.ntmps22
 go_wp2_with fail
 refine C.mono ?_;rintro e w1 ⟨v1,l,rfl,hF,hE,k⟩;have XF:=Lib.hid (And.intro hF (And.intro hE k));clear C hF hE k;go_wp2;go_ret;exact⟨_,l,rfl,XF.out⟩
theorem Mw (w:World)(v vR vV:Value)(AA:List (List Dd))(rs vs:List Int)(a b c:Addr)(hE:Ro w a b c)(hg:w.cell? ⟨1,0,none⟩=some (.iface 138 (.agg #[hdV 57])))(h:Fo w v AA)(hr:Rd w vR rs)(hv:Rd w vV vs)(hx:AA.length<=1048576)(hm:∀i,i<AA.length->(AA.getD i []).length<=1048576)(lr:rs.length<=2097152)(lv:vs.length<=2097152):
  Calls Tryz.prog 7 #[v,.agg #[vR,vV]] w fun e w'=>∃a b,e = .returned (.tuple #[.int .i64 a,.int .i64 b])/\NJ AA rs vs a b/\AC w w':=by
 have KA:AC w (w.alloc (.cells #[vR,vV] 27)):=(AC.refl w).alloc _;have CA:=Ox _ v vR vV AA rs vs a (hE.no.keep KA) (h.keep KA) (hr.keep KA) (hv.keep KA) hx hm lr lv;have CE:=fun (W:World) (kW:AC w W)=>Oy W v AA (h.keep kW) hx hm
 have HM0:Hid (∀(W:World),AC w W->∀(u:Value) (one:List Int),Rd W u one->one.length<=1048576->Calls Tryz.prog 9 #[v,.agg #[vR,vV],u] W fun e w'=>e = .returned (.bool (Ei AA rs vs one))/\AC W w'):=Lib.hid (fun W kW u one hu lo=>
  Oz W v vR vV u AA rs vs one a b c (hE.keep kW) (FW hg kW) (h.keep kW) (hr.keep kW) (hv.keep kW) hu hx hm lr lv lo)
 obtain⟨aR,cR,rfl,-⟩:=hr;obtain⟨aV,cV,rfl,-⟩:=hv;obtain⟨av,cv,rfl,-⟩:=h;clear hm hE hg;obtain⟨A,hA⟩:∃A,A=ED AA rs vs:=⟨_,rfl⟩;rw[<-hA] at CA;have XA:=Lib.hid hA;clear hA;go_enter Tryz.func7,Tryz.ntmps7
 go_wp2_with fail
 refine CA.mono ?_;rintro e w1 ⟨rfl,k1⟩;have c0:=AR k1 0;have c1:=AR k1 1;simp at c0 c1;have K1:=KA.trans k1;have s1:w.heap.size<w1.heap.size:=by have:=k1.size;rw[AD] at this;omega
 clear CA;cases A
 ·
  go_wp2;go_ret2
  exact⟨-1,-1,rfl,⟨fun _=>⟨rfl,rfl⟩,fun q=>(by rw[<-XA.out] at q;cases q)⟩,K1⟩
 ·
  have hb:=XA.out.symm;have hwb:AL AA=true:=by unfold ED at hb;rw[Bool.and_eq_true] at hb;exact hb.1
  have XB:=Lib.hid hwb;clear hb hwb;go_wp2_with fail
  refine (CE _ K1).mono ?_;rintro e w2 ⟨v2,l,rfl,r2,hi,k2⟩;have XE:=Lib.hid hi;replace c0:=(k2.cell s1).trans c0;replace c1:=(k2.cell s1).trans c1;have K2:=Lib.hid (K1.trans k2);have s2:=Nat.lt_of_lt_of_le s1 k2.size
  have XM:Hid (∀i,i<l.length->Ei AA rs vs (l.getD i [])=Eh rs vs (l.getD i [])/\(l.getD i []).length<=1048576):=Lib.hid (fun i hi=>⟨by
   unfold Ei;rw[<-XA.out,decide_eq_true (XE.out.same XB.out hi)]
   rfl,by have:=XE.out.lens i hi;omega⟩)
  obtain⟨al,cl,rfl,rl⟩:=r2.rd;have XR:=Lib.hid rl;have hll:l.length<=78125:=XE.out.len;clear CE hi r2 rl k1 k2 K1 s1;go_wp2;go_loopw [6,9,18] (fun s6 s9 i wr=>∃k:Nat,k<=l.length/\i = .int .i64 k/\(∃u,s9=u)/\(∃n:Nat,s6 = .int .i64 n/\n<=k/\Hid (n=Qv rs vs l k))/\Hid (AC w2 wr)) (fun _ _ i _=>l.length-(intOf i).toNat)
  case atStart=>exact⟨0,Nat.zero_le _,rfl,⟨_,rfl⟩,⟨0,rfl,Nat.le_refl _,Lib.hid rfl⟩,Lib.hid (AC.refl _)⟩
  case round=>
   obtain⟨k,hk,rfl,⟨u9,rfl⟩,⟨n,rfl,hnk,hn⟩,hK⟩:=hrel;by_cases hlt:k<l.length
   ·
    rcases XR.out with q|⟨bl,ol,rfl,hbl,dl⟩
    . exfalso;rw[q] at hlt;simp at hlt
    obtain⟨vi,d1,r1⟩:=dl k hlt;have e1:=(hK.out.cell hbl).trans d1;have q0:=(hK.out.cell s2).trans c0;have q1:=(hK.out.cell s2).trans c1;have CM:=HM0.out wr (K2.out.trans hK.out) vi (l.getD k []) (r1.keep hK.out) (XM.out k hlt).2;rw[(XM.out k hlt).1] at CM;have XS:Hid (Qv rs vs l (k+1)=Qv rs vs l k+(if Eh rs vs (l.getD k [])=true then 1 else 0)):=Lib.hid rfl;obtain⟨ai,ci,og,-⟩:=id r1;generalize (l.getD k []).length=m at og;obtain⟨A,hA⟩:∃A,A=Eh rs vs (l.getD k []):=⟨_,rfl⟩;rw[<-hA] at CM XS;subst og;have i1:(0:Int)<=(k:Int):=Int.natCast_nonneg _;have i2:(k:Int)<(l.length:Int):=by omega
    have hw1:IntKind.i64.wrap ((n:Int)+1)=(n:Int)+1:=by rw[IntKind.wrap_i64];omega
    clear dl d1 r1 hA;go_wp2_with fail
    refine CM.mono ?_;rintro e wz ⟨rfl,kc⟩;have XC:=Lib.hid (hK.out.trans kc);clear kc e1 q0 q1 CM;cases A
    ·
     go_wp2;go_roundw;case rel=>exact⟨k+1,by omega,by go_num,⟨_,rfl⟩,⟨n,rfl,by omega,Lib.hid (by rw[XS.out,if_neg (by simp),<-hn.out];rfl)⟩,Lib.hid XC.out⟩
     case measure=>simp[intOf];omega
    ·
     go_wp2;go_roundw;case rel=>exact⟨k+1,by omega,by go_num,⟨_,rfl⟩,⟨n+1,by go_num,by omega,Lib.hid (by rw[XS.out,<-hn.out];rfl)⟩,Lib.hid XC.out⟩
     case measure=>simp[intOf];omega
   ·
    obtain rfl:k=l.length:=by omega
    go_wp2;go_ret2
    exact⟨n,l.length,rfl,⟨fun q=>(by rw[<-XA.out] at q;cases q),fun _=>⟨l,XE.out,by rw[hn.out],rfl⟩⟩,K2.out.trans hK.out⟩
end Go.Proofs.YtflehmepjhikcaaGreatDoor
