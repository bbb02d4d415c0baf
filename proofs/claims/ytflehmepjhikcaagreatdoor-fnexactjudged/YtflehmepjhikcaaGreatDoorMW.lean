/- Gathered texts. -/
import Derived.Defers
import Derived.Recover
import Derived.Lib.Hide
import Derived.Laws.Rows
import Derived.Deep.Cut
import Derived.Test.YtflehmepjhikcaaGreatDoorMV
import Derived.Deep.RegionHeld3
import Derived.Deep.QuietTactic
import Derived.BigQuiet
set_option maxRecDepth 100000
set_option maxHeartbeats 8000000
namespace Go.Proofs.YtflehmepjhikcaaGreatDoor
open Go.ChangeShapes Go.WideShapes Go.ChangeAt Go.RowKit
theorem eY (p0:Addr)(w:World):CallsD Tryz.prog 108 #[.pointer (some p0)] .returning w fun e u' w'=>e = .returned (.tuple #[])/\u' = .returning/\w'=w:=by
 refine KCb Tryz.func108 rfl fun c₀ cs hu=>?_
 apply wpS_seq;apply KC1;have hn:∀w:World,(binOp BinOp.neq 20 .nilIface .nilIface).run Tryz.prog w = .ok (.bool false) w:=fun _=>by kernel_rfl
 simp[wpOpsS,go_sem,recoverD,hu,Tryz.ntmps108,Exit.thenS,hn];refine KDP (t:=false) (by simp[Act.eval,Array.replicate]) ?_;simp only[KBO,KCU];refine KDG (wp_skip ?_);cases c₀;simp_all [bodyPostS,results,Tryz.results108]
theorem kQ (g:Nat)(w:World)(x:Value)(hg:w.heap[g]? = some (.cells #[x] 25 (0,0))):CallsD Tryz.prog 108 #[.pointer (some ⟨g,0,none⟩)] (.panicking [{ v:=X0,recovered:=false }]) w fun e u' w'=>e = .returned (.tuple #[])/\u' = .panicking [{ v:=X0,recovered:=true }]/\w'=(w.alloc (.cells #[] 2)).setCell ⟨g,0,none⟩ (.slice (some ⟨w.heap.size,0,none⟩) 0 0):=by
 have hl:g<w.heap.size:=(KAm.1 hg).1;have hg2:=(KAW ((AC.refl w).alloc (.cells #[] 2)) g hl).trans hg;have hc:(w.alloc (.cells #[] 2)).cell? ⟨g,0,none⟩=some x:=by rw[KAL _ g 0 _ _ _ hg2];rfl
 have hf:(w.alloc (.cells #[] 2)).frozen? ⟨g,0,none⟩=false:=KA1 _ g 0 _ _ hg2;have hv:∀w:World,(binOp BinOp.neq 20 X0 .nilIface).run Tryz.prog w = .ok (.bool true) w:=fun _=>by kernel_rfl
 refine KCb Tryz.func108 rfl fun c₀ cs hu=>?_
 apply wpS_seq;apply KC1;simp[wpOpsS,go_sem,recoverD,hu,Tryz.ntmps108,Exit.thenS,hv];refine KDP (t:=true) (by simp[Act.eval,Array.replicate]) ?_;simp only[KCT];refine KDG ?_;go_wp2;cases c₀;simp_all [bodyPostS,results,Tryz.results108];exact (World.setCell_alloc_past _ _ _ _ hl).symm
theorem RP {w wr:World}{v:Value}{zs:List Int}{x:Value}(O:A8 wr (w.heap.size+2) v zs)(K:AC w wr)(hg:wr.heap[w.heap.size+1]? = some (.cells #[x] 25 (0,0))):
  (wr.setCell ⟨w.heap.size+1,0,none⟩ v).cell? ⟨w.heap.size+1,0,none⟩=some v/\(wr.setCell ⟨w.heap.size+1,0,none⟩ v).heap[w.heap.size+1]? = some (.cells #[v] 25 (0,0))/\A8 (wr.setCell ⟨w.heap.size+1,0,none⟩ v) (w.heap.size+2) v zs/\AC w (wr.setCell ⟨w.heap.size+1,0,none⟩ v)/\wr.cell? ⟨w.heap.size+1,0,none⟩=some x/\wr.frozen? ⟨w.heap.size+1,0,none⟩=false:=by
 have hS:=KAt wr (w.heap.size+1) 0 _ _ v hg;refine⟨by rw[KAL _ _ 0 _ _ _ hS];rfl,hS,KAs O (Ad wr (w.heap.size+1) 0 v) ?_,K.grown (Ad wr (w.heap.size+1) 0 v) (fun k hk=>by have:=KAI hk;omega),by rw[KAL _ _ 0 _ _ _ hg];rfl,KA1 wr _ 0 _ _ hg⟩
 cases e:v.ownBlock with
 |none=>exact .inl rfl
 |some k=>exact .inr (fun e'=>by have:=O.ge k e;have:=KAI e';omega)
theorem Js (w:World)(v:BV)(AA:List (List Dd))(b:Bd)(h:Cw w v AA b)(hz:MS AA b):
  Calls Tryz.prog 79 #[v.agg] w fun e w'=>∃v',e = .returned v'/\A8 w' w.heap.size v' (Lq AA b)/\AC w w':=by
 obtain⟨aW,aP,aL,aN,aX,aS,aF,aR,cW,cP,cL,cN,cX,cS,cF,cR,rfl⟩:=h.shapes;have C:=fun (W:World) (kW:AC w W)=>GL W _ AA b (h.keep kW) hz
 have HS:=AI h.S;have HP:=AI h.P;have z1:=hz.sn;have z2:=hz.AM;clear h hz;have HD:Hid (Lq AA b=if Ap AA b=true then b.sn++b.AM else []):=AI rfl;have hmf:∀(fn:Fn) (first cap:Array Value) (w:World),(Instr.makeFunc fn first cap).run Tryz.prog w = .ok (.func fn first cap) w:=fun _ _ _ _=>rfl
 obtain⟨w1,hw1⟩:∃W:World,W=((w.alloc (.cells #[.slice aW AA.length cW,.slice aP b.AM.length cP,.slice aL b.AQ.length cL,.slice aN b.AJ.length cN,.slice aX b.AK.length cX,.slice aS b.sn.length cS,.slice aF b.fr.length cF,.slice aR b.rws.length cR] 103)).alloc (.cells #[.slice none 0 0] 25)):=⟨_,rfl⟩;have K1:AC w w1:=by rw[hw1];exact ((AC.refl w).alloc _).alloc _
 have s1:w1.heap.size=w.heap.size+2:=by rw[hw1,AD,AD]
 have hR1:w1.heap[w.heap.size+1]? = some (.cells #[.slice none 0 0] 25 (0,0)):=by
  rw[hw1,<-AD w (.cells #[.slice aW AA.length cW,.slice aP b.AM.length cP,.slice aL b.AQ.length cL,.slice aN b.AJ.length cN,.slice aX b.AK.length cX,.slice aS b.sn.length cS,.slice aF b.fr.length cF,.slice aR b.rws.length cR] 103)];exact KAX _ _
 have hB1:w1.heap[w.heap.size]? = some (.cells #[.slice aW AA.length cW,.slice aP b.AM.length cP,.slice aL b.AQ.length cL,.slice aN b.AJ.length cN,.slice aX b.AK.length cX,.slice aS b.sn.length cS,.slice aF b.fr.length cF,.slice aR b.rws.length cR] 103 (0,0)):=by rw[hw1];exact (KAW ((AC.refl _).alloc _) _ (by rw[AD];omega)).trans (KAX _ _)
 go_enter_defers Tryz.func79,Tryz.ntmps79
 go_upto_region 2 with fail
 rw[<-hw1];clear hw1;go_wp2_with (first|refine KAq rfl 103 _ rfl w.heap.size rfl 103 _ (0,0) _ hB1 Tryz.underlying103 rfl AR ?_|fail)
 refine (C _ K1).mono ?_;rintro e w2 ⟨rfl,k2⟩;have K2:=K1.trans k2;have hsz:=k2.size;have hR2:=(KAW k2 (w.heap.size+1) (by omega)).trans hR1;have hB2:=(KAW k2 w.heap.size (by omega)).trans hB1;have k3:AC w2 (w2.alloc (.cells #[] 2)):=(AC.refl w2).alloc _;have O3:A8 (w2.alloc (.cells #[] 2)) (w.heap.size+2) (.slice (some ⟨w2.heap.size,0,none⟩) 0 0) []:=KAo w2 #[] 0 (by omega) (by decide) rfl;have hR3:=(KAW k3 (w.heap.size+1) (by omega)).trans hR2;have hB3:=(KAW k3 w.heap.size (by omega)).trans hB2;have K3:=K2.trans k3;have hsz3:=k3.size;clear hR1 hB1 hB2 C;cases hb:Ap AA b
 ·
  rw[Ae rfl];have HE:Hid (Lq AA b=[]):=AI (by rw[HD.out,hb];rfl);obtain⟨hc,-,OZ,KZ,-,-⟩:=RP O3 K3 hR3;go_wp2;refine KCr (f:=108) (args:=#[.pointer (some ⟨w.heap.size+1,0,none⟩)]) (by simp) (by simp[go_sem]) ?_;refine (kQ _ _ _ hR2).mono ?_;rintro e u' w9 ⟨rfl,rfl,rfl⟩;simp[Leaves,settle,results,Tryz.results79,go_sem,hc];exact⟨by rw[HE.out];exact OZ.BK (by omega),KZ⟩
 ·
  rw[Av rfl];have HE:Hid (Lq AA b=b.sn++b.AM):=AI (by rw[HD.out,hb];rfl);clear HD hb hR2;obtain⟨w3,hw3⟩:∃W:World,W=w2.alloc (.cells #[] 2):=⟨_,rfl⟩;rw[<-hw3] at O3 hR3 hB3 K3 k3 hsz3;have f5:w3.cell? ⟨w.heap.size,5,none⟩=some (.slice aS b.sn.length cS):=by rw[KAL w3 _ 5 _ _ _ hB3];rfl
  have f5':(w2.alloc (.cells #[] 2)).cell? ⟨w.heap.size,5,none⟩=some (.slice aS b.sn.length cS):=by rw[<-hw3];exact f5
  go_wp2_with (at_builtin;rw[<-hw3];refine BG rfl _ _ rfl (w.heap.size+2) _ [] rfl O3 _ rfl b.sn (HS.out.keep K3) (by simp) z1 (by omega) ?_)
  intro v4 w4 O4 g4 _;rw[<-hw3] at g4;have hge:∀k,some w2.heap.size=some k->w.heap.size+2<=k:=fun k hk=>by have:=KAI hk;omega
  have K4:AC w w4:=K3.grown g4 (fun k hk=>by have:=hge k hk;omega);have hR4:w4.heap[w.heap.size+1]? = some (.cells #[.slice none 0 0] 25 (0,0)):=(g4.block _ (by omega) (fun e=>by have:=hge _ e.symm;omega)).trans hR3;have hB4:=(g4.block w.heap.size (by omega) (fun e=>by have:=hge _ e.symm;omega)).trans hB3;have hsz4:=g4.size;clear hR3 hB3 O3 f5 f5' hw3 g4;obtain⟨a4,x4,rfl,-⟩:=id O4.rd;obtain⟨hc4,hS5,O5,K5,c4,fr4⟩:=RP O4 K4 hR4;have hB5:=(KBM w4 ⟨w.heap.size+1,0,none⟩ w.heap.size (.slice a4 b.sn.length x4) (by show w.heap.size≠w.heap.size+1;omega)).trans hB4;have hsz5:w4.heap.size=(w4.setCell ⟨w.heap.size+1,0,none⟩ (.slice a4 b.sn.length x4)).heap.size:=by simp
  go_upto_region 4 with fail
  generalize w4.setCell ⟨w.heap.size+1,0,none⟩ (.slice a4 b.sn.length x4)=w5 at *;have f1:w5.cell? ⟨w.heap.size,1,none⟩=some (.slice aP b.AM.length cP):=by rw[KAL w5 _ 1 _ _ _ hB5];rfl
  clear c4 fr4 O4 hR4 hB4;go_wp2_with (at_builtin;refine BG rfl _ _ rfl (w.heap.size+2) _ b.sn rfl O5 _ rfl b.AM (HP.out.keep K5) z1 z2 (by omega) ?_)
  intro v6 w6 O6 g6 _;have K6:AC w w6:=K5.grown g6 (fun k hk=>by have:=O5.ge k hk;omega);have hR6:w6.heap[w.heap.size+1]? = some (.cells #[.slice a4 b.sn.length x4] 25 (0,0)):=(g6.block _ (by omega) (fun e=>by have:=O5.ge _ e.symm;omega)).trans hS5;clear hS5 hB5 O5 f1 g6 hc4;generalize b.sn++b.AM=out at O6 HE;obtain⟨a6,x6,rfl,-⟩:=id O6.rd;obtain⟨hc,-,O7,K7,c6,fr6⟩:=RP O6 K6 hR6;clear hR6 O6;go_wp2;refine KCr (f:=108) (args:=#[.pointer (some ⟨w.heap.size+1,0,none⟩)]) (by simp) (by simp[go_sem]) ?_;refine (eY _ _).mono ?_;rintro e u' w9 ⟨rfl,rfl,rfl⟩;simp[Leaves,settle,results,Tryz.results79,go_sem,hc];exact⟨by rw[HE.out];exact O7.BK (by omega),K7⟩
noncomputable def Qm (w:World) (g:Nat) (k x:Value):World:=match (Instr.mapUpdate 130 (.map (some g)) k x).run Tryz.prog w with | .ok _ w'=>w'|_=>w
theorem Kn {w:World}{g:Nat}{b:Bd}(hk:∃kl,keyOf Tryz.prog 127 (Hs b)=some kl)(bv:BV)(hW:Wv w g #[] []):(Instr.mapUpdate 130 (.map (some g)) (Hs b) bv.agg).run Tryz.prog w = .ok () (Qm w g (Hs b) bv.agg)/\(∃es',Wv (Qm w g (Hs b) bv.agg) g es' [(bv,b)])/\w.grownBy (Qm w g (Hs b) bv.agg) (some g):=by
 obtain⟨w',es',hrun,h1,h2⟩:=hW.put (by decide) hk bv;have e:Qm w g (Hs b) bv.agg=w':=by unfold Qm;rw[hrun]
 rw[e];exact⟨hrun,⟨es',h1⟩,h2⟩
theorem Xc {w w':World}{r:Option Nat}(h:w.grownBy w' r){g j:Nat}(hg:g<w.heap.size)(hr:r≠some g):w'.cell? ⟨g,j,none⟩=w.cell? ⟨g,j,none⟩:=KAw (a:=⟨g,j,none⟩) (h.block g hg (fun e=>hr e.symm))
theorem jB {w w1 w2 w3 Wi:World}{ds:List (List Dd)}{b:Bd}{bv:BV}{q q':Nat}(K1:AC w w1)(hE:w1.heap[w.heap.size]? = some (.cells #[] 25 (0,0)))(s1:w1.heap.size=w.heap.size+1)(k2:AC w1 w2)(F:Dh w2 w1.heap.size w2.heap.size bv ds b)(k3:AC w2 w3)(hk:∃kl,keyOf Tryz.prog 127 (Hs b)=some kl)
  (I:Wv Wi q #[] []) (I':Wv Wi q' #[] []) (K:AC w3 Wi) (hq:w3.heap.size<=q) (hq':w3.heap.size<=q') (hne:q≠q'):∃es,Mt w (Qm Wi q (Hs b) bv.agg) ds (fun g=>w1.heap.size<=g/\g<w2.heap.size) (.slice (some ⟨w.heap.size,0,none⟩) 0 0) [] [] q q' es [(bv,b)]:=by
 obtain⟨-,⟨es,h1⟩,h2⟩:=Kn hk bv I;exact⟨es,Mt.new K1 hE s1 k2 F k3 (K.grown h2 (fun g e=>by have:=KAI e;omega)) h1 (I'.kept h2 (fun e=>hne (KAI e))) hne hq hq'⟩
theorem jC {w w1 w2 w3 Wi:World}{ds:List (List Dd)}{b:Bd}{bv:BV}{q:Nat}(K1:AC w w1)(hE:w1.heap[w.heap.size]? = some (.cells #[] 25 (0,0)))(s1:w1.heap.size=w.heap.size+1)(k2:AC w1 w2)(F:Dh w2 w1.heap.size w2.heap.size bv ds b)(k3:AC w2 w3)(hk:∃kl,keyOf Tryz.prog 127 (Hs b)=some kl)
  (I:Wv Wi q #[] []) (K:AC w3 Wi) (hq:w3.heap.size<=q):∃es,Mt w (aj (Qm Wi q (Hs b) bv.agg)) ds (fun g=>w1.heap.size<=g/\g<w2.heap.size) (.slice (some ⟨w.heap.size,0,none⟩) 0 0) [] [] q (Yc (Qm Wi q (Hs b) bv.agg)) es [(bv,b)]:=by
 obtain⟨-,⟨es,h1⟩,h2⟩:=Kn hk bv I;have hl:=h1.lt;have z:=h2.size;have zk:=K.size;exact⟨es,Mt.new K1 hE s1 k2 F k3 ((K.grown h2 (fun g e=>by have:=KAI e;omega)).trans (AX _)) (h1.keep (AX _)) (Wv.mk' _) (by unfold Yc;omega) hq (by unfold Yc;omega)⟩
structure WR (S:Sy)(l:List (List Int)):Prop where
 ord:PG l
 all:∀e,e∈l↔∃b,S.R b/\S.en b=true/\e=An b
theorem jr (vs:List BV)(bs:List Bd):(Vx vs bs bs.length).map (·.2)=bs:=by
 unfold Vx;rw[KCW];apply List.ext_getElem (by simp);intro i h1 h2;rw[List.getElem_map,List.getElem_range];show bs.getD i OW=_;rw[IT,KAH h2];rfl
theorem Tg.ends {ds:List (List Dd)}{S:Sy}(C:xk ds S){n:Int}{dn lx:List Bd}{E:List (List Int)}(D:FZ S n dn lx E):E.length<=78125/\∀i,i<E.length->(E.getD i []).length<=15:=by
 refine⟨C.fe E D.nd (fun z hz=>by obtain⟨b,q1,q2,q3,_⟩:=D.e1 z hz;exact⟨b,q1,q2,q3⟩),fun i hi=>?_⟩;have hm:E.getD i []∈E:=by rw[IT,KAH hi];exact KBI hi
 obtain⟨b,q1,q2,q3,_⟩:=D.e1 _ hm;rw[q3];exact C.sl q1 q2
theorem PB {E E':List (List Int)}(hp:E'.Perm E)(hn:E.Nodup)(hs:∀i j,i<j->j<E'.length->Bz (E'.getD j []) (E'.getD i [])=false):PG E':=by
 have hn':E'.Nodup:=hp.nodup_iff.2 hn;unfold PG;rw[KCv];intro i j hi hj hij;have q:=hs i j hij hj;have ei:E'.getD i []=E'[i]:=by rw[IT,KAH hi];rfl
 have ej:E'.getD j []=E'[j]:=by rw[IT,KAH hj];rfl
 rw[ei,ej] at q;rcases Hc E'[i] E'[j] with e|e|e
 . have:=(List.getElem_inj hn').1 e;omega
 . exact e
 . rw[e] at q;cases q
theorem NF (w:World)(v:Value)(AA:List (List Dd))(h:Fw w v AA)(hx:AA.length<=1048576)(hm:∀i,i<AA.length->(AA.getD i []).length<=1048576){S:Sy}(ok:LS S)(Z:Rp (MZ AA) S)(C:xk (MZ AA) S)(hb0:S.b0=Ox AA)(g:Nat)(hg:g=46)(CA:Yi g (MZ AA) S):
  Calls Tryz.prog 45 #[v,.func (Fn.func g) #[] #[]] w fun e w'=>∃v' hs l,e = .returned v'/\Ch 25 Bk w' w.heap.size v' hs l/\WR S l/\AC w w':=by
 have XO:=AI ok;have XZ:=AI Z;have XC:=AI C;have XA:=AI CA;have XG:=AI hg;have XB:=AI hb0;have CN:=fun (W:World) (kW:AC w W)=>Lg W v AA (h.keep kW) hx hm
 obtain⟨aD,cD,rfl,-⟩:=id h;obtain⟨w1,hw1⟩:∃W:World,W=w.alloc (.cells #[] 25):=⟨_,rfl⟩;have K1:AC w w1:=by rw[hw1];exact (AC.refl w).alloc _
 have s1:w1.heap.size=w.heap.size+1:=by rw[hw1,AD]
 have hE1:w1.heap[w.heap.size]? = some (.cells #[] 25 (0,0)):=by rw[hw1];exact KAX _ _
 clear h hm ok Z C hb0 CA hg;go_enter Tryz.func45,Tryz.ntmps45
 go_upto_region 2 with fail
 rw[<-hw1];clear hw1;go_wp2_with fail
 refine (CN _ K1).mono ?_;rintro e w2 ⟨bv,rfl,F2,k2⟩;obtain⟨ds,hds⟩:∃ds,ds=MZ AA:=⟨_,rfl⟩;obtain⟨b0,hb0⟩:∃b0,b0=Ox AA:=⟨_,rfl⟩;rw[<-hds] at XZ XC XA F2;rw[<-hb0] at XB F2;clear hds hb0 CN;obtain⟨uW,uP,uL,uN,uX,uS,uF,uR,WP,WM,WJ,WL,WQ,WO,WI,WN,rfl⟩:=F2.rd.shapes;obtain⟨w3,hw3⟩:∃W:World,W=w2.alloc (.cells #[.slice uW ds.length WP,.slice uP b0.AM.length WM,.slice uL b0.AQ.length WJ,.slice uN b0.AJ.length WL,.slice uX b0.AK.length WQ,.slice uS b0.sn.length WO,.slice uF b0.fr.length WI,.slice uR b0.rws.length WN] 103):=⟨_,rfl⟩;have k3:AC w2 w3:=by rw[hw3];exact (AC.refl w2).alloc _
 have hD3:w3.heap[w2.heap.size]? = some (.cells #[.slice uW ds.length WP,.slice uP b0.AM.length WM,.slice uL b0.AQ.length WJ,.slice uN b0.AJ.length WL,.slice uX b0.AK.length WQ,.slice uS b0.sn.length WO,.slice uF b0.fr.length WI,.slice uR b0.rws.length WN] 103 (0,0)):=by rw[hw3];exact KAX _ _
 have s3:w3.heap.size=w2.heap.size+1:=by rw[hw3,AD]
 have hR0:S.R b0:=by have:=XO.out.new.1;rw[XB.out] at this;exact this
 have key0:=aK (XZ.out.one hR0);have st0:=(XZ.out.one hR0).st;go_upto_region 3 with fail
 rw[<-hw3];clear hw3;have zS:=AI K1;have ze:=AI k2;have qp:=AI k3;have XE:=AI hE1;have XF:=AI F2;have XR:=AI hR0;have XD:=AI hD3;have mkr:∀(t:TypeId) (w:World),(Instr.makeMap t none).run Tryz.prog w = .ok (.map (some (Yc w))) (aj w):=p9;have kd:AC w3 w3.drew:=(AC.refl w3).drew;have c0:(w3.drew).cell? ⟨w2.heap.size,0,none⟩=some (.slice uW ds.length WP):=by rw[show (w3.drew).cell? ⟨w2.heap.size,0,none⟩=w3.cell? ⟨w2.heap.size,0,none⟩ from rfl,KAL _ _ 0 _ _ _ hD3];rfl
 have c1:(w3.drew).cell? ⟨w2.heap.size,1,none⟩=some (.slice uP b0.AM.length WM):=by rw[show (w3.drew).cell? ⟨w2.heap.size,1,none⟩=w3.cell? ⟨w2.heap.size,1,none⟩ from rfl,KAL _ _ 1 _ _ _ hD3];rfl
 have c2:(w3.drew).cell? ⟨w2.heap.size,2,none⟩=some (.slice uL b0.AQ.length WJ):=by rw[show (w3.drew).cell? ⟨w2.heap.size,2,none⟩=w3.cell? ⟨w2.heap.size,2,none⟩ from rfl,KAL _ _ 2 _ _ _ hD3];rfl
 have c3:(w3.drew).cell? ⟨w2.heap.size,3,none⟩=some (.slice uN b0.AJ.length WL):=by rw[show (w3.drew).cell? ⟨w2.heap.size,3,none⟩=w3.cell? ⟨w2.heap.size,3,none⟩ from rfl,KAL _ _ 3 _ _ _ hD3];rfl
 have c4:(w3.drew).cell? ⟨w2.heap.size,4,none⟩=some (.slice uX b0.AK.length WQ):=by rw[show (w3.drew).cell? ⟨w2.heap.size,4,none⟩=w3.cell? ⟨w2.heap.size,4,none⟩ from rfl,KAL _ _ 4 _ _ _ hD3];rfl
 have c5:(w3.drew).cell? ⟨w2.heap.size,5,none⟩=some (.slice uS b0.sn.length WO):=by rw[show (w3.drew).cell? ⟨w2.heap.size,5,none⟩=w3.cell? ⟨w2.heap.size,5,none⟩ from rfl,KAL _ _ 5 _ _ _ hD3];rfl
 have c6:(w3.drew).cell? ⟨w2.heap.size,6,none⟩=some (.slice uF b0.fr.length WI):=by rw[show (w3.drew).cell? ⟨w2.heap.size,6,none⟩=w3.cell? ⟨w2.heap.size,6,none⟩ from rfl,KAL _ _ 6 _ _ _ hD3];rfl
 have c7:(w3.drew).cell? ⟨w2.heap.size,7,none⟩=some (.slice uR b0.rws.length WN):=by rw[show (w3.drew).cell? ⟨w2.heap.size,7,none⟩=w3.cell? ⟨w2.heap.size,7,none⟩ from rfl,KAL _ _ 7 _ _ _ hD3];rfl
 have c8:w2.heap.size<(w3.drew).heap.size:=by show w2.heap.size<w3.heap.size;omega
 have Sh:∀(W:World) (q:Nat),Wv W q #[] []->(Instr.mapUpdate 130 (.map (some q)) (Hs b0) (.agg #[.slice uW ds.length WP,.slice uP b0.AM.length WM,.slice uL b0.AQ.length WJ,.slice uN b0.AJ.length WL,.slice uX b0.AK.length WQ,.slice uS b0.sn.length WO,.slice uF b0.fr.length WI,.slice uR b0.rws.length WN])).run Tryz.prog W = .ok () (Qm W q (Hs b0) (.agg #[.slice uW ds.length WP,.slice uP b0.AM.length WM,.slice uL b0.AQ.length WJ,.slice uN b0.AJ.length WL,.slice uX b0.AK.length WQ,.slice uS b0.sn.length WO,.slice uF b0.fr.length WI,.slice uR b0.rws.length WN])):=fun W q hW=>(Kn key0 ⟨.slice uW ds.length WP,.slice uP b0.AM.length WM,.slice uL b0.AQ.length WJ,.slice uN b0.AJ.length WL,.slice uX b0.AK.length WQ,.slice uS b0.sn.length WO,.slice uF b0.fr.length WI,.slice uR b0.rws.length WN⟩ hW).1
 have wv0:∀W:World,Wv (aj W) (Yc W) #[] []:=Wv.mk';have wv1:∀(W:World) (q:Nat),Wv W q #[] []->Wv (aj W) q #[] []:=fun W q h=>h.keep (AX W)
 clear K1 k2 k3 hE1 F2 hR0 hD3;go_cut [8,9] from 12 (fun s8 s9 wx=>∃bn bx es,s8 = .map (some bn)/\s9 = .map (some bx)/\Mt w wx ds (fun g=>w1.heap.size<=g/\g<w2.heap.size) (.slice (some ⟨w.heap.size,0,none⟩) 0 0) [] [] bn bx es [(⟨.slice uW ds.length WP,.slice uP b0.AM.length WM,.slice uL b0.AQ.length WJ,.slice uN b0.AJ.length WL,.slice uX b0.AK.length WQ,.slice uS b0.sn.length WO,.slice uF b0.fr.length WI,.slice uR b0.rws.length WN⟩,b0)])
 case first=>
  go_wp2_with fail
  go_region_held3 (fun w'=>w'.cell? ⟨w2.heap.size,0,none⟩=some (.slice uW ds.length WP)/\w'.cell? ⟨w2.heap.size,1,none⟩=some (.slice uP b0.AM.length WM)/\w'.cell? ⟨w2.heap.size,2,none⟩=some (.slice uL b0.AQ.length WJ)/\w'.cell? ⟨w2.heap.size,3,none⟩=some (.slice uN b0.AJ.length WL)/\w'.cell? ⟨w2.heap.size,4,none⟩=some (.slice uX b0.AK.length WQ)/\w'.cell? ⟨w2.heap.size,5,none⟩=some (.slice uS b0.sn.length WO)/\w'.cell? ⟨w2.heap.size,6,none⟩=some (.slice uF b0.fr.length WI)/\w'.cell? ⟨w2.heap.size,7,none⟩=some (.slice uR b0.rws.length WN)/\w2.heap.size<w'.heap.size)
   (first|(go_split_ands;first|(refine⟨?_,?_,?_,?_,?_,?_,?_,?_,?_⟩<;>(go_keep;done))|(refine⟨?_,?_,?_,?_,?_,?_,?_,?_,?_⟩<;>first|(rw[(AX _).cell (by assumption)];assumption)|(rw[DT];omega))|(refine⟨?_,?_,?_,?_,?_,?_,?_,?_,?_⟩<;>first|(rw[kk.cell (by assumption)];assumption)|(exact KAC (by assumption) kk.size))|(refine⟨?_,?_,?_,?_,?_,?_,?_,?_,?_⟩<;>first|(rw[Xc (Kn key0 ⟨.slice uW ds.length WP,.slice uP b0.AM.length WM,.slice uL b0.AQ.length WJ,.slice uN b0.AJ.length WL,.slice uX b0.AK.length WQ,.slice uS b0.sn.length WO,.slice uF b0.fr.length WI,.slice uR b0.rws.length WN⟩ (by first|exact Wv.mk' _|exact (Wv.mk' _).keep (AX _)|exact (Wv.mk' _).keep kk|exact ((Wv.mk' _).keep kk).keep (AX _)|exact ((Wv.mk' _).keep (AX _)).keep kk)).2.2 (by assumption) (by simp only[ne_eq,KAg,Yc,DT];omega)];assumption)|(exact KAC (by assumption) (Kn key0 ⟨.slice uW ds.length WP,.slice uP b0.AM.length WM,.slice uL b0.AQ.length WJ,.slice uN b0.AJ.length WL,.slice uX b0.AK.length WQ,.slice uS b0.sn.length WO,.slice uF b0.fr.length WI,.slice uR b0.rws.length WN⟩ (by first|exact Wv.mk' _|exact (Wv.mk' _).keep (AX _)|exact (Wv.mk' _).keep kk|exact ((Wv.mk' _).keep kk).keep (AX _)|exact ((Wv.mk' _).keep (AX _)).keep kk)).2.2.size)))|(go_keep;done))
   ((first|(go_at_call 77;refine (MN _ ⟨.slice uW ds.length WP,.slice uP b0.AM.length WM,.slice uL b0.AQ.length WJ,.slice uN b0.AJ.length WL,.slice uX b0.AK.length WQ,.slice uS b0.sn.length WO,.slice uF b0.fr.length WI,.slice uR b0.rws.length WN⟩ ds b0 (by first|exact XF.out.rd.keep (qp.out.trans kd)|exact (XF.out.rd.keep (qp.out.trans kd)).keep (AX _)|exact ((XF.out.rd.keep (qp.out.trans kd)).keep (AX _)).keep (AX _)) st0).mono ?_;rintro e wz ⟨rfl,kk⟩;have wv2:=(fun (q:Nat) (h:Wv _ q #[] [])=>Wv.keep h kk);(try have a1:=Sh _ _ (wv2 _ (wv0 w3.drew)));(try have a2:=Sh _ _ (wv1 _ _ (wv2 _ (wv0 w3.drew))));(try have b1:=Sh _ _ (wv2 _ (wv1 _ _ (wv0 w3.drew))));(try have b2:=Sh _ _ (wv2 _ (wv0 (aj w3.drew))));have hz8:w2.heap.size<wz.heap.size:=(by have q:=kk.size;(try simp only[DT] at q);omega);have d1:=Sh _ _ (wv0 wz);have d2:=Sh _ _ (wv1 _ _ (wv0 wz));have d3:=Sh _ _ (wv0 (aj wz)))|fail))
  all_goals
   go_wp2;go_meet;refine Exists.elim (α:=Array MapEntry) (by first|exact jB (bv:=⟨.slice uW ds.length WP,.slice uP b0.AM.length WM,.slice uL b0.AQ.length WJ,.slice uN b0.AJ.length WL,.slice uX b0.AK.length WQ,.slice uS b0.sn.length WO,.slice uF b0.fr.length WI,.slice uR b0.rws.length WN⟩) zS.out XE.out s1 ze.out XF.out qp.out key0 (by first|exact Wv.mk' _|exact (Wv.mk' _).keep (AX _)|exact (Wv.mk' _).keep kk|exact ((Wv.mk' _).keep kk).keep (AX _)|exact ((Wv.mk' _).keep (AX _)).keep kk) (by first|exact Wv.mk' _|exact (Wv.mk' _).keep (AX _)|exact (Wv.mk' _).keep kk|exact ((Wv.mk' _).keep kk).keep (AX _)|exact ((Wv.mk' _).keep (AX _)).keep kk) (by first|exact kd.trans kk|exact (kd.trans kk).trans (AX _)|exact ((kd.trans kk).trans (AX _)).trans (AX _)|exact kd.trans ((AX _).trans kk)|exact (kd.trans ((AX _).trans kk)).trans (AX _)|exact ((kd.trans ((AX _).trans kk)).trans (AX _)).trans (AX _)|exact kd.trans ((AX _).trans ((AX _).trans kk))|exact (kd.trans ((AX _).trans ((AX _).trans kk))).trans (AX _)|exact ((kd.trans ((AX _).trans ((AX _).trans kk))).trans (AX _)).trans (AX _)) (by have q:=kk.size;(try simp only[DT] at q);(try simp only[Az] at q);(try simp only[Yc]);(try simp only[DT]);(try simp only[Az]);omega) (by have q:=kk.size;(try simp only[DT] at q);(try simp only[Az] at q);(try simp only[Yc]);(try simp only[DT]);(try simp only[Az]);omega) (by have q:=kk.size;(try simp only[DT] at q);(try simp only[Az] at q);(try simp only[Yc]);(try simp only[DT]);(try simp only[Az]);omega)|exact jC (bv:=⟨.slice uW ds.length WP,.slice uP b0.AM.length WM,.slice uL b0.AQ.length WJ,.slice uN b0.AJ.length WL,.slice uX b0.AK.length WQ,.slice uS b0.sn.length WO,.slice uF b0.fr.length WI,.slice uR b0.rws.length WN⟩) zS.out XE.out s1 ze.out XF.out qp.out key0 (by first|exact Wv.mk' _|exact (Wv.mk' _).keep (AX _)|exact (Wv.mk' _).keep kk|exact ((Wv.mk' _).keep kk).keep (AX _)|exact ((Wv.mk' _).keep (AX _)).keep kk) (by first|exact kd.trans kk|exact (kd.trans kk).trans (AX _)|exact ((kd.trans kk).trans (AX _)).trans (AX _)|exact kd.trans ((AX _).trans kk)|exact (kd.trans ((AX _).trans kk)).trans (AX _)|exact ((kd.trans ((AX _).trans kk)).trans (AX _)).trans (AX _)|exact kd.trans ((AX _).trans ((AX _).trans kk))|exact (kd.trans ((AX _).trans ((AX _).trans kk))).trans (AX _)|exact ((kd.trans ((AX _).trans ((AX _).trans kk))).trans (AX _)).trans (AX _)) (by have q:=kk.size;(try simp only[DT] at q);(try simp only[Az] at q);(try simp only[Yc]);(try simp only[DT]);(try simp only[Az]);omega)) (fun es hO=>⟨_,_,es,rfl,rfl,hO⟩)
 obtain⟨bn,bx,es,rfl,rfl,O1⟩:=hcut
 have G1:GW S 0 (([(⟨.slice uW ds.length WP,.slice uP b0.AM.length WM,.slice uL b0.AQ.length WJ,.slice uN b0.AJ.length WL,.slice uX b0.AK.length WQ,.slice uS b0.sn.length WO,.slice uF b0.fr.length WI,.slice uR b0.rws.length WN⟩,b0)]:List (BV×Bd)).map (·.2)):=by
  have q:=XY XO.out;rw[XB.out] at q;exact q
 have D1:=Ww XO.out;obtain⟨i0,hi,hz0,hz1,hz2⟩:=KA3 Tryz.Qk;clear zS ze qp XE XF XR XD mkr Sh wv0 wv1 c0 c1 c2 c3 c4 c5 c6 c7 c8 kd key0 st0;go_wp2;go_loopg [5,8,9,11] 26 (fun k s5 s8 s9 _ wr=>∃(n:Nat) (P:Nat->Prop) (ve:Value) (hs:List Value) (E:List (List Int)) (bn bx:Nat) (es:Array MapEntry) (l:List (BV×Bd)),ve=s5/\s8 = .map (some bn)/\s9 = .map (some bx)/\26-n=k/\n<=25/\Mt w wr ds P ve hs E bn bx es l/\GW S (n:Int) (l.map (·.2))/\FZ S (n:Int) [] [] E)
 case atStart=>exact⟨0,_,_,_,_,bn,bx,es,_,rfl,rfl,rfl,rfl,by omega,O1,G1,D1⟩
 case round=>
  clear O1 G1 D1;obtain⟨n,P,ve,hs,E,bn,bx,es,l,rfl,rfl,rfl,hk,hn,O,G,D⟩:=hrel;have hlen:=O.wn.len;have XK:=AI hk;obtain⟨hE1,hE2⟩:=Tg.ends XC.out D;clear hk;by_cases hz:es.size=0
  ·
   have hl:l=[]:=by
    cases l with
    |nil=>rfl
    |cons p l=>
     obtain⟨x,hx,_⟩:=O.wn.yE p (by simp);have:es=#[]:=Array.eq_empty_of_size_eq_zero hz;rw[this] at hx;simp at hx
   subst hl;have hz':¬(0:Int)<(es.size:Int):=by omega
   have CS:=RQ wr _ ve hs E O.en O.nz (by omega) (fun i hi=>by have:=hE2 i hi;omega);have XF:=AI (D.Y0 XO.out (by omega) G);have XN:=AI D.nd;have zX:=AI O.K;have XB:=AI (fun q (hq:ve.ownBlock=some q)=>(O.en.Ag.lt (i:=none) trivial q hq).1);clear O G D hE1 hE2;go_wp2_with fail
   refine CS.mono ?_;rintro e wf ⟨rfl,hs',E',O',hp,hso,hg⟩;have XE:=AI (show WR S E' from ⟨PB hp XN.out hso,fun e=>by rw[hp.mem_iff];exact XF.out e⟩);have XO':=AI O';have XG':=AI hg;clear CS hp hso O' hg hlen;go_wp2;go_ret;exact⟨_,hs',E',rfl,XO'.out,XE.out,zX.out.grown XG'.out (fun q hq=>XB.out q hq)⟩
  ·
   have hz':(0:Int)<(es.size:Int):=by omega
   have hzd:decide (0<es.size)=true:=KAl (by omega);have hzn:0<es.size:=by omega
   have hn24:n<=24:=by
    have hl:l≠[]:=fun e=>by
     subst e
     have:es.toList=[]:=by
      cases h:es.toList with
      |nil=>rfl
      |cons x r=>
       obtain⟨p,hp,_⟩:=O.wn.pF x (by rw[h];simp);cases hp
     apply hz;rw[<-KCJ,this];rfl
    have:=G.top XO.out (by simpa using hl);omega
   obtain⟨c,hb,I0⟩:=O.range;have hrg:=run_range_map (P:=Tryz.prog) wr 130 127 103 bn es c Tryz.underlying130 hb;obtain⟨r,hr⟩:∃r,r=wr.heap.size:=⟨_,rfl⟩;obtain⟨wa,Ya⟩:∃W:World,W=wr.alloc (.mapIter (some bn) c #[] c):=⟨_,rfl⟩;rw[<-hr,<-Ya] at hrg I0;have J0:=Tg.new (es:=es) (by omega) G D;have XHZ:=AI hz;clear O G D hE1 hE2 hb hr Ya hz;obtain⟨wo,rfl⟩:∃wo:World,wo=wr:=⟨_,rfl⟩;go_wp2;clear hrg hlen hz';go_loopg [5,11] (leftOf es #[]).size (fun k s5 _ wq=>∃(P:Nat->Prop) (ve:Value) (hs:List Value) (E:List (List Int)) (OY:Array MapEntry) (lx:List (BV×Bd)) (seen:Array Nat) (dn:List Bd),ve=s5/\(leftOf es seen).size=k/\Ls w wq ds P ve hs E bn bx r es l OY lx seen/\Tg S (n:Int) es l seen dn lx E)
   case atStart=>exact⟨_,_,_,_,_,_,_,_,rfl,rfl,I0,J0⟩
   case round=>
    clear I0 J0;obtain⟨P,ve,hs,E,OY,lx,seen,dn,rfl,hk,I,J⟩:=hrel;have XJ:=AI J;have XKK:=AI hk;clear J hk;rcases I.next with ⟨h0,hnx⟩|⟨x,p,w5,hxe,hxs,hpl,hxk,hlt,hnx,hen,I5⟩
    ·
     obtain⟨w6,hcl,O6⟩:=I.clear;have XN:=AI (XJ.out.end XO.out XZ.out I.wn h0)
     have XM:Hid (GW S ((n+1:Nat):Int) (lx.map (·.2))/\FZ S ((n+1:Nat):Int) [] [] E):=AI (by
      have q:=XN.out
      rwa [show ((n:Int)+1)=((n+1:Nat):Int) by omega] at q)
     have XO6:=AI O6;clear I h0 O6 XN;go_wp2;go_roundg (26-(n+1))
     case measure=>rw[<-XK.out];omega
     case rel=>exact⟨n+1,P,ve,hs,E,bx,bn,OY,lx,rfl,rfl,rfl,rfl,by omega,XO6.out,XM.out.1,XM.out.2⟩
    ·
     obtain⟨hR,htm⟩:=XJ.out.one hpl;have hH:=I5.held p hpl;have XP:=AI (And.intro hxe (And.intro hxs (And.intro hpl (And.intro hxk hlt))));have zR:=AI I5;have XPW:=AI (And.intro I.wn.pw I.wn.nd);obtain⟨bp,bd⟩:=p;simp only at hR htm hH hnx hen hxk XP;obtain⟨bW,bP,bL,bN,bX,bS,bF,bR,dW,dP,dL,dN,dX,dS,dF,dR,rfl⟩:=hH.rd.shapes;have XH:=AI hH;have iE:=AI hR;clear hH hR I I5 hxe hxs hpl hxk hlt;obtain⟨w6,hw6⟩:∃W:World,W=w5.alloc (.cells #[.slice bW ds.length dW,.slice bP bd.AM.length dP,.slice bL bd.AQ.length dL,.slice bN bd.AJ.length dN,.slice bX bd.AK.length dX,.slice bS bd.sn.length dS,.slice bF bd.fr.length dF,.slice bR bd.rws.length dR] 103):=⟨_,rfl⟩;have k6:AC w5 w6:=by rw[hw6];exact (AC.refl w5).alloc _
     have d6:w6.heap[w5.heap.size]? = some (.cells #[.slice bW ds.length dW,.slice bP bd.AM.length dP,.slice bL bd.AQ.length dL,.slice bN bd.AJ.length dN,.slice bX bd.AK.length dX,.slice bS bd.sn.length dS,.slice bF bd.fr.length dF,.slice bR bd.rws.length dR] 103 (0,0)):=by rw[hw6];exact KAX _ _
     have s6:w5.heap.size<w6.heap.size:=by rw[hw6,AD];omega
     obtain⟨D,hDe⟩:∃D,D=w5.heap.size:=⟨_,rfl⟩;have XQ:Hid (∀q,ve.ownBlock=some q->q≠D):=AI (fun q hq e=>by have:=(zR.out.en.Ag.lt (i:=none) trivial q hq).2;omega);have XI6:=AI (zR.out.keep k6);have zP:=AI (XH.out.on (BA.B7 k6));go_upto_region 8 with fail
     rw[<-hw6,<-hDe];rw[<-hDe] at d6 s6;clear hw6 hDe k6 hnx hen zR XH;have CE:=Oo w6 _ ds bd zP.out.rd (XC.out.sz iE.out);rw[XC.out.en iE.out] at CE;obtain⟨tt,htt⟩:∃tt,tt=S.en bd:=⟨_,rfl⟩;rw[<-htt] at CE;have XT:=AI htt;clear htt;go_wp2_with (first|refine KAq rfl 103 _ rfl D rfl 103 _ (0,0) _ d6 Tryz.underlying103 rfl AR ?_|fail)
     refine CE.mono ?_;rintro e w7 ⟨rfl,k7⟩;have gB:=AI (XI6.out.keep k7);have xw:=AI (zP.out.on (BA.B7 k7));have d7:=(KAW k7 D s6).trans d6;have s7:=KAC s6 k7.size;clear CE d6 s6 XI6 zP k7;go_upto_if 34 with fail
     go_cut [5] from 35 to 44 (fun s5 wx=>∃(v':Value) (hs':List Value),v'=s5/\Ls w wx ds P v' hs' (if S.en bd=true then E++[An bd] else E) bn bx r es l OY lx (seen.push x.born)/\DJ wx P ⟨.slice bW ds.length dW,.slice bP bd.AM.length dP,.slice bL bd.AQ.length dL,.slice bN bd.AJ.length dN,.slice bX bd.AK.length dX,.slice bS bd.sn.length dS,.slice bF bd.fr.length dF,.slice bR bd.rws.length dR⟩ ds bd/\wx.heap[D]? = some (.cells #[.slice bW ds.length dW,.slice bP bd.AM.length dP,.slice bL bd.AQ.length dL,.slice bN bd.AJ.length dN,.slice bX bd.AK.length dX,.slice bS bd.sn.length dS,.slice bF bd.fr.length dF,.slice bR bd.rws.length dR] 103 (0,0)))
     case first=>
      cases tt with
      |true=>
       have CS:=Js w7 _ ds bd xw.out.rd (XC.out.sz iE.out);rw[XC.out.sh iE.out XT.out.symm] at CS;have XEN:Hid (S.en bd=true):=AI XT.out.symm;clear XT;go_wp2_with (first|refine KAq rfl 103 _ rfl D rfl 103 _ (0,0) _ d7 Tryz.underlying103 rfl AR ?_|fail)
       refine CS.mono ?_;rintro e w8 ⟨u,rfl,OU,k8⟩;obtain⟨au,cu,rfl,-⟩:=OU.rd;have k9:AC w8 (w8.alloc (.cells #[.slice au (An bd).length cu] 25)):=(AC.refl w8).alloc _;have hN:=KAX w8 (.cells #[.slice au (An bd).length cu] 25);obtain⟨w9,hw9⟩:∃W:World,W=w8.alloc (.cells #[.slice au (An bd).length cu] 25):=⟨_,rfl⟩;rw[<-hw9] at hN k9;have k79:=k8.trans k9;have hrow:w9.ownsRow w.heap.size 25 1 ve hs.length hs:=KAs (gB.out.en.Ag.own none trivial) k79.grownBy (Classical.em (ve.ownBlock=none));have hlen:hs.length<=78125:=by rw[gB.out.en.len];exact (Tg.ends XC.out XJ.out.done).1
       have hbs:w.heap.size<=w9.heap.size:=KAU gB.out.K.size k79.size;have s9:w9.heap.size=w8.heap.size+1:=by rw[hw9,AD]
       clear CS;go_wp2_with ((at_builtin;rw[<-hw9];refine KAe _ rfl _ _ 36 rfl w.heap.size 25 i0 (.slice none 0 0) 1 24 Tryz.underlying36 hi hz0 hz1 hz2 rfl (by decide) _ _ _ rfl hrow ⟨w8.heap.size,0,none⟩ 1 1 [.slice au (An bd).length cu] rfl rfl (World.news_of_block (cs:=#[.slice au (An bd).length cu]) (t:=25) (fr:=(0,0)) hN) (by simp[Value.oneCell']) ?e3 ?e4 ?e5 ?_))
       case e3=>unfold maxLen;omega
       case e4=>omega
       case e5=>exact hbs
       intro v10 w10 hown10 hgrow10 hnil hblk10;rw[<-hw9] at hgrow10;have XW:=AI (And.intro hown10 (And.intro hgrow10 (And.intro hnil hblk10)));have WU:=AI (And.intro k79 (And.intro OU k9));clear hown10 hgrow10 hnil hblk10 hrow hN hw9 k79 k8 k9 OU;go_wp2;go_meet;refine⟨_,hs++[.slice au (An bd).length cu],rfl,?_,?_,?_⟩
       ·
        rw[KAP XEN.out];exact gB.out.push WU.out.1 (WU.out.2.1.keep WU.out.2.2) XW.out.2.1 (by rw[s9];exact XW.out.2.2.2) XW.out.1 (fun e=>XW.out.2.2.1 e)
       . exact (xw.out.on (BA.B7 WU.out.1)).on (BA.Dn XW.out.2.1 (fun q hq=>gB.out.nE q hq))
       . exact (XW.out.2.1.block D (KAC s7 WU.out.1.size) (fun e=>XQ.out D e.symm rfl)).trans ((KAW WU.out.1 D s7).trans d7)
      |false=>
       go_wp2;go_meet;exact⟨_,hs,rfl,by rw[KAQ (by rw[<-XT.out];simp)];exact gB.out,xw.out,d7⟩
     clear d7 s7 gB xw XQ XT;obtain⟨v7,hs7,rfl,I7,H7,d7⟩:=hcut;have CA:=XA.out wc _ bd iE.out H7.rd;have gB:=AI I7;have XG2:=XG.out;clear I7 H7;obtain rfl:=XG2
     all_goals
      go_wp2_with (first|refine KAq rfl 103 _ rfl D rfl 103 _ (0,0) _ d7 Tryz.underlying103 rfl AR ?_|fail)
      refine CA.mono ?_;rintro e w8 ⟨v8,rfl,⟨vs,P2,hSt,hlow⟩,k8⟩;have I8:=gB.out.wide k8 hlow;have hbxl:=gB.out.wx.lt;have CT:=fI w8 bx _ OY lx v8 vs ds _ P2 XZ.out I8.wx (fun q hq=>XJ.out.AK XO.out hq) (fun q hq=>(XO.out.step iE.out hq).1) hSt (fun hp=>by have:=(hlow bx hp).1;omega) (fun e=>by have:=(hSt.lt bx e).1;omega) (by have:=XC.out.nl iE.out;omega);have XS:=AI (And.intro I8 (And.intro hSt k8));clear CA d7 I8 hSt k8 hlow hbxl;go_wp2_with fail
      refine CT.mono ?_;rintro e w9 ⟨rfl,⟨es9,W9⟩,G9⟩
      have I9:=AI (XS.out.1.put G9 W9 (fun q hq=>by
       rcases KA0.1 hq with hq|hq
       . exact XS.out.1.Sd q hq
       ·
        obtain⟨j,hj,rfl,_⟩:=Vy hq (KAM _)
        exact (XS.out.2.1.each j hj).mono (fun _ => .inr)))
      have J9:=AI (XJ.out.step XO.out XPW.out.1 XPW.out.2 XP.out.1 XP.out.2.1 XP.out.2.2.1 XP.out.2.2.2.1 (jr vs (S.nx bd)));clear CT W9 G9;go_wp2;go_roundg (leftOf es (seen.push x.born)).size
      case measure=>rw[<-XKK.out];exact XP.out.2.2.2.2
      case rel=>exact⟨_,_,hs7,_,es9,_,_,_,rfl,rfl,I9.out,J9.out⟩
theorem PI {AA:List (List Dd)}{b:Bd}(hB:Ap AA b=true):Ji AA b=Bp AA (AB AA) false b:=by
 unfold Ji Bp DH;rw[KAP hB];have e:(Aq AA b).filter (fun s=>!(false&&decide (10<=s)))=Aq AA b:=List.filter_eq_self.2 (fun s _=>rfl);rw[e];refine KAh (fun s hs=>?_);unfold J5 TU;rw[KAP hB,KAP (Kt hs)];simp
theorem Zh {AA:List (List Dd)}(hb:AL AA=true){quick:Bool}(L:List (List Int))(hn:L.Nodup)(h:∀x∈L,∃b,Br AA quick b/\Dl AA b=true/\x=An b):L.length<=78125:=by
 refine Q6 78125 (fun x c=>∃a b,EC AA a b/\An b=x/\PT AA a=c) _ hn (fun x hx=>?_) ?_
 ·
  obtain⟨b,hr,he,e⟩:=h x hx;obtain⟨a,τ,T,z,M,-⟩:=BF hb hr;have C:=l9 hb M he;exact⟨_,SM C,a,b,C,e.symm,rfl⟩
 ·
  rintro x x' c ⟨a,b,C,rfl,ec⟩ ⟨a',b',C',rfl,ec'⟩;have e:=ec.trans ec'.symm;unfold PT at e;have e2:=Gj _ _ (by simp) (EF C) (EF C') e;obtain⟨e3,e4⟩:=KB0 e2 (by simp)
  have f1:b.sn=b'.sn:=by
   rw[C.sn,C'.sn];refine KAh (fun r hr=>?_);have:=(KC7.1 e3) r hr;rw[Mr _ (C.f r hr).2 (C'.f r hr).2 this]
  have f2:b.AM=b'.AM:=by
   rw[C.AM,C'.AM];refine KAh (fun p hp=>?_);have:=(KC7.1 e4) p hp;rw[Mr _ (C.l p (KAd.1 hp)).2 (C'.l p (KAd.1 hp)).2 this]
  unfold An;rw[f1,f2]
theorem Gm {AA:List (List Dd)}(hb:AL AA=true){quick:Bool}{b:Bd}(h:Br AA quick b):Ap AA b=true:=by
 obtain⟨a,_,_,_,M,_⟩:=BF hb h;exact IZ hb M
theorem nG {AA:List (List Dd)}(hb:AL AA=true)(quick:Bool):xk AA (qZ AA quick) where
 sz h:=(Ee.of (Gm hb h)).sz (by omega)
 en h:=by
  show Jo AA _=Dl AA _;unfold Jo;rw[Gm hb h,KBi,ST (Gm hb h)]
 sh h _:=by unfold Lq;rw[KAP (Gm hb h)];rfl
 sl {b} h _:=by
  obtain⟨_,h1,_,_,_,_,h6,_⟩:=Iy (Gm hb h);unfold An;rw[KAJ];omega
 nl {b} h:=by
  have:=JG hb (es:=AB AA) (quick:=quick) (b:=b);exact KAU this (by omega)
 fe L hn h:=Zh hb L hn h
theorem nC:xk [] qW where
 sz h:=by rw[show _=_ from h];exact⟨by simp,fun i hi=>by simp at hi,by simp,by simp,by simp,fun i hi=>by simp at hi,by simp,by simp,by simp,by simp,fun i hi=>by simp at hi⟩
 en h:=by rw[show _=_ from h];rfl
 sh _ he:=by cases he
 sl _ he:=by cases he
 nl _:=KAb _
 fe L _ h:=by
  cases L with
  |nil=>exact KAb _
  |cons x L=>obtain⟨b,_,he,_⟩:=h x (by simp);cases he
theorem Yz {AA:List (List Dd)}(hb:AL AA=true):Yi 46 AA (qZ AA false):=fun w v b hR h=>by
 have hB:=Gm hb hR
 have hp:(DH AA b).length<=1000:=by
  have:=JG hb (es:=AB AA) (quick:=false) (b:=b);rw[<-PI hB] at this;unfold Ji at this;rw[KAj] at this;omega
 have q:=Hx w v AA b h ((nG hb false).sz hR) hp (fun _ _=>hB);rw[PI hB] at q;exact q
theorem cK:DH [] ⟨[],[],[],[],[],[],[]⟩=[]:=rfl
theorem WW:Yi 46 [] qW:=fun w v b hR h=>by
 have e:b=⟨[],[],[],[],[],[],[]⟩:=hR;subst e;exact Hx w v [] _ h (nC.sz rfl) (by rw[cK];simp) (fun s hs=>by rw[cK] at hs;cases hs)
theorem WR.right {AA:List (List Dd)}{quick:Bool}{l:List (List Int)}(hb:AL AA=true)(h:WR (qZ AA quick) l):DD AA quick l:=⟨fun _=>⟨h.ord,h.all⟩,fun e=>(by rw[hb] at e;cases e)⟩
theorem WR.wrong {AA:List (List Dd)}{quick:Bool}{l:List (List Int)}(hb:AL AA=false)(h:WR qW l):DD AA quick l:=⟨fun e=>(by rw[hb] at e;cases e),fun _=>(by
 cases l with
 |nil=>rfl
 |cons x l=>obtain⟨b,_,he,_⟩:=(h.all x).1 (by simp);cases he)⟩
theorem Wz {quick:Bool}{g:Nat}(hg:g=46)(hr:∀AA,AL AA=true->Yi g AA (qZ AA quick))(h0:Yi g [] qW)(w:World)(v:Value)(AA:List (List Dd))(h:Fw w v AA)(hx:AA.length<=1048576)(hm:∀i,i<AA.length->(AA.getD i []).length<=1048576):
  Calls Tryz.prog 45 #[v,.func (Fn.func g) #[] #[]] w fun e w'=>∃v' l,e = .returned v'/\Yl w' w.heap.size w'.heap.size v' l/\DD AA quick l/\AC w w':=by
 cases hb:AL AA with
 |true=>
  have e1:MZ AA=AA:=by unfold MZ;rw[KAP hb]
  have e2:Ox AA=C5 AA:=by unfold Ox;rw[KAP hb]
  refine (NF w v AA h hx hm (S:=qZ AA quick) (qa hb quick) (by rw[e1];exact qb hb quick) (by rw[e1];exact nG hb quick) (by rw[e2];rfl) g hg (by rw[e1];exact hr AA hb)).mono ?_;rintro e w' ⟨v',hs,l,rfl,hO,hE,k⟩;exact⟨v',l,rfl,hO.free,hE.right hb,k⟩
 |false=>
  have e1:MZ AA=[]:=by unfold MZ;rw[KAQ (by rw[hb];simp)]
  have e2:Ox AA=OW:=by unfold Ox;rw[KAQ (by rw[hb];simp)]
  refine (NF w v AA h hx hm (S:=qW) qX (by rw[e1];exact qY) (by rw[e1];exact nC) (by rw[e2];rfl) g hg (by rw[e1];exact h0)).mono ?_;rintro e w' ⟨v',hs,l,rfl,hO,hE,k⟩;exact⟨v',l,rfl,hO.free,hE.wrong hb,k⟩
theorem Qi (w:World)(v:Value)(AA:List (List Dd))(h:Fw w v AA)(hx:AA.length<=1048576)(hm:∀i,i<AA.length->(AA.getD i []).length<=1048576):
  Calls Tryz.prog 22 #[v] w fun e w'=>∃v' l,e = .returned v'/\Yl w' w.heap.size w'.heap.size v' l/\DD AA false l/\AC w w':=by
 have C:=Wz rfl (fun _ hb=>Yz hb) WW w v AA h hx hm;obtain⟨a,c,rfl,-⟩:=h;clear hm;go_enter Tryz.func22,Tryz.ntmps22
 go_wp2_with fail
 refine C.mono ?_;rintro e w1 ⟨v1,l,rfl,hF,hE,k⟩;have XF:=AI (And.intro hF (And.intro hE k));clear C hF hE k;go_wp2;go_ret;exact⟨_,l,rfl,XF.out⟩
theorem GK (w:World)(v vR vV:Value)(AA:List (List Dd))(rs vs:List Int)(a b c:Addr)(hE:Rk w a b c)(hg:w.cell? ⟨1,0,none⟩=some (.iface 138 (.agg #[hdV 57])))(h:Fw w v AA)(hr:Rd w vR rs)(hv:Rd w vV vs)(hx:AA.length<=1048576)(hm:∀i,i<AA.length->(AA.getD i []).length<=1048576)(lr:rs.length<=2097152)(lv:vs.length<=2097152):
  Calls Tryz.prog 7 #[v,.agg #[vR,vV]] w fun e w'=>∃a b,e = .returned (.tuple #[.int .i64 a,.int .i64 b])/\Lu AA rs vs a b/\AC w w':=by
 have KA:AC w (w.alloc (.cells #[vR,vV] 27)):=(AC.refl w).alloc _;have CA:=Kl _ v vR vV AA rs vs a (hE.no.keep KA) (h.keep KA) (hr.keep KA) (hv.keep KA) hx hm lr lv;have CE:=fun (W:World) (kW:AC w W)=>Qi W v AA (h.keep kW) hx hm
 have HM0:Hid (∀(W:World),AC w W->∀(u:Value) (one:List Int),Rd W u one->one.length<=1048576->Calls Tryz.prog 9 #[v,.agg #[vR,vV],u] W fun e w'=>e = .returned (.bool (Cz AA rs vs one))/\AC W w'):=AI (fun W kW u one hu lo=>
  G8 W v vR vV u AA rs vs one a b c (hE.keep kW) (Dc hg kW) (h.keep kW) (hr.keep kW) (hv.keep kW) hu hx hm lr lv lo)
 obtain⟨aR,cR,rfl,-⟩:=hr;obtain⟨aV,cV,rfl,-⟩:=hv;obtain⟨av,cv,rfl,-⟩:=h;clear hm hE hg;obtain⟨A,hA⟩:∃A,A=Db AA rs vs:=⟨_,rfl⟩;rw[<-hA] at CA;have XA:=AI hA;clear hA;go_enter Tryz.func7,Tryz.ntmps7
 go_wp2_with fail
 refine CA.mono ?_;rintro e w1 ⟨rfl,k1⟩;have c0:=AO k1 0;have c1:=AO k1 1;simp at c0 c1;have K1:=KA.trans k1;have s1:w.heap.size<w1.heap.size:=by have:=k1.size;rw[AD] at this;omega
 clear CA;cases A
 ·
  go_wp2;go_ret2
  exact⟨-1,-1,rfl,⟨fun _=>⟨rfl,rfl⟩,fun q=>(by rw[<-XA.out] at q;cases q)⟩,K1⟩
 ·
  have hb:=XA.out.symm;have hwb:AL AA=true:=by unfold Db at hb;rw[KAO] at hb;exact hb.1
  have XB:=AI hwb;clear hb hwb;go_wp2_with fail
  refine (CE _ K1).mono ?_;rintro e w2 ⟨v2,l,rfl,r2,hi,k2⟩;have XE:=AI hi;replace c0:=(k2.cell s1).trans c0;replace c1:=(k2.cell s1).trans c1;have K2:=AI (K1.trans k2);have s2:=KAC s1 k2.size
  have XM:Hid (∀i,i<l.length->Cz AA rs vs (l.getD i [])=DF rs vs (l.getD i [])/\(l.getD i []).length<=1048576):=AI (fun i hi=>⟨by
   unfold Cz;rw[<-XA.out,KAl (XE.out.same XB.out hi)]
   rfl,by have:=XE.out.lens i hi;omega⟩)
  obtain⟨al,cl,rfl,rl⟩:=r2.rd;have XR:=AI rl;have hll:l.length<=78125:=XE.out.len;clear CE hi r2 rl k1 k2 K1 s1;go_wp2;go_loopw [6,9,18] (fun s6 s9 i wr=>∃k:Nat,k<=l.length/\i = .int .i64 k/\(∃u,s9=u)/\(∃n:Nat,s6 = .int .i64 n/\n<=k/\Hid (n=JV rs vs l k))/\Hid (AC w2 wr)) (fun _ _ i _=>l.length-(intOf i).toNat)
  case atStart=>exact⟨0,KAb _,rfl,⟨_,rfl⟩,⟨0,rfl,KAM _,AI rfl⟩,AI (AC.refl _)⟩
  case round=>
   obtain⟨k,hk,rfl,⟨u9,rfl⟩,⟨n,rfl,hnk,hn⟩,hK⟩:=hrel;by_cases hlt:k<l.length
   ·
    rcases XR.out with q|⟨bl,ol,rfl,hbl,dl⟩
    . exfalso;rw[q] at hlt;simp at hlt
    obtain⟨vi,d1,r1⟩:=dl k hlt;have e1:=(hK.out.cell hbl).trans d1;have q0:=(hK.out.cell s2).trans c0;have q1:=(hK.out.cell s2).trans c1;have CM:=HM0.out wr (K2.out.trans hK.out) vi (l.getD k []) (r1.keep hK.out) (XM.out k hlt).2;rw[(XM.out k hlt).1] at CM;have XS:Hid (JV rs vs l (k+1)=JV rs vs l k+(if DF rs vs (l.getD k [])=true then 1 else 0)):=AI rfl;obtain⟨ai,ci,mV,-⟩:=id r1;generalize (l.getD k []).length=m at mV;obtain⟨A,hA⟩:∃A,A=DF rs vs (l.getD k []):=⟨_,rfl⟩;rw[<-hA] at CM XS;subst mV;have i1:(0:Int)<=(k:Int):=KAK _;have i2:(k:Int)<(l.length:Int):=by omega
    have hw1:IntKind.i64.wrap ((n:Int)+1)=(n:Int)+1:=by rw[KAk];omega
    clear dl d1 r1 hA;go_wp2_with fail
    refine CM.mono ?_;rintro e wz ⟨rfl,kc⟩;have XC:=AI (hK.out.trans kc);clear kc e1 q0 q1 CM;cases A
    ·
     go_wp2;go_roundw;case rel=>exact⟨k+1,by omega,by go_num,⟨_,rfl⟩,⟨n,rfl,by omega,AI (by rw[XS.out,KAQ (by simp),<-hn.out];rfl)⟩,AI XC.out⟩
     case measure=>simp[intOf];omega
    ·
     go_wp2;go_roundw;case rel=>exact⟨k+1,by omega,by go_num,⟨_,rfl⟩,⟨n+1,by go_num,by omega,AI (by rw[XS.out,<-hn.out];rfl)⟩,AI XC.out⟩
     case measure=>simp[intOf];omega
   ·
    obtain rfl:k=l.length:=by omega
    go_wp2;go_ret2
    exact⟨n,l.length,rfl,⟨fun q=>(by rw[<-XA.out] at q;cases q),fun _=>⟨l,XE.out,by rw[hn.out],rfl⟩⟩,K2.out.trans hK.out⟩
end Go.Proofs.YtflehmepjhikcaaGreatDoor
