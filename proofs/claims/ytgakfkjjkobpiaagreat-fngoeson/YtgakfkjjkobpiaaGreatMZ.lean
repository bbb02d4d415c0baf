/- Gathered texts. -/
import Derived.Laws.Tables
import Derived.Test.YtgakfkjjkobpiaaGreatMY
import Derived.Test.YtgakfkjjkobpiaaGreatMQ
set_option maxRecDepth 100000
set_option maxHeartbeats 8000000
namespace Go.Proofs.YtgakfkjjkobpiaaGreat
open Go.ChangeShapes Go.WideShapes Go.ChangeAt Go.RowKit
open Go.RowKit
theorem M5 (w:World)(v vs:Value)(AA:List (List Dd))(steps:List Int)(h:Ic w v AA)(hs:Rd w vs steps)(hb:AW AA=true)(hl:steps.length<=40)(hx:AA.length<=1048576)(hm:∀i,i<AA.length->(AA.getD i []).length<=1048576):
  Calls Tryz.prog 31 #[v,vs] w fun e w'=>∃bv nv rv bs N,e = .returned (.tuple #[bv.agg,.bool true])/\BA w' w.heap.size bv nv rv bs N AA (Bw AA (AB AA) (Bq AA) steps)/\AC w w':=by
 have C:=fun (W:World) (kW:AC w W)=>C4 W v AA (h.keep kW) hx hm
 rw[hb] at C;have HS:=Lib.hid hs;obtain⟨aS,cS,rfl,-⟩:=hs;have j1:¬((40:Int)<(steps.length:Int)):=by omega
 have j1n:¬(40<steps.length):=by omega
 go_enter Tryz.func31,Tryz.ntmps31
 go_wp2_with fail
 refine (C _ ((AC.refl w).alloc _)).mono ?_;rintro e w1 ⟨rfl,k1⟩;have hR0:=Ce k1;have K1:=((AC.refl w).alloc _).trans k1;have s1:=k1.size;rw[AD] at s1;clear C k1;go_wp2_with fail
 refine (Iv _ _ _ (h.keep K1) hb).mono ?_;rintro e w2 ⟨bv,nv,rv,bs,N,rfl,hV,hbs,k2⟩;obtain⟨aW,aP,aL,aN,aX,aT,aF,aR,cW,cP,cL,cN',cX,cT,cF,cR,rfl⟩:=(hV.box k2.size).rd.shapes;have H3:=hV.box k2.size;have s2:=k2.size;have K2:=K1.trans k2;have hR2:=(Below.block k2 w.heap.size (by omega)).trans hR0;have R0:JA AA (Bq AA):=JA.new hb;have HB0:Hid (Bw AA (AB AA) (Bq AA) (steps.take 0)=Bq AA):=Lib.hid rfl;generalize hNM:Bq AA=nb at *;go_upto_region 4 with fail
 obtain⟨w3,hw3⟩:∃W:World,W=w2.alloc (.cells #[.slice aW AA.length cW,.slice aP nb.AM.length cP,.slice aL nb.AQ.length cL,.slice aN nb.AH.length cN',.slice aX nb.AL.length cX,.slice aT nb.sn.length cT,.slice aF nb.fr.length cF,.slice aR nb.rws.length cR] 30):=⟨_,rfl⟩;have k3:AC w2 w3:=by rw[hw3];exact (AC.refl w2).alloc _
 have H3:AR w3 w1.heap.size w2.heap.size ⟨.slice aW AA.length cW,.slice aP nb.AM.length cP,.slice aL nb.AQ.length cL,.slice aN nb.AH.length cN',.slice aX nb.AL.length cX,.slice aT nb.sn.length cT,.slice aF nb.fr.length cF,.slice aR nb.rws.length cR⟩ nv rv bs N AA nb:=by rw[hw3];exact H3
 rw[<-hw3];clear hw3 hV hR0;have K3:=K2.trans k3;have hR3:=(Below.block k3 w.heap.size (by omega)).trans hR2;have m0:w.heap.size<w1.heap.size:=by omega
 have D0:w.heap.size≠w2.heap.size:=by omega
 generalize w1.heap.size=m at *;generalize hD:w2.heap.size=D at *;have iL:=Lib.hid hNM;clear hNM hD k2 k3 K1 K2 hR2;go_wp2;go_loopw [7] (fun i wr=>∃(k:Nat) (nv' rv':List Value) (b':Bd),k<=steps.length/\i = .int .i64 k/\AR wr m D ⟨.slice aW AA.length cW,.slice aP nb.AM.length cP,.slice aL nb.AQ.length cL,.slice aN nb.AH.length cN',.slice aX nb.AL.length cX,.slice aT nb.sn.length cT,.slice aF nb.fr.length cF,.slice aR nb.rws.length cR⟩ nv' rv' bs N AA b'/\Hid (b'=Bw AA (AB AA) nb (steps.take k))/\JA AA b'/\Ak w3 wr (BG D ⟨.slice aW AA.length cW,.slice aP nb.AM.length cP,.slice aL nb.AQ.length cL,.slice aN nb.AH.length cN',.slice aX nb.AL.length cX,.slice aT nb.sn.length cT,.slice aF nb.fr.length cF,.slice aR nb.rws.length cR⟩ nv rv) (BG D ⟨.slice aW AA.length cW,.slice aP nb.AM.length cP,.slice aL nb.AQ.length cL,.slice aN nb.AH.length cN',.slice aX nb.AL.length cX,.slice aT nb.sn.length cT,.slice aF nb.fr.length cF,.slice aR nb.rws.length cR⟩ nv' rv')) (fun i _=>steps.length-(intOf i).toNat)
 case atStart=>exact⟨0,nv,rv,nb,Nat.zero_le _,rfl,H3,Lib.hid rfl,R0,Ak.refl _ _⟩
 case round=>
  obtain⟨k,nv',rv',b',hk,rfl,H,qj,RN,T⟩:=hrel;have TL:=T.low (m:=m) (by have:=H3.base;omega) (fun g hg=>(H3.blk g hg).1);have KW:AC w wr:=Below.trans K3 (Below.mono TL (by omega));by_cases hlt:k<steps.length
  ·
   obtain⟨a',c',e',hq⟩:=HS.out.keep KW;simp only[Value.slice.injEq,true_and] at e';obtain⟨rfl,rfl⟩:=e';rcases hq with h0|⟨bS,oS,rfl,hbS,yT⟩
   . exfalso;rw[h0] at hlt;simp at hlt
   have Lr:=RN.board hb;have PS:=Nr Lr;have dS:wr.drew.cell? ⟨bS,oS+k,none⟩=some (.int .i64 (steps.getD k 0)):=yT k hlt;have CP:=Cp wr.drew _ AA b' H.drew.rd PS
   have hpl:(Ae AA b').length<=1048576:=by
    rw[<-Ew,List.length_append];have:=FE AA b' AA.length;have:=IG b' AA.length;have:=PS.m;have:=(As hb).1;omega
   have HH:Dx (Ae AA b') (steps.getD k 0)=true->Hid (Bw AA (AB AA) nb (steps.take (k+1))=Aq AA (AB AA) b' (steps.getD k 0)):=fun e=>Lib.hid (by rw[qj.out] at e ⊢;exact Tb hlt e)
   have HZ:Dx (Ae AA b') (steps.getD k 0)=false->Hid (Bw AA (AB AA) nb (steps.take (k+1))=b'):=fun e=>Lib.hid (by rw[qj.out] at e ⊢;exact Ql hlt e)
   generalize steps.getD k 0=st at *;obtain⟨e0,e1,e2,e3,e4,e5,e6,e7⟩:=H.drew.cells;simp only at e0 e1 e2 e3 e4 e5 e6 e7;have zD:D<wr.drew.heap.size:=H.base.2;have zS:bS<wr.drew.heap.size:=hbS;have i1:(0:Int)<=(k:Int):=Int.natCast_nonneg _;have i2:(k:Int)<(steps.length:Int):=by omega
   clear yT;go_wp2
   go_region_held3 (fun w'=>w'.cell? ⟨D,0,none⟩=some (.slice aW AA.length cW)/\w'.cell? ⟨D,1,none⟩=some (.slice aP nb.AM.length cP)/\w'.cell? ⟨D,2,none⟩=some (.slice aL nb.AQ.length cL)/\w'.cell? ⟨D,3,none⟩=some (.slice aN nb.AH.length cN')/\w'.cell? ⟨D,4,none⟩=some (.slice aX nb.AL.length cX)/\w'.cell? ⟨D,5,none⟩=some (.slice aT nb.sn.length cT)/\w'.cell? ⟨D,6,none⟩=some (.slice aF nb.fr.length cF)/\w'.cell? ⟨D,7,none⟩=some (.slice aR nb.rws.length cR)/\w'.cell? ⟨bS,oS+k,none⟩=some (.int .i64 st))
    (first|go_keep|(go_split_ands;refine⟨?_,?_,?_,?_,?_,?_,?_,?_,?_⟩<;>(rw[kk.cell (by assumption)];assumption)))
    ((first
     | (go_at_call 66;refine CP.mono ?_;rintro e wz ⟨vp,rfl,op,kk⟩;have qg:D<wz.heap.size:=Nat.lt_of_lt_of_le zD kk.size;have zS2:bS<wz.heap.size:=Nat.lt_of_lt_of_le zS kk.size;have Kz:=kk)
     | (go_at_call 65;refine (QM _ _ _ op.rd hpl st).mono ?_;clear kk;rintro e wy ⟨rfl,rfl⟩;have kk:AC wy wy:=AC.refl _)))
   all_goals
    have Hz:=H.drew.keep Kz;have Tz:=(T.keep (AC.refl wr).drew).keep Kz;have dz:=(Kz.cell zS).trans dS;clear e0 e1 e2 e3 e4 e5 e6 e7 CP op kk;cases hp:Dx (Ae AA b') st
    ·
     have HM:=HZ hp;go_wp2;go_roundw;case rel=>exact⟨k+1,nv',rv',b',by omega,by go_num,Hz,Lib.hid HM.out.symm,RN,Tz⟩
     case measure=>simp[intOf];omega
    ·
     have HM:=HH hp;go_wp2_with fail
     refine (Ff _ m D _ nv' rv' bs N AA b' st Hz Lr hp).mono ?_;rintro e w5 ⟨rfl,nv5,rv5,H5,T5⟩;go_wp2;go_roundw;case rel=>exact⟨k+1,nv5,rv5,_,by omega,by go_num,H5,Lib.hid HM.out.symm,RN.step hb hp,Tz.trans T5⟩
     case measure=>simp[intOf];omega
  ·
   obtain rfl:k=steps.length:=by omega
   have NB:¬BG D ⟨.slice aW AA.length cW,.slice aP nb.AM.length cP,.slice aL nb.AQ.length cL,.slice aN nb.AH.length cN',.slice aX nb.AL.length cX,.slice aT nb.sn.length cT,.slice aF nb.fr.length cF,.slice aR nb.rws.length cR⟩ nv rv w.heap.size:=fun hB=>by have:=(H3.blk _ hB).1;omega
   have QB:=(T.block w.heap.size (by have:=H3.base;omega) NB).trans hR3;have Bh:=H.B6;have eT:b'=Bw AA (AB AA) nb steps:=by have:=qj.out;rw[List.take_length] at this;exact this
   have zk:=Lib.hid eT;clear eT;simp only[BV.arr] at Bh;have HG:=Lib.hid (AV wr w.heap.size #[.slice aW AA.length cW,.slice aP nb.AM.length cP,.slice aL nb.AQ.length cL,.slice aN nb.AH.length cN',.slice aX nb.AL.length cX,.slice aT nb.sn.length cT,.slice aF nb.fr.length cF,.slice aR nb.rws.length cR]);have HZ:=Lib.hid (setRow_heap wr w.heap.size _ #[.slice aW AA.length cW,.slice aP nb.AM.length cP,.slice aL nb.AQ.length cL,.slice aN nb.AH.length cN',.slice aX nb.AL.length cX,.slice aT nb.sn.length cT,.slice aF nb.fr.length cF,.slice aR nb.rws.length cR] _ _ QB);go_wp2_with (first|refine wpList_load_row rfl 30 _ rfl D rfl 30 _ (0,0) _ Bh Tryz.underlying30 rfl AF ?_|refine wpList_store_row rfl 30 _ _ rfl w.heap.size _ rfl rfl 30 _ QB AF rfl (by simp[Value.oneCell']) ?_)
   refine bodyPost_ret (AZ (by rfl) _ _ w.heap.size _ _ (0,0) _ (.bool true) rfl HZ.out rfl Tryz.underlying30 rfl AF) rfl ?_;exact⟨⟨.slice aW AA.length cW,.slice aP nb.AM.length cP,.slice aL nb.AQ.length cL,.slice aN nb.AH.length cN',.slice aX nb.AL.length cX,.slice aT nb.sn.length cT,.slice aF nb.fr.length cF,.slice aR nb.rws.length cR⟩,nv',rv',bs,N,rfl,by rw[iL.out,<-zk.out];exact ((H.far HG.out (fun g hg=>by have:=Option.some.inj hg;omega)).val).BE (by omega),KW.grown HG.out (fun g hg=>by have:=Option.some.inj hg;omega)⟩
def Hu (AA:List (List Dd))(steps:List Int):Bool:=AW AA&&decide (steps.length<=40)
def J1 (AA:List (List Dd))(steps:List Int):List (List Dd):=if Hu AA steps=true then AA else []
def J0 (AA:List (List Dd))(steps:List Int):Bd:=if Hu AA steps=true then Bw AA (AB AA) (Bq AA) steps else PR
theorem M6 (w:World)(v vs:Value)(AA:List (List Dd))(steps:List Int)(h:Ic w v AA)(hs:Rd w vs steps)(hb:Hu AA steps=false)(hx:AA.length<=1048576)(hm:∀i,i<AA.length->(AA.getD i []).length<=1048576):
  Calls Tryz.prog 31 #[v,vs] w fun e w'=>e = .returned (.tuple #[BV.agg Ts,.bool false])/\AC w w':=by
 have C:=fun (W:World) (kW:AC w W)=>C4 W v AA (h.keep kW) hx hm
 obtain⟨aS,cS,rfl,-⟩:=hs
 have hb2:AW AA=true->decide (40<(steps.length:Int))=true:=fun hw=>by
  rw[Hu,hw] at hb;simp at hb;simp;omega
 go_enter Tryz.func31,Tryz.ntmps31
 go_wp2_with fail
 refine (C _ ((AC.refl w).alloc _)).mono ?_;rintro e w1 ⟨rfl,k1⟩;have hR0:=Ce k1;have K1:=((AC.refl w).alloc _).trans k1;have HG:=Lib.hid (AV w1 w.heap.size #[AE,AE,AE,AE,AE,AE,AE,AE]);have HZ:=Lib.hid (setRow_heap w1 w.heap.size _ #[AE,AE,AE,AE,AE,AE,AE,AE] _ _ hR0);have HK:=Lib.hid (K1.grown HG.out (fun q hq=>by have:=Option.some.inj hq;omega));clear C k1 K1;cases hw:AW AA
 ·
  clear hb2;go_wp2_with (first|refine wpList_store_row rfl 30 _ _ rfl w.heap.size _ rfl rfl 30 _ hR0 AF rfl (by simp[Value.oneCell']) ?_|fail)
  refine bodyPost_ret (AZ (by rfl) _ _ w.heap.size _ _ (0,0) _ (.bool false) rfl HZ.out rfl Tryz.underlying30 rfl AF) rfl ?_;exact⟨rfl,HK.out⟩
 ·
  have hl:=hb2 hw;clear hb2;go_wp2_with (first|refine wpList_store_row rfl 30 _ _ rfl w.heap.size _ rfl rfl 30 _ hR0 AF rfl (by simp[Value.oneCell']) ?_|fail)
  refine bodyPost_ret (AZ (by rfl) _ _ w.heap.size _ _ (0,0) _ (.bool false) rfl HZ.out rfl Tryz.underlying30 rfl AF) rfl ?_;exact⟨rfl,HK.out⟩
theorem Qo (w:World)(v vs:Value)(AA:List (List Dd))(steps:List Int)(h:Ic w v AA)(hs:Rd w vs steps)(hx:AA.length<=1048576)(hm:∀i,i<AA.length->(AA.getD i []).length<=1048576):
  Calls Tryz.prog 31 #[v,vs] w fun e w'=>∃bv:BV,e = .returned (.tuple #[bv.agg,.bool (Hu AA steps)])/\CJ w' bv (J1 AA steps) (J0 AA steps)/\AC w w':=by
 unfold J1 J0
 cases hb:Hu AA steps with
 |true=>
  have hb':=hb;simp only[Hu,Bool.and_eq_true,decide_eq_true_eq] at hb';refine (M5 w v vs AA steps h hs hb'.1 hb'.2 hx hm).mono ?_;rintro e w' ⟨bv,nv,rv,bs,N,rfl,o,k⟩;exact⟨bv,rfl,by rw[if_pos rfl,if_pos rfl];exact o.rd0,k⟩
 |false=>
  refine (M6 w v vs AA steps h hs hb hx hm).mono ?_;rintro e w' ⟨rfl,k⟩;exact⟨Ts,rfl,by rw[if_neg (by simp),if_neg (by simp)];exact Kw w',k⟩
theorem gu (AA:List (List Dd))(steps:List Int):Cg (J1 AA steps) (J0 AA steps)/\Pf (J1 AA steps) (J0 AA steps):=by
 unfold J1 J0
 cases hb:Hu AA steps with
 |false=>rw[if_neg (by simp),if_neg (by simp)];exact⟨Tf,by simp[Pf,Cy,IW]⟩
 |true=>
  have hb':=hb;simp only[Hu,Bool.and_eq_true,decide_eq_true_eq] at hb';rw[if_pos rfl,if_pos rfl];exact (RB.any (Nw hb'.1 _ _ (JA.new hb'.1))).sz (by omega) (by omega)
structure GR (AA:List (List Dd))(b:Bd)(k:Nat):Prop where
 run:JA AA b
 mV:Kb AA b+k<=24
 ln:LN AA b
 nx:∀c,0<=b.AL.getD c 0
theorem GR.new {AA:List (List Dd)}(hb:AW AA=true):GR AA (Bq AA) 0:=⟨JA.new hb,(IC hb).1,(IC hb).2.1,(IC hb).2.2⟩
theorem GR.step {AA:List (List Dd)}(hb:AW AA=true){b:Bd}{k:Nat}(h:GR AA b k){s:Int}(hs:Dx (Ae AA b) s=true):GR AA (Aq AA (AB AA) b s) (k+1):=by
 have hm:=QT hb (es:=AB AA) h.ln h.nx hs;exact⟨h.run.step hb hs,by have:=h.mV;have:=hm.1;omega,hm.2.1,hm.2.2⟩
theorem GR.less {AA:List (List Dd)}{b:Bd}{k k':Nat}(h:GR AA b k)(hk:k'<=k):GR AA b k':=⟨h.run,by have:=h.mV;omega,h.ln,h.nx⟩
theorem GR.ran {AA:List (List Dd)}(hb:AW AA=true):∀(l:List Int) {b:Bd},GR AA b 0->GR AA (Bw AA (AB AA) b l) 0
 | [],_,h=>h
 |s::r,b,h=>by
  rw[Bw];refine GR.ran hb r ?_;split
  ·
   rename_i hs;exact (h.step hb hs).less (Nat.zero_le _)
  . exact h
theorem GR.ended {AA:List (List Dd)}(hb:AW AA=true){b:Bd}{k:Nat}(h:GR AA b k):Jp AA b=decide ((Ae AA b).length=0):=by
 have e:Pv AA b=UB AA b:=by
  unfold Pv UB
  congr 1
  funext c;have:=h.nx c
  congr 1
  rw[Bool.eq_iff_iff,decide_eq_true_eq,decide_eq_true_eq];unfold Av;omega
 unfold Jp;rw[h.run.board hb,Bool.true_and,e,Bool.eq_iff_iff,decide_eq_true_eq];constructor
 ·
  intro h1;rw[Rl h1];rfl
 ·
  intro h1;exact SM (List.eq_nil_of_length_eq_zero h1)
theorem Fi {w:World}{ops:Array Oper}{rest:List Oper}{o:Oper}{a:Act}{Q:Exit->Act->World->Prop}(hgd:o.guard=none)(s x:Operand)
  (ho:o.op = .call { callee:= .builtin .append,args:=#[s,x],argTypes:=#[26,26] })
  (base:Nat) (v:Value) (zs:List Int) (hs:a.eval s=v) (hown:A8 w base v zs)
  (vx:Value) (hx:a.eval x=vx) (ys:List Int) (hr:Rd w vx ys) (hz:zs.length<=1048576) (hy:ys.length<=1048576) (hb:base<=w.heap.size)
  (h:∀v' w',A8 w' base v' (zs++ys)->w.grownBy w' v.ownBlock->(v'.ownBlock=v.ownBlock\/v'.ownBlock=some w.heap.size)->wpList Tryz.prog ops Q rest (a.put o.dst v') w'):wpList Tryz.prog ops Q (o::rest) a w:=
 wpList_plain hgd fun _ hK=>Cn s x ho base v zs hs hown vx hx ys hr hz hy hb (fun v' w' h1 h2 h3=>hK _ _ (h v' w' h1 h2 h3))
theorem AR.kZ {w w':World}{m D:Nat}{v:BV}{nv rv:List Value}{bs N:Nat}{AA:List (List Dd)}{b:Bd}(h:AR w m D v nv rv bs N AA b){row:Option Nat}(hg:w.grownBy w' row)(hr:∀k,row=some k->¬BG D v nv rv k/\(k<bs\/N<=k)):AR w' m D v nv rv bs N AA b:=by
 refine⟨h.Al.far hg (fun i hi=>?_),h.ln,h.lr,h.work.kept hg (fun g e=>(hr g e).2),Nat.le_trans h.top hg.size,h.out⟩
 cases e:(Ax D v nv rv b i).v.ownBlock with
 |none=>exact .inl rfl
 |some k=>exact .inr (fun e'=>(hr k e'.symm).1 ⟨i,hi,by rw[<-It D v nv rv b i];exact e⟩)
theorem Ud {w w':World}{base:Nat}{v:Value}{zs:List Int}(h:A8 w base v zs)(hh:∀q,v.ownBlock=some q->w'.heap[q]? = w.heap[q]?):A8 w' base v zs:=by
 refine⟨h.1,?_⟩;rcases h.2 with q|⟨g,cap,cur,e,hb,hg,r⟩
 . exact .inl q
 . exact .inr ⟨g,cap,cur,e,hb,(hh g (by rw[e];rfl)).trans hg,r⟩
theorem Yo (z:Nat)(h:z<5):∃y:Int,(#[.int .i64 0,.int .i64 1,.int .i64 10,.int .i64 11,.int .i64 99]:Array Value)[z]? = some (.int .i64 y):=by
 have:z=0\/z=1\/z=2\/z=3\/z=4:=by omega
 rcases this with rfl|rfl|rfl|rfl|rfl
 . exact⟨0,rfl⟩
 . exact⟨1,rfl⟩
 . exact⟨10,rfl⟩
 . exact⟨11,rfl⟩
 . exact⟨99,rfl⟩
theorem Jw (w:World)(B c:Nat)(hc:IU w B c)(v:Value)(AA:List (List Dd))(RW:Ic w v AA)(hx:AA.length<=1048576)(hm:∀i,i<AA.length->(AA.getD i []).length<=1048576):
  Calls Tryz.prog 69 #[.pointer (some ⟨c,0,none⟩),v] w fun e w'=>∃v' l,e = .returned v'/\A8 w' w.heap.size v' l/\l.length<=60/\Dr w w' B c:=by
 have hcl:=hc.lt;have hB:=hc.1;obtain⟨aD,kM,rfl,-⟩:=id RW;obtain⟨w0,hw0⟩:∃W:World,W=w.alloc (.cells #[] 2):=⟨_,rfl⟩;have k0:AC w w0:=by rw[hw0];exact (AC.refl w).alloc _
 have s0:w0.heap.size=w.heap.size+1:=by rw[hw0,AD]
 have O0:A8 w0 w.heap.size (.slice (some ⟨w.heap.size,0,none⟩) 0 0) []:=by rw[hw0];exact World.ownsRow_lit w #[] 0 (Nat.le_refl _) (by decide) rfl
 have C:=C4 w0 _ AA (RW.keep k0) hx hm;go_enter Tryz.func69,Tryz.ntmps69
 go_upto_region 2 with fail
 rw[<-hw0];clear hw0;go_wp2_with fail
 refine C.mono ?_;rintro e w2 ⟨rfl,k2⟩;have s2:=k2.size;have D2:Dr w w2 B c:=((Dr.refl hc).keep k0).keep k2;have O2:=O0.keep k2;have RW2:=RW.keep (k0.trans k2);clear C RW O0 k0 k2;cases hb:AW AA
 ·
  go_wp2;go_ret;exact⟨_,[],rfl,O2,by simp,D2⟩
 have R0:JA AA (Bq AA):=JA.new hb;go_wp2_with fail
 refine (Iv _ _ _ RW2 hb).mono ?_;rintro e w3 ⟨bv,nv,rv,bs,N,rfl,hV,hbs,k3⟩;obtain⟨aW,aP,aL,aN,aX,aT,aF,aR,cW,cP,cL,cN',cX,cT,cF,cR,rfl⟩:=hV.rd0.shapes;have H4:=hV.box k3.size;have D3:=D2.keep k3;have O3:=O2.keep k3;have s3:=k3.size;obtain⟨nb,hnb⟩:∃nb,nb=Bq AA:=⟨_,rfl⟩;rw[<-hnb] at H4 R0 hV ⊢;clear hnb;go_upto_region 5 with fail
 obtain⟨w4,hw4⟩:∃W:World,W=w3.alloc (.cells #[.slice aW AA.length cW,.slice aP nb.AM.length cP,.slice aL nb.AQ.length cL,.slice aN nb.AH.length cN',.slice aX nb.AL.length cX,.slice aT nb.sn.length cT,.slice aF nb.fr.length cF,.slice aR nb.rws.length cR] 30):=⟨_,rfl⟩;have k4:AC w3 w4:=by rw[hw4];exact (AC.refl w3).alloc _
 replace H4:AR w4 w2.heap.size w3.heap.size ⟨.slice aW AA.length cW,.slice aP nb.AM.length cP,.slice aL nb.AQ.length cL,.slice aN nb.AH.length cN',.slice aX nb.AL.length cX,.slice aT nb.sn.length cT,.slice aF nb.fr.length cF,.slice aR nb.rws.length cR⟩ nv rv bs N AA nb:=by rw[hw4];exact H4
 rw[<-hw4];clear hw4 hV;have D4:=D3.keep k4;have O4:=O3.keep k4
 have SP4:∀q,(Value.slice (some ⟨w.heap.size,0,none⟩) 0 0).ownBlock=some q->¬BG w3.heap.size ⟨.slice aW AA.length cW,.slice aP nb.AM.length cP,.slice aL nb.AQ.length cL,.slice aN nb.AH.length cN',.slice aX nb.AL.length cX,.slice aT nb.sn.length cT,.slice aF nb.fr.length cF,.slice aR nb.rws.length cR⟩ nv rv q/\(q<bs\/N<=q):=fun q hq=>by
  have e:w.heap.size=q:=Option.some.inj hq;exact⟨fun hbq=>by have:=(H4.blk q hbq).1;omega,.inl (by omega)⟩
 have hcm:c<w2.heap.size:=by omega
 have hcb:c<bs:=by omega
 have hmw:w.heap.size<w2.heap.size:=by omega
 clear D2 D3 O2 O3 k3 k4 RW2 s0 s2 s3 hbs;generalize w2.heap.size=m at *;generalize w3.heap.size=D at *;go_wp2;go_loopw [5,7,8,9] (fun vo i _ _ wr=>∃(k:Nat) (vl:Value) (lo:List Int) (nv' rv':List Value) (b':Bd),vo=vl/\k<=30/\i = .int .i64 k/\lo.length<=2*k/\A8 wr w.heap.size vl lo/\(∀q,vl.ownBlock=some q->¬BG D ⟨.slice aW AA.length cW,.slice aP nb.AM.length cP,.slice aL nb.AQ.length cL,.slice aN nb.AH.length cN',.slice aX nb.AL.length cX,.slice aT nb.sn.length cT,.slice aF nb.fr.length cF,.slice aR nb.rws.length cR⟩ nv' rv' q/\(q<bs\/N<=q))/\AR wr m D ⟨.slice aW AA.length cW,.slice aP nb.AM.length cP,.slice aL nb.AQ.length cL,.slice aN nb.AH.length cN',.slice aX nb.AL.length cX,.slice aT nb.sn.length cT,.slice aF nb.fr.length cF,.slice aR nb.rws.length cR⟩ nv' rv' bs N AA b'/\JA AA b'/\Dr w wr B c) (fun _ i _ _ _=>30-(intOf i).toNat)
 case atStart=>exact⟨0,_,[],nv,rv,nb,rfl,Nat.zero_le _,rfl,Nat.le_refl _,O4,SP4,H4,R0,D4⟩
 case round=>
  obtain⟨k,vl,lo,gD,gY,b',rfl,hk,rfl,hlo,OR,pR,H,RN,EX⟩:=hrel;clear H4 R0 D4 O4 SP4;obtain⟨xS,xg,hvl,-⟩:=id OR.rd;subst hvl;by_cases hk0:k<30;rotate_left
  ·
   have hk3:¬(k:Int)<30:=by omega
   go_wp2;go_ret;first|exact⟨_,lo,rfl,OR,by omega,EX⟩|exact⟨_,rfl,lo,OR,by omega,EX⟩
  have kp:(k:Int)<30:=by omega
  have Lr:=RN.board hb;have PS:=Nr Lr;have CP:=Cp wr _ AA b' H.rd PS
  have hpl:(Ae AA b').length<=1048576:=by
   rw[<-Ew,List.length_append];have:=FE AA b' AA.length;have:=IG b' AA.length;have:=PS.m;have:=(As hb).1;omega
  have Bh:=H.B6;simp only[BV.arr] at Bh;go_wp2_with (first|refine wpList_load_row rfl 30 _ rfl D rfl 30 _ (0,0) _ Bh Tryz.underlying30 rfl AF ?_|fail)
  refine CP.mono ?_;rintro e w6 ⟨vp,rfl,op,k6⟩;have szr:=EX.2.size;have H6:=H.keep k6;have D6:=EX.keep k6;have O6:=OR.keep k6;have op6:A8 w6 wr.heap.size vp (Ae AA b'):=op;clear CP Bh H EX OR k6 op;have rp:=op6.rd;obtain⟨ap,cp,rfl,-⟩:=id rp;by_cases hp0:(Ae AA b').length=0
  ·
   have hp1:((Ae AA b').length:Int)=0:=by omega
   go_wp2;go_ret;exact⟨_,lo,rfl,O6,by omega,D6⟩
  have hp1:¬((Ae AA b').length:Int)=0:=by omega
  have hpp:(1:Int)<=((Ae AA b').length:Int):=by omega
  go_wp2_with fail
  refine (C2 _ B c 40 D6.1 (by omega)).mono ?_;rintro e w7 ⟨t7,rfl,UA,g7⟩;have D7:Dr w w7 B c:=D6.step UA g7;have H7:=H6.far g7 (fun k hk=>by have:=Option.some.inj hk;omega);have O7:A8 w7 w.heap.size _ _:=World.ownsRow.kept O6 g7 (CU (fun q hq=>O6.ge q hq) hcl);have op7:A8 w7 wr.heap.size _ _:=World.ownsRow.kept op6 g7 (CU (fun q hq=>op6.ge q hq) (by omega));clear D6 H6 O6 op6 rp UA g7;cases t7;rotate_left
  ·
   go_wp2;go_ret;exact⟨_,lo,rfl,O7,by omega,D7⟩
  go_wp2_with fail
  refine (Ao _ B c _ D7.1 hpp).mono ?_;rintro e w8 ⟨y,rfl,y0,y1,xX,g8⟩;have D8:Dr w w8 B c:=D7.step xX g8;have H8:=H7.far g8 (fun k hk=>by have:=Option.some.inj hk;omega);have O8:A8 w8 w.heap.size _ _:=World.ownsRow.kept O7 g8 (CU (fun q hq=>O7.ge q hq) hcl);have op8:A8 w8 wr.heap.size _ _:=World.ownsRow.kept op7 g8 (CU (fun q hq=>op7.ge q hq) (by omega));clear D7 H7 O7 op7 xX g8;obtain⟨y',hy'⟩:=Int.eq_ofNat_of_zero_le y0;subst hy';have hyl:y'<(Ae AA b').length:=by omega
  obtain⟨a',c',e',hq⟩:=id op8.rd;simp only[Value.slice.injEq,true_and] at e';obtain⟨rfl,rfl⟩:=e';rcases hq with h0|⟨bp,uO,rfl,hbp,hcp⟩
  . exfalso;rw[h0] at hyl;simp at hyl
  have dp:=hcp y' hyl
  have hst:Dx (Ae AA b') ((Ae AA b').getD y' 0)=true:=JW (by
   rw[List.getD_eq_getElem?_getD,List.getElem?_eq_getElem hyl]
   exact List.getElem_mem hyl)
  have CS:=Ff w8 m D _ gD gY bs N AA b' ((Ae AA b').getD y' 0) H8 Lr hst;have pO:=RN.step hb hst;have F8:∀q,BG D ⟨.slice aW AA.length cW,.slice aP nb.AM.length cP,.slice aL nb.AQ.length cL,.slice aN nb.AH.length cN',.slice aX nb.AL.length cX,.slice aT nb.sn.length cT,.slice aF nb.fr.length cF,.slice aR nb.rws.length cR⟩ gD gY q->w.heap.size<=q:=fun q hq=>by have:=(H8.blk q hq).1;omega
  have hSt:∀q,(Value.slice xS lo.length xg).ownBlock=some q->q<w8.heap.size:=fun q hq=>(World.ownsRow.lt O8 q hq).2
  generalize (Ae AA b').getD y' 0=st at *;clear op8 hcp hbp Lr PS hpl hp0 hp1 hpp;go_wp2_with fail
  refine CS.mono ?_;rintro e w9 ⟨rfl,nv9,rv9,H9,T9⟩;have D9:=D8.turn T9 F8 hcl;have O9:=Ud O8 (fun q hq=>T9.block q (hSt q hq) (pR q hq).1)
  have SP9:∀q,(Value.slice xS lo.length xg).ownBlock=some q->¬BG D ⟨.slice aW AA.length cW,.slice aP nb.AM.length cP,.slice aL nb.AQ.length cL,.slice aN nb.AH.length cN',.slice aX nb.AL.length cX,.slice aT nb.sn.length cT,.slice aF nb.fr.length cF,.slice aR nb.rws.length cR⟩ nv9 rv9 q/\(q<bs\/N<=q):=fun q hq=>⟨fun hbq=>by
   rcases T9.news q hbq with h1|h1
   . exact (pR q hq).1 h1
   . have:=hSt q hq;omega,(pR q hq).2⟩
  clear CS D8 H8 O8 T9 dp pR hSt F8 hst RN;obtain⟨gD,rfl⟩:∃n,n=nv9:=⟨_,rfl⟩;obtain⟨gY,rfl⟩:∃n,n=rv9:=⟨_,rfl⟩;have kb10:AC w9 (w9.alloc (.cells #[.int .i64 st] 2)):=(AC.refl w9).alloc _;have ob10:A8 (w9.alloc (.cells #[.int .i64 st] 2)) w9.heap.size (.slice (some ⟨w9.heap.size,0,none⟩) 1 1) [st]:=World.ownsRow_lit w9 _ 1 (Nat.le_refl _) (by decide) rfl;have sz10:=D9.2.size;go_wp2_with (at_builtin;refine Fi rfl _ _ rfl w.heap.size _ _ rfl (O9.keep kb10) _ rfl [st] ob10.rd (by omega) (by simp) (by rw[AD];omega) ?_)
  intro u10 w10 O10 g10 q10;have H10:=(H9.keep kb10).kZ g10 (fun q hq=>SP9 q hq);have D10:Dr w w10 B c:=(D9.keep kb10).Ll g10 (fun q hq=>O9.ge q hq) hcl hB
  have SP10:∀q,u10.ownBlock=some q->¬BG D ⟨.slice aW AA.length cW,.slice aP nb.AM.length cP,.slice aL nb.AQ.length cL,.slice aN nb.AH.length cN',.slice aX nb.AL.length cX,.slice aT nb.sn.length cT,.slice aF nb.fr.length cF,.slice aR nb.rws.length cR⟩ gD gY q/\(q<bs\/N<=q):=fun q hq=>by
   rcases q10 with e|e
   . exact SP9 q (e.symm.trans hq)
   ·
    rw[e] at hq;have e2:=Option.some.inj hq;have s1:=AD w9 (.cells #[.int .i64 st] 2);exact⟨fun hbq=>by have:=(H9.blk q hbq).2;omega,.inr (by have:=H9.top;omega)⟩
  obtain⟨au10,xY,hu10,-⟩:=id O10.rd;subst hu10;clear O9 H9 D9 SP9 g10 q10 ob10 kb10;have lo10:(lo++[st]).length<=2*k+1:=by simp;omega
  generalize lo++[st]=lb at *;go_wp2_with fail
  refine (C2 _ B c 10 D10.1 (by omega)).mono ?_;rintro e w11 ⟨t11,rfl,kS,g11⟩;have D11:Dr w w11 B c:=D10.step kS g11;have H11:=H10.far g11 (fun k hk=>by have:=Option.some.inj hk;omega);have O11:A8 w11 w.heap.size _ _:=World.ownsRow.kept O10 g11 (CU (fun q hq=>O10.ge q hq) hcl);clear D10 H10 O10 kS g11;cases t11
  ·
   go_wp2;go_roundw;case rel=>exact⟨k+1,_,lb,gD,gY,_,rfl,by omega,by go_num,by omega,O11,SP10,H11,pO,D11⟩
   case measure=>simp[intOf];omega
  obtain⟨w12,hw12⟩:∃W:World,W=w11.alloc (.cells #[.int .i64 0,.int .i64 1,.int .i64 10,.int .i64 11,.int .i64 99] 2):=⟨_,rfl⟩;have k12:AC w11 w12:=by rw[hw12];exact (AC.refl w11).alloc _
  have z12:w11.heap.size<w12.heap.size:=by rw[hw12,AD];omega
  have h12:w12.heap[w11.heap.size]? = some (.cells #[.int .i64 0,.int .i64 1,.int .i64 10,.int .i64 11,.int .i64 99] 2 (0,0)):=by rw[hw12];exact heap_alloc_new _ _
  have D12:=D11.keep k12;have H12:=H11.keep k12;have O12:=O11.keep k12;have szA:=D11.2.size;clear D11 H11 O11 k12;go_wp2_with fail
  rw[<-hw12];refine (Ao _ B c 5 D12.1 (by omega)).mono ?_;rintro e w13 ⟨z,rfl,z0,z1,kT,g13⟩;have D13:Dr w w13 B c:=D12.step kT g13;have H13:=H12.far g13 (fun k hk=>by have:=Option.some.inj hk;omega);have O13:A8 w13 w.heap.size _ _:=World.ownsRow.kept O12 g13 (CU (fun q hq=>O12.ge q hq) hcl);have h13:=(g13.block w11.heap.size z12 (fun e=>by have:=Option.some.inj e;omega)).trans h12;obtain⟨z',hz'⟩:=Int.eq_ofNat_of_zero_le z0;subst hz';have hzl:z'<5:=by omega
  obtain⟨y,hy⟩:=Yo z' hzl;have dz:w13.cell? ⟨w11.heap.size,z',none⟩=some (.int .i64 y):=by rw[cell_of_row w13 _ _ _ _ _ h13];exact hy
  clear hw12 h12 h13 D12 H12 O12 kT g13 hy;generalize w11.heap.size=TB at *;have kb14:AC w13 (w13.alloc (.cells #[.int .i64 y] 2)):=(AC.refl w13).alloc _;have ob14:A8 (w13.alloc (.cells #[.int .i64 y] 2)) w13.heap.size (.slice (some ⟨w13.heap.size,0,none⟩) 1 1) [y]:=World.ownsRow_lit w13 _ 1 (Nat.le_refl _) (by decide) rfl;have sz14:=D13.2.size;go_wp2_with (at_builtin;refine Fi rfl _ _ rfl w.heap.size _ _ rfl (O13.keep kb14) _ rfl [y] ob14.rd (by omega) (by simp) (by rw[AD];omega) ?_)
  intro u14 w14 O14 g14 q14;have H14:=(H13.keep kb14).kZ g14 (fun q hq=>SP10 q hq);have D14:Dr w w14 B c:=(D13.keep kb14).Ll g14 (fun q hq=>O13.ge q hq) hcl hB
  have SP14:∀q,u14.ownBlock=some q->¬BG D ⟨.slice aW AA.length cW,.slice aP nb.AM.length cP,.slice aL nb.AQ.length cL,.slice aN nb.AH.length cN',.slice aX nb.AL.length cX,.slice aT nb.sn.length cT,.slice aF nb.fr.length cF,.slice aR nb.rws.length cR⟩ gD gY q/\(q<bs\/N<=q):=fun q hq=>by
   rcases q14 with e|e
   . exact SP10 q (e.symm.trans hq)
   ·
    rw[e] at hq;have e2:=Option.some.inj hq;have s1:=AD w13 (.cells #[.int .i64 y] 2);exact⟨fun hbq=>by have:=(H13.blk q hbq).2;omega,.inr (by have:=H13.top;omega)⟩
  obtain⟨au14,xZ,hu14,-⟩:=id O14.rd;subst hu14;clear O13 H13 D13 SP10 g14 q14 ob14 kb14;have lo14:(lb++[y]).length<=2*k+2:=by simp;omega
  generalize lb++[y]=ld at *;go_wp2;go_roundw;case rel=>exact⟨k+1,_,ld,gD,gY,_,rfl,by omega,by go_num,by omega,O14,SP14,H14,pO,D14⟩
  case measure=>simp[intOf];omega
theorem Pu (w:World)(a:Option Addr)(cap:Nat)(zs:List Int)(hb:Ms w w.heap.size a zs):
  Calls Tryz.prog 29 #[.slice a zs.length cap] w fun e w'=>∃v AA vs l,e = .returned (.tuple #[v,vs])/\Ic w' v AA/\(AA.length<=6/\∀i,i<AA.length->(AA.getD i []).length<=7)/\Rd w' vs l/\l.length<=60/\AC w w':=by
 obtain⟨i0,hi,hz0,hz1,hz2⟩:=info_parts Tryz.FL;go_enter Tryz.func29,Tryz.ntmps29
 go_wp2_with fail
 refine (TR _ a cap zs hb).mono ?_;rintro e w1 ⟨rfl,c1,k1⟩;have hcl:=c1.lt;go_wp2_with fail
 refine (Ig _ _ _ c1).mono ?_;rintro e w2 ⟨v,AA,rfl,rx,⟨q1,q2⟩,d2⟩;have hx:AA.length<=1048576:=by omega
 have hm:∀i,i<AA.length->(AA.getD i []).length<=1048576:=fun i hi=>by have:=q2 i hi;omega
 obtain⟨av,cv,hv,-⟩:=id rx.rd;subst hv;have z2:=d2.2.size;go_wp2_with fail
 refine (Jw _ _ _ d2.1 _ AA rx.rd hx hm).mono ?_;rintro e w3 ⟨vs,l,rfl,o3,l3,d3⟩;have rx3:=rx.kept d3.2 hcl;have D3:Dr w1 w3 w.heap.size w.heap.size:=d2.step d3.1 d3.2;have z3:=d3.2.size;obtain⟨aS,cS,hs,-⟩:=id o3.rd;subst hs;clear rx;go_wp2_with fail
 refine (C2 _ _ _ 40 D3.1 (by omega)).mono ?_;rintro e w4 ⟨t,rfl,Xo,g4⟩;have rx4:=rx3.kept g4 hcl;have D4:Dr w1 w4 w.heap.size w.heap.size:=D3.step Xo g4;have o4:A8 w4 w2.heap.size _ _:=World.ownsRow.kept o3 g4 (CU (fun q hq=>o3.ge q hq) (by omega));clear rx3 D3 o3 Xo g4 d3;cases t
 ·
  have KZ:=D4.fe k1 (Nat.le_refl _);go_wp2;go_ret2
  exact⟨_,AA,_,l,rfl,rx4.rd,⟨q1,q2⟩,o4.rd,l3,KZ⟩
 go_wp2_with fail
 refine (Ao _ _ _ 2 D4.1 (by omega)).mono ?_;rintro e w5 ⟨x,rfl,x0,x1,KX,g5⟩;have rx5:=rx4.kept g5 hcl;have D5:Dr w1 w5 w.heap.size w.heap.size:=D4.step KX g5;have KZ:=D5.fe k1 (Nat.le_refl _);clear rx4 D4 o4 KX g5;obtain⟨n,hn⟩:∃n:Nat,40+x=(n:Int):=⟨(40+x).toNat,by omega⟩;have i1:IntKind.i64.wrap (40+x)=(n:Int):=by rw[IntKind.wrap_i64];omega
 have hn2:n<=41:=by omega
 clear hn;go_wp2_with (at_make;refine wpList_make_full _ rfl _ _ 26 rfl w.heap.size 2 i0 (.int .i64 0) 1 Tryz.underlying26 hi hz0 hz1 .i64 .i64 _ _ n rfl rfl rfl rfl (by rw[hz2];omega) (by unfold maxLen;omega) KZ.size ?_;intro w6 hown hgrow)
 have O6:A8 w6 w.heap.size (.slice (some ⟨w5.heap.size,0,none⟩) n n) (List.replicate n 0):=by
  unfold A8;rw[Nat.mul_one,show (Value.int .i64 0).cells=#[.int .i64 0] from rfl,toList_madeCells_one] at hown
  simpa using hown
 have K6:AC w5 w6:=(AC.refl w5).grown hgrow (by simp);go_wp2;go_ret2
 exact⟨_,AA,_,List.replicate n 0,rfl,rx5.rd.keep K6,⟨q1,q2⟩,O6.rd,by simp;omega,KZ.trans K6⟩
end Go.Proofs.YtgakfkjjkobpiaaGreat
