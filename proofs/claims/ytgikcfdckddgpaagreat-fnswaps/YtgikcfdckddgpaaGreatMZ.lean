/- Gathered texts. -/
import Derived.Test.YtgikcfdckddgpaaGreatMY
import Derived.Laws.Tables
set_option maxRecDepth 100000
set_option maxHeartbeats 8000000
namespace Go.Proofs.YtgikcfdckddgpaaGreat
open Go.ChangeShapes Go.WideShapes Go.ChangeAt Go.RowKit
theorem l15Possible_any (w:World)(v:BV)(dss:List (List Dd))(b:Bd)(h:RdBd w v dss b)(hp:PsOk dss b):
  Calls Tryz.prog 135 #[v.agg] w fun e w'=>∃v',e = .returned v'∧Own w' w.heap.size v' (possM dss b)∧Keep w w':=by
 have C:=fun (W:World) (kW:Keep w W) (c:Nat) (hc:c<dss.length)=>l15Can_any W v dss b c (h.keep kW) hp hc
 obtain⟨i0,hi,hz0,hz1,hz2⟩:=info_parts Tryz.infoI;have HN:=Lib.hid h.N;have hm:=hp.m;have hpn:=Lib.hid hp.n;obtain⟨aW,aP,aL,aN,aX,aS,aF,aR,cW,cP,cL,cN,cX,cS,cF,cR,rfl⟩:=h.shapes;clear h hp;go_enter Tryz.func135,Tryz.ntmps135
 go_upto_region 1 with fail
 obtain⟨wB,hwB⟩:∃W:World,W=w.alloc (.cells #[.slice aW dss.length cW,.slice aP b.plc.length cP,.slice aL b.lst.length cL,.slice aN b.nts.length cN,.slice aX b.nxt.length cX,.slice aS b.sn.length cS,.slice aF b.fr.length cF,.slice aR b.rws.length cR] 94):=⟨_,rfl⟩;have kB:Keep w wB:=by rw[hwB];exact (Keep.refl w).alloc _
 have sB:wB.heap.size=w.heap.size+1:=by rw[hwB];exact heap_size _ _
 have BC:Hid (∀(W:World),Keep wB W→W.cell? ⟨w.heap.size,0,none⟩=some (.slice aW dss.length cW)∧W.cell? ⟨w.heap.size,1,none⟩=some (.slice aP b.plc.length cP)∧W.cell? ⟨w.heap.size,2,none⟩=some (.slice aL b.lst.length cL)∧W.cell? ⟨w.heap.size,3,none⟩=some (.slice aN b.nts.length cN)∧W.cell? ⟨w.heap.size,4,none⟩=some (.slice aX b.nxt.length cX)∧W.cell? ⟨w.heap.size,5,none⟩=some (.slice aS b.sn.length cS)∧W.cell? ⟨w.heap.size,6,none⟩=some (.slice aF b.fr.length cF)∧W.cell? ⟨w.heap.size,7,none⟩=some (.slice aR b.rws.length cR)):=Lib.hid (by
  rw[hwB]
  exact fun W k=>⟨box_cell k 0,box_cell k 1,box_cell k 2,box_cell k 3,box_cell k 4,box_cell k 5,box_cell k 6,box_cell k 7⟩)
 rw[←hwB];clear hwB;have SB:=Lib.hid sB;have lB:w.heap.size<wB.heap.size:=by omega
 clear sB;have hown0:Own (wB.alloc (.cells #[] 2)) wB.heap.size (.slice (some ⟨wB.heap.size,0,none⟩) 0 0) []:=World.ownsRow_lit wB #[] 0 (Nat.le_refl _) (by decide) rfl;go_wp2;go_loopw [3,4] (fun v0 i wr=>∃(k:Nat) (v:Value),v=v0∧k≤dss.length∧i = .int .i64 k∧Own wr wB.heap.size v (canK dss b k)∧Keep wB wr) (fun _ i _=>dss.length-(intOf i).toNat)
 case atStart=>exact⟨0,_,rfl,Nat.zero_le _,rfl,hown0,(Keep.refl _).alloc _⟩
 case round=>
  obtain⟨k,v,rfl,hk,rfl,ho,hK⟩:=hrel;clear hown0;obtain⟨b0,b1,b2,b3,b4,b5,b6,b7⟩:=BC.out _ hK;by_cases hlt:k<dss.length
  ·
   have i1:(0:Int)≤(k:Int):=Int.natCast_nonneg _;have i2:(k:Int)<(dss.length:Int):=by omega
   go_wp2_with fail
   refine (C _ (kB.trans hK) k hlt).mono ?_;rintro e w2 ⟨rfl,k2⟩;have hK2:=hK.trans k2;have hml:(canK dss b k).length≤k:=canK_len _ _ _;have hsz:=hK2.size;replace ho:=ho.keep k2;clear b0 b1 b2 b3 b4 b5 b6 b7;cases hc:canM dss b k
   ·
    have HM:Hid (canK dss b (k+1)=canK dss b k):=Lib.hid (canK_miss hc);go_wp2;go_roundw;case rel=>exact⟨k+1,_,rfl,by omega,by go_num,by rw[HM.out];exact ho,hK2⟩
    case measure=>simp[intOf];omega
   ·
    have HM:Hid (canK dss b (k+1)=canK dss b k++[(k:Int)]):=Lib.hid (canK_hit hc);go_wp2_with (at_builtin;refine wpList_append_own _ rfl _ _ 25 rfl wB.heap.size 2 i0 (.int .i64 0) 1 8 Tryz.underlying25 hi hz0 hz1 hz2 rfl (by decide) _ _ _ rfl (World.ownsRow.alloc ho _) ⟨_,0,none⟩ 1 1 [.int .i64 k] rfl rfl ?c1 ?c2 ?c3 ?c4 ?c5 ?_)
    case c1=>
     intro j u hj
     match j,hj with
     | 0,hj=>simp at hj;subst hj;simp[Addr.add]
    case c2=>intro u hu;simp at hu;subst hu;rfl
    case c3=>unfold maxLen;omega
    case c4=>omega
    case c5=>simp;omega
    intro v' w1 hown' hgrow _;have hK1:Keep wB w1:=(hK2.alloc _).grown hgrow ho.ge;clear hgrow;go_wp2;go_roundw;case rel=>exact⟨k+1,_,rfl,by omega,by go_num,by rw[HM.out];exact own_hit hown',hK1⟩
    case measure=>simp[intOf];omega
  ·
   obtain rfl:k=dss.length:=by omega
   have HP:Hid (canK dss b dss.length++ntK b dss.length=possM dss b):=Lib.hid (poss_same dss b);have hml:(canK dss b dss.length).length≤dss.length:=canK_len _ _ _;generalize canK dss b dss.length=CK at *;have ho0:Own wr wB.heap.size v (CK++ntK b 0):=by rw[show ntK b 0=[] from rfl,List.append_nil];exact ho
   clear ho hk hlt;go_wp2;clear b0 b1 b2 b3 b4 b5 b6 b7;go_loopw [3,5] (fun v0 i wr=>∃(k:Nat) (v:Value),v=v0∧k≤dss.length∧i = .int .i64 k∧Own wr wB.heap.size v (CK++ntK b k)∧Keep wB wr) (fun _ i _=>dss.length-(intOf i).toNat)
   case atStart=>exact⟨0,_,rfl,Nat.zero_le _,rfl,ho0,hK⟩
   case round=>
    clear hK ho0;obtain⟨k,v,rfl,hk,rfl,ho,hK⟩:=hrel;obtain⟨b0,b1,b2,b3,b4,b5,b6,b7⟩:=BC.out _ hK;by_cases hlt:k<dss.length
    ·
     have i1:(0:Int)≤(k:Int):=Int.natCast_nonneg _;have i2:(k:Int)<(dss.length:Int):=by omega
     have hkn:k<b.nts.length:=by rw[hpn.out];exact hlt
     have i3:(k:Int)<(b.nts.length:Int):=by omega
     have hN:=HN.out.keep (kB.trans hK);obtain⟨a',c',he',hN⟩:=hN;simp only[Value.slice.injEq,true_and] at he';obtain⟨rfl,rfl⟩:=he';rcases hN with h0|⟨bn,on,rfl,hbn,hcn'⟩
     · exfalso;rw[h0] at hkn;simp at hkn
     obtain⟨vn,d3,r3⟩:=hcn' k hkn;obtain⟨an,cn,rfl,-⟩:=r3;have hml2:=ntK_len b k;have hml3:(CK++ntK b k).length≤dss.length+k:=by rw[List.length_append];omega
     have hsz:=hK.size;have HH:0<(b.nts.getD k []).length→Hid (ntK b (k+1)=ntK b k++[10+(k:Int)]):=fun h=>Lib.hid (ntK_hit h)
     have HZ:¬ 0<(b.nts.getD k []).length→Hid (ntK b (k+1)=ntK b k):=fun h=>Lib.hid (ntK_miss h)
     generalize b.nts.getD k []=ns at *;have i4:IntKind.i64.wrap (10+(k:Int))=10+(k:Int):=by rw[IntKind.wrap_i64];omega
     clear hcn';by_cases hz:0<ns.length
     ·
      have HM:Hid (CK++ntK b (k+1)=(CK++ntK b k)++[10+(k:Int)]):=Lib.hid (by rw[(HH hz).out,List.append_assoc]);have i5:(0:Int)<(ns.length:Int):=by omega
      clear HH HZ;generalize CK++ntK b k=PK at *;go_wp2_with (at_builtin;refine wpList_append_own _ rfl _ _ 25 rfl wB.heap.size 2 i0 (.int .i64 0) 1 8 Tryz.underlying25 hi hz0 hz1 hz2 rfl (by decide) _ _ _ rfl (World.ownsRow.alloc ho _) ⟨_,0,none⟩ 1 1 [.int .i64 (10+(k:Int))] rfl rfl ?c1 ?c2 ?c3 ?c4 ?c5 ?_)
      case c1=>
       intro j u hj
       match j,hj with
       | 0,hj=>simp at hj;subst hj;simp[Addr.add]
      case c2=>intro u hu;simp at hu;subst hu;rfl
      case c3=>unfold maxLen;omega
      case c4=>omega
      case c5=>simp;omega
      intro v' w1 hown' hgrow _;have hK1:Keep wB w1:=(hK.alloc _).grown hgrow ho.ge;clear hgrow b0 b1 b2 b3 b4 b5 b6 b7;go_wp2;go_roundw;case rel=>exact⟨k+1,_,rfl,by omega,by go_num,by rw[HM.out];exact own_hit hown',hK1⟩
      case measure=>simp[intOf];omega
     ·
      have HM:=HZ hz;have i5:¬((0:Int)<(ns.length:Int)):=by omega
      clear HH HZ;go_wp2;clear b0 b1 b2 b3 b4 b5 b6 b7;go_roundw;case rel=>exact⟨k+1,_,rfl,by omega,by go_num,by rw[HM.out];exact ho,hK⟩
      case measure=>simp[intOf];omega
    ·
     obtain rfl:k=dss.length:=by omega
     go_wp2;go_ret;exact⟨_,rfl,by rw[←HP.out];exact ho.base_le (by have:=SB.out;omega),kB.trans hK⟩
def possB (dss:List (List Dd))(b:Bd):List Int:=if boardB dss b=true then possM dss b else []
theorem ps_of {dss:List (List Dd)}{b:Bd}(h:boardB dss b=true):PsOk dss b:=by
 have S:=Shp.of h;have u:=workB_useR S.work;refine⟨S.nts,S.nxt,by omega,fun c hc=>?_⟩;have h1:=board_clerk h hc;have h2:=u.2 c hc;simp only[okL,Bool.and_eq_true,decide_eq_true_eq] at h2;have h3:=S.nl c;exact⟨h1.1,h1.2,by omega,by omega⟩
theorem specPossible_any (w:World)(v:BV)(dss:List (List Dd))(b:Bd)(h:RdBd w v dss b)(hs:SzBd dss b):
  Calls Tryz.prog 82 #[v.agg] w fun e w'=>∃v',e = .returned v'∧Own w' w.heap.size v' (possB dss b)∧Keep w w':=by
 have C:=fun (W:World) (kW:Keep w W)=>specBoardOk_any W v dss b (h.keep kW) hs
 have CP:=fun (W:World) (kW:Keep w W) (hb:boardB dss b=true)=>l15Possible_any W v dss b (h.keep kW) (ps_of hb)
 obtain⟨aW,aP,aL,aN,aX,aS,aF,aR,cW,cP,cL,cN,cX,cS,cF,cR,rfl⟩:=h.shapes;have BC:Hid (∀(W:World),Keep (w.alloc (.cells #[.slice aW dss.length cW,.slice aP b.plc.length cP,.slice aL b.lst.length cL,.slice aN b.nts.length cN,.slice aX b.nxt.length cX,.slice aS b.sn.length cS,.slice aF b.fr.length cF,.slice aR b.rws.length cR] 94)) W→W.cell? ⟨w.heap.size,0,none⟩=some (.slice aW dss.length cW)∧W.cell? ⟨w.heap.size,1,none⟩=some (.slice aP b.plc.length cP)∧W.cell? ⟨w.heap.size,2,none⟩=some (.slice aL b.lst.length cL)∧W.cell? ⟨w.heap.size,3,none⟩=some (.slice aN b.nts.length cN)∧W.cell? ⟨w.heap.size,4,none⟩=some (.slice aX b.nxt.length cX)∧W.cell? ⟨w.heap.size,5,none⟩=some (.slice aS b.sn.length cS)∧W.cell? ⟨w.heap.size,6,none⟩=some (.slice aF b.fr.length cF)∧W.cell? ⟨w.heap.size,7,none⟩=some (.slice aR b.rws.length cR)):=Lib.hid (fun W k=>⟨box_cell k 0,box_cell k 1,box_cell k 2,box_cell k 3,box_cell k 4,box_cell k 5,box_cell k 6,box_cell k 7⟩);cases hb:boardB dss b
 ·
  have HE:Hid (possB dss b=[]):=Lib.hid (by rw[possB,hb];rfl);rw[hb] at C;clear CP;go_enter Tryz.func82,Tryz.ntmps82
  go_wp2_with fail
  refine (C _ ((Keep.refl w).alloc _)).mono ?_;rintro e w1 ⟨rfl,k1⟩;have K1:=((Keep.refl w).alloc _).trans k1;have s1:=K1.size;have o0:Own (w1.alloc (.cells #[] 2)) w1.heap.size (.slice (some ⟨w1.heap.size,0,none⟩) 0 0) []:=World.ownsRow_lit w1 #[] 0 (Nat.le_refl _) (by decide) rfl;go_wp2;go_ret;exact⟨_,rfl,by rw[HE.out];exact o0.base_le s1,K1.alloc _⟩
 ·
  have HE:Hid (possB dss b=possM dss b):=Lib.hid (by rw[possB,if_pos hb]);have CP:=fun (W:World) (kW:Keep w W)=>CP W kW hb
  rw[hb] at C;go_enter Tryz.func82,Tryz.ntmps82
  go_wp2_with fail
  refine (C _ ((Keep.refl w).alloc _)).mono ?_;rintro e w1 ⟨rfl,k1⟩;have K1:=((Keep.refl w).alloc _).trans k1;have s1:=K1.size;obtain⟨b0,b1,b2,b3,b4,b5,b6,b7⟩:=BC.out _ k1;clear BC C hb;go_wp2_with fail
  refine (CP _ K1).mono ?_;rintro e w2 ⟨v2,rfl,o2,k2⟩;go_wp2;go_ret;exact⟨_,rfl,by rw[HE.out];exact o2.base_le s1,K1.trans k2⟩
def stepB (dss:List (List Dd))(b:Bd)(s:Int):Bd:=if isB (possM dss b) s=true then stepM dss (eventsB dss) b s else b
theorem poss_len {dss:List (List Dd)}{b:Bd}(hb:boardB dss b=true):(possM dss b).length≤1048576:=by
 have PS:=ps_of hb;rw[←poss_same,List.length_append];have:=canK_len dss b dss.length;have:=ntK_len b dss.length;have:=PS.m;have:=(workB_useR (board_all hb).1).1;omega
theorem specStepped_right (w:World)(bv:BV)(dss:List (List Dd))(b:Bd)(s:Int)(h:RdBd w bv dss b)(hz:SzBd dss b)(hb:boardB dss b=true):
  Calls Tryz.prog 83 #[bv.agg,.int .i64 s] w fun e w'=>∃bv' nv rv bs N,e = .returned (.tuple #[BV.agg bv',.bool (isB (possM dss b) s)])∧OwnVal w' w.heap.size bv' nv rv bs N dss (stepB dss b s)∧w.heap.size≤bs∧Keep w w':=by
 have C:=fun (W:World) (kW:Keep w W)=>specBoardOk_any W bv dss b (h.keep kW) hz
 rw[hb] at C;have CC:=fun (W:World) (kW:Keep w W)=>l14Copy_any W bv dss b (h.keep kW) hb
 have CP:=fun (W:World) (kW:Keep w W)=>l15Possible_any W bv dss b (h.keep kW) (ps_of hb)
 have hpl:=poss_len hb;obtain⟨aW,aP,aL,aN,aX,aT,aF,aR,cW,cP,cL,cQ,cX,cT,cF,cR,rfl⟩:=h.shapes;go_enter Tryz.func83,Tryz.ntmps83
 go_upto_region 1 with fail
 obtain⟨w1,hw1⟩:∃W:World,W=(w.alloc (.cells #[.slice aW dss.length cW,.slice aP b.plc.length cP,.slice aL b.lst.length cL,.slice aN b.nts.length cQ,.slice aX b.nxt.length cX,.slice aT b.sn.length cT,.slice aF b.fr.length cF,.slice aR b.rws.length cR] 94)).alloc (.cells #[nilS,nilS,nilS,nilS,nilS,nilS,nilS,nilS] 94):=⟨_,rfl⟩;have K1:Keep w w1:=by rw[hw1];exact ((Keep.refl w).alloc _).alloc _
 have s1:w1.heap.size=w.heap.size+1+1:=by rw[hw1,heap_size,heap_size]
 have hB1:w1.heap[w.heap.size]? = some (.cells #[.slice aW dss.length cW,.slice aP b.plc.length cP,.slice aL b.lst.length cL,.slice aN b.nts.length cQ,.slice aX b.nxt.length cX,.slice aT b.sn.length cT,.slice aF b.fr.length cF,.slice aR b.rws.length cR] 94 (0,0)):=by rw[hw1];exact box_heap ((Keep.refl _).alloc _)
 have hR1:w1.heap[w.heap.size+1]? = some (.cells #[nilS,nilS,nilS,nilS,nilS,nilS,nilS,nilS] 94 (0,0)):=by rw[hw1,←heap_size w (.cells #[.slice aW dss.length cW,.slice aP b.plc.length cP,.slice aL b.lst.length cL,.slice aN b.nts.length cQ,.slice aX b.nxt.length cX,.slice aT b.sn.length cT,.slice aF b.fr.length cF,.slice aR b.rws.length cR] 94)];exact heap_alloc_new _ _
 rw[←hw1];clear hw1;have s2:w.heap.size+1<w1.heap.size:=by omega
 clear s1;go_wp2_with (first|refine wpList_load_row rfl 94 _ rfl w.heap.size rfl 94 _ (0,0) _ hB1 Tryz.underlying94 rfl board_info ?_|fail)
 refine (C _ K1).mono ?_;rintro e w3 ⟨rfl,k3⟩;have hB3:=(Below.block k3 w.heap.size (by omega)).trans hB1;have hR3:=(Below.block k3 (w.heap.size+1) s2).trans hR1;have K3:=K1.trans k3;have s3:=k3.size;clear C hB1 hR1 k3;go_wp2_with (first|refine wpList_load_row rfl 94 _ rfl w.heap.size rfl 94 _ (0,0) _ hB3 Tryz.underlying94 rfl board_info ?_|fail)
 refine (CC _ K3).mono ?_;rintro e w4 ⟨bv2,nv,rv,bs,N,rfl,hV,hbs,k4⟩;have s4:=k4.size;obtain⟨aW2,aP2,aL2,aN2,aX2,aT2,aF2,aR2,cW2,cP2,cL2,cQ2,cX2,cT2,cF2,cR2,rfl⟩:=(hV.box s4).rd.shapes;have H5:=hV.box s4;have hbs2:w.heap.size≤bs:=by omega
 have hB4:=(Below.block k4 w.heap.size (by omega)).trans hB3;have hR4:=(Below.block k4 (w.heap.size+1) (by omega)).trans hR3;clear hB3 hR3 CC;go_upto_region 4 with fail
 obtain⟨w5,hw5⟩:∃W:World,W=w4.alloc (.cells #[.slice aW2 dss.length cW2,.slice aP2 b.plc.length cP2,.slice aL2 b.lst.length cL2,.slice aN2 b.nts.length cQ2,.slice aX2 b.nxt.length cX2,.slice aT2 b.sn.length cT2,.slice aF2 b.fr.length cF2,.slice aR2 b.rws.length cR2] 94):=⟨_,rfl⟩;have k5:Keep w4 w5:=by rw[hw5];exact (Keep.refl w4).alloc _
 replace H5:OwnBd w5 w3.heap.size w4.heap.size ⟨.slice aW2 dss.length cW2,.slice aP2 b.plc.length cP2,.slice aL2 b.lst.length cL2,.slice aN2 b.nts.length cQ2,.slice aX2 b.nxt.length cX2,.slice aT2 b.sn.length cT2,.slice aF2 b.fr.length cF2,.slice aR2 b.rws.length cR2⟩ nv rv bs N dss b:=by rw[hw5];exact H5
 rw[←hw5];clear hw5 hV;have K5:=(K3.trans k4).trans k5;have hB5:=(Below.block k5 w.heap.size (by omega)).trans hB4;have hR5:=(Below.block k5 (w.heap.size+1) (by omega)).trans hR4;have m0:w.heap.size+1<w3.heap.size:=by omega
 have D0:w3.heap.size≤w4.heap.size:=s4;have s5:=k5.size;generalize w3.heap.size=m at *;generalize hD:w4.heap.size=D at *;clear hD hB4 hR4 k4 k5 K3 K1;go_wp2_with (first|refine wpList_load_row rfl 94 _ rfl w.heap.size rfl 94 _ (0,0) _ hB5 Tryz.underlying94 rfl board_info ?_|fail)
 refine (CP _ K5).mono ?_;rintro e w6 ⟨vp,rfl,op,k6⟩;have H6:=H5.keep k6;have hR6:=(Below.block k6 (w.heap.size+1) (by omega)).trans hR5;have K6:=K5.trans k6;clear CP hB5 hR5 H5;obtain⟨ap,cp,rfl,-⟩:=id op.rd;go_wp2_with fail
 refine (l8Is_any _ _ _ op.rd hpl s).mono ?_;rintro e w7 ⟨rfl,rfl⟩;clear op;cases hp:isB (possM dss b) s
 ·
  have HS:Hid (stepB dss b s=b):=Lib.hid (by unfold stepB;rw[hp];simp);have HP:=Lib.hid hp;clear hp;have hDw:=H6.heapD;have hRw:=hR6;simp only[BV.arr] at hDw;have HG:=Lib.hid (grown_row3 w7 (w.heap.size+1) #[.slice aW2 dss.length cW2,.slice aP2 b.plc.length cP2,.slice aL2 b.lst.length cL2,.slice aN2 b.nts.length cQ2,.slice aX2 b.nxt.length cX2,.slice aT2 b.sn.length cT2,.slice aF2 b.fr.length cF2,.slice aR2 b.rws.length cR2]);have HZ:=Lib.hid (setRow_heap w7 (w.heap.size+1) _ #[.slice aW2 dss.length cW2,.slice aP2 b.plc.length cP2,.slice aL2 b.lst.length cL2,.slice aN2 b.nts.length cQ2,.slice aX2 b.nxt.length cX2,.slice aT2 b.sn.length cT2,.slice aF2 b.fr.length cF2,.slice aR2 b.rws.length cR2] _ _ hRw);have hNot:∀q,some (w.heap.size+1)=some q→q<m∧(q<bs∨N≤q):=fun q hq=>by have:=Option.some.inj hq;omega
  have HO:=Lib.hid (((H6.far HG.out hNot).val).base_le (show w.heap.size≤m by omega));have HKK:=Lib.hid ((K6:Keep w w7).grown HG.out (fun q hq=>by have:=Option.some.inj hq;omega));go_wp2_with (first|refine wpList_load_row rfl 94 _ rfl D rfl 94 _ (0,0) _ hDw Tryz.underlying94 rfl board_info ?_|refine wpList_store_row rfl 94 _ _ rfl (w.heap.size+1) _ rfl rfl 94 _ hRw board_info rfl (by simp[Value.oneCell']) ?_|fail)
  refine bodyPost_ret (results_row_tmp (by rfl) _ _ (w.heap.size+1) _ _ (0,0) _ (.bool false) rfl HZ.out rfl Tryz.underlying94 rfl board_info) rfl ?_;exact⟨⟨.slice aW2 dss.length cW2,.slice aP2 b.plc.length cP2,.slice aL2 b.lst.length cL2,.slice aN2 b.nts.length cQ2,.slice aX2 b.nxt.length cX2,.slice aT2 b.sn.length cT2,.slice aF2 b.fr.length cF2,.slice aR2 b.rws.length cR2⟩,_,_,bs,N,by rw[HP.out],by rw[HS.out];exact HO.out,hbs2,HKK.out⟩
 ·
  have HS:Hid (stepB dss b s=stepM dss (eventsB dss) b s):=Lib.hid (by unfold stepB;rw[if_pos hp]);have HP:=Lib.hid hp;go_wp2_with fail
  refine (l15Step_any _ m D _ nv rv bs N dss b s H6 hb hp).mono ?_;rintro e w8 ⟨rfl,nv8,rv8,H8,T8⟩;have TL:=T8.low (m:=m) (by have:=H6.base;omega) (fun g hg=>(H6.blk g hg).1);have K8:Keep w w8:=Below.trans K6 (Below.mono TL (by omega));have hR8:=(Below.block TL (w.heap.size+1) (by omega)).trans hR6;clear H6 T8 TL K6 hR6 hp;obtain⟨nb,hnb⟩:∃nb,nb=stepM dss (eventsB dss) b s:=⟨_,rfl⟩;rw[←hnb] at H8;replace HS:Hid (stepB dss b s=nb):=Lib.hid (by rw[HS.out,hnb]);clear hnb;have hDw:=H8.heapD;have hRw:=hR8;simp only[BV.arr] at hDw;have HG:=Lib.hid (grown_row3 w8 (w.heap.size+1) #[.slice aW2 dss.length cW2,.slice aP2 b.plc.length cP2,.slice aL2 b.lst.length cL2,.slice aN2 b.nts.length cQ2,.slice aX2 b.nxt.length cX2,.slice aT2 b.sn.length cT2,.slice aF2 b.fr.length cF2,.slice aR2 b.rws.length cR2]);have HZ:=Lib.hid (setRow_heap w8 (w.heap.size+1) _ #[.slice aW2 dss.length cW2,.slice aP2 b.plc.length cP2,.slice aL2 b.lst.length cL2,.slice aN2 b.nts.length cQ2,.slice aX2 b.nxt.length cX2,.slice aT2 b.sn.length cT2,.slice aF2 b.fr.length cF2,.slice aR2 b.rws.length cR2] _ _ hRw);have hNot:∀q,some (w.heap.size+1)=some q→q<m∧(q<bs∨N≤q):=fun q hq=>by have:=Option.some.inj hq;omega
  have HO:=Lib.hid (((H8.far HG.out hNot).val).base_le (show w.heap.size≤m by omega));have HKK:=Lib.hid ((K8:Keep w w8).grown HG.out (fun q hq=>by have:=Option.some.inj hq;omega));go_wp2_with (first|refine wpList_load_row rfl 94 _ rfl D rfl 94 _ (0,0) _ hDw Tryz.underlying94 rfl board_info ?_|refine wpList_store_row rfl 94 _ _ rfl (w.heap.size+1) _ rfl rfl 94 _ hRw board_info rfl (by simp[Value.oneCell']) ?_|fail)
  refine bodyPost_ret (results_row_tmp (by rfl) _ _ (w.heap.size+1) _ _ (0,0) _ (.bool true) rfl HZ.out rfl Tryz.underlying94 rfl board_info) rfl ?_;exact⟨⟨.slice aW2 dss.length cW2,.slice aP2 b.plc.length cP2,.slice aL2 b.lst.length cL2,.slice aN2 b.nts.length cQ2,.slice aX2 b.nxt.length cX2,.slice aT2 b.sn.length cT2,.slice aF2 b.fr.length cF2,.slice aR2 b.rws.length cR2⟩,_,_,bs,N,by rw[HP.out],by rw[HS.out];exact HO.out,hbs2,HKK.out⟩
theorem specRan_right (w:World)(v vs:Value)(dss:List (List Dd))(steps:List Int)(h:RdW w v dss)(hs:Rd w vs steps)(hb:workB dss=true)(hl:steps.length≤40)(hx:dss.length≤1048576)(hm:∀i,i<dss.length→(dss.getD i []).length≤1048576):
  Calls Tryz.prog 138 #[v,vs] w fun e w'=>∃bv nv rv bs N,e = .returned (.tuple #[bv.agg,.bool true])∧OwnVal w' w.heap.size bv nv rv bs N dss (runM dss (eventsB dss) (newM dss) steps)∧Keep w w':=by
 have C:=fun (W:World) (kW:Keep w W)=>specWorkOk_any W v dss (h.keep kW) hx hm
 rw[hb] at C;have HS:=Lib.hid hs;obtain⟨aS,cS,rfl,-⟩:=hs;have j1:¬((40:Int)<(steps.length:Int)):=by omega
 have j1n:¬(40<steps.length):=by omega
 go_enter Tryz.func138,Tryz.ntmps138
 go_wp2_with fail
 refine (C _ ((Keep.refl w).alloc _)).mono ?_;rintro e w1 ⟨rfl,k1⟩;have hR0:=box_heap k1;have K1:=((Keep.refl w).alloc _).trans k1;have s1:=k1.size;rw[heap_size] at s1;clear C k1;go_wp2_with fail
 refine (l14New_any _ _ _ (h.keep K1) hb).mono ?_;rintro e w2 ⟨bv,nv,rv,bs,N,rfl,hV,hbs,k2⟩;obtain⟨aW,aP,aL,aN,aX,aT,aF,aR,cW,cP,cL,cN',cX,cT,cF,cR,rfl⟩:=(hV.box k2.size).rd.shapes;have H3:=hV.box k2.size;have s2:=k2.size;have K2:=K1.trans k2;have hR2:=(Below.block k2 w.heap.size (by omega)).trans hR0;have R0:Run dss (newM dss):=Run.new hb;have HB0:Hid (runM dss (eventsB dss) (newM dss) (steps.take 0)=newM dss):=Lib.hid rfl;generalize hNM:newM dss=nb at *;go_upto_region 4 with fail
 obtain⟨w3,hw3⟩:∃W:World,W=w2.alloc (.cells #[.slice aW dss.length cW,.slice aP nb.plc.length cP,.slice aL nb.lst.length cL,.slice aN nb.nts.length cN',.slice aX nb.nxt.length cX,.slice aT nb.sn.length cT,.slice aF nb.fr.length cF,.slice aR nb.rws.length cR] 94):=⟨_,rfl⟩;have k3:Keep w2 w3:=by rw[hw3];exact (Keep.refl w2).alloc _
 have H3:OwnBd w3 w1.heap.size w2.heap.size ⟨.slice aW dss.length cW,.slice aP nb.plc.length cP,.slice aL nb.lst.length cL,.slice aN nb.nts.length cN',.slice aX nb.nxt.length cX,.slice aT nb.sn.length cT,.slice aF nb.fr.length cF,.slice aR nb.rws.length cR⟩ nv rv bs N dss nb:=by rw[hw3];exact H3
 rw[←hw3];clear hw3 hV hR0;have K3:=K2.trans k3;have hR3:=(Below.block k3 w.heap.size (by omega)).trans hR2;have m0:w.heap.size<w1.heap.size:=by omega
 have D0:w.heap.size≠w2.heap.size:=by omega
 generalize w1.heap.size=m at *;generalize hD:w2.heap.size=D at *;have HNM:=Lib.hid hNM;clear hNM hD k2 k3 K1 K2 hR2;go_wp2;go_loopw [7] (fun i wr=>∃(k:Nat) (nv' rv':List Value) (b':Bd),k≤steps.length∧i = .int .i64 k∧OwnBd wr m D ⟨.slice aW dss.length cW,.slice aP nb.plc.length cP,.slice aL nb.lst.length cL,.slice aN nb.nts.length cN',.slice aX nb.nxt.length cX,.slice aT nb.sn.length cT,.slice aF nb.fr.length cF,.slice aR nb.rws.length cR⟩ nv' rv' bs N dss b'∧Hid (b'=runM dss (eventsB dss) nb (steps.take k))∧Run dss b'∧TurnB w3 wr (blkB D ⟨.slice aW dss.length cW,.slice aP nb.plc.length cP,.slice aL nb.lst.length cL,.slice aN nb.nts.length cN',.slice aX nb.nxt.length cX,.slice aT nb.sn.length cT,.slice aF nb.fr.length cF,.slice aR nb.rws.length cR⟩ nv rv) (blkB D ⟨.slice aW dss.length cW,.slice aP nb.plc.length cP,.slice aL nb.lst.length cL,.slice aN nb.nts.length cN',.slice aX nb.nxt.length cX,.slice aT nb.sn.length cT,.slice aF nb.fr.length cF,.slice aR nb.rws.length cR⟩ nv' rv')) (fun i _=>steps.length-(intOf i).toNat)
 case atStart=>exact⟨0,nv,rv,nb,Nat.zero_le _,rfl,H3,Lib.hid rfl,R0,TurnB.refl _ _⟩
 case round=>
  obtain⟨k,nv',rv',b',hk,rfl,H,HBk,RN,T⟩:=hrel;have TL:=T.low (m:=m) (by have:=H3.base;omega) (fun g hg=>(H3.blk g hg).1);have KW:Keep w wr:=Below.trans K3 (Below.mono TL (by omega));by_cases hlt:k<steps.length
  ·
   obtain⟨a',c',e',hq⟩:=HS.out.keep KW;simp only[Value.slice.injEq,true_and] at e';obtain⟨rfl,rfl⟩:=e';rcases hq with h0|⟨bS,oS,rfl,hbS,hcS⟩
   · exfalso;rw[h0] at hlt;simp at hlt
   have hBD:=RN.board hb;have PS:=ps_of hBD;have dS:wr.drew.cell? ⟨bS,oS+k,none⟩=some (.int .i64 (steps.getD k 0)):=hcS k hlt;have CP:=l15Possible_any wr.drew _ dss b' H.drew.rd PS
   have hpl:(possM dss b').length≤1048576:=by
    rw[←poss_same,List.length_append];have:=canK_len dss b' dss.length;have:=ntK_len b' dss.length;have:=PS.m;have:=(workB_useR hb).1;omega
   have HH:isB (possM dss b') (steps.getD k 0)=true→Hid (runM dss (eventsB dss) nb (steps.take (k+1))=stepM dss (eventsB dss) b' (steps.getD k 0)):=fun e=>Lib.hid (by rw[HBk.out] at e ⊢;exact run_hit hlt e)
   have HZ:isB (possM dss b') (steps.getD k 0)=false→Hid (runM dss (eventsB dss) nb (steps.take (k+1))=b'):=fun e=>Lib.hid (by rw[HBk.out] at e ⊢;exact run_miss hlt e)
   generalize steps.getD k 0=st at *;obtain⟨e0,e1,e2,e3,e4,e5,e6,e7⟩:=H.drew.cells;simp only at e0 e1 e2 e3 e4 e5 e6 e7;have zD:D<wr.drew.heap.size:=H.base.2;have zS:bS<wr.drew.heap.size:=hbS;have i1:(0:Int)≤(k:Int):=Int.natCast_nonneg _;have i2:(k:Int)<(steps.length:Int):=by omega
   clear hcS;go_wp2
   go_region_held3 (fun w'=>w'.cell? ⟨D,0,none⟩=some (.slice aW dss.length cW)∧w'.cell? ⟨D,1,none⟩=some (.slice aP nb.plc.length cP)∧w'.cell? ⟨D,2,none⟩=some (.slice aL nb.lst.length cL)∧w'.cell? ⟨D,3,none⟩=some (.slice aN nb.nts.length cN')∧w'.cell? ⟨D,4,none⟩=some (.slice aX nb.nxt.length cX)∧w'.cell? ⟨D,5,none⟩=some (.slice aT nb.sn.length cT)∧w'.cell? ⟨D,6,none⟩=some (.slice aF nb.fr.length cF)∧w'.cell? ⟨D,7,none⟩=some (.slice aR nb.rws.length cR)∧w'.cell? ⟨bS,oS+k,none⟩=some (.int .i64 st))
    (first|go_keep|(go_split_ands;refine⟨?_,?_,?_,?_,?_,?_,?_,?_,?_⟩<;>(rw[kk.cell (by assumption)];assumption)))
    ((first
     | (go_at_call 135;refine CP.mono ?_;rintro e wz ⟨vp,rfl,op,kk⟩;have zD2:D<wz.heap.size:=Nat.lt_of_lt_of_le zD kk.size;have zS2:bS<wz.heap.size:=Nat.lt_of_lt_of_le zS kk.size;have Kz:=kk)
     | (go_at_call 119;refine (l8Is_any _ _ _ op.rd hpl st).mono ?_;clear kk;rintro e wy ⟨rfl,rfl⟩;have kk:Keep wy wy:=Keep.refl _)))
   all_goals
    have Hz:=H.drew.keep Kz;have Tz:=(T.keep (Keep.refl wr).drew).keep Kz;have dz:=(Kz.cell zS).trans dS;clear e0 e1 e2 e3 e4 e5 e6 e7 CP op kk;cases hp:isB (possM dss b') st
    ·
     have HM:=HZ hp;go_wp2;go_roundw;case rel=>exact⟨k+1,nv',rv',b',by omega,by go_num,Hz,Lib.hid HM.out.symm,RN,Tz⟩
     case measure=>simp[intOf];omega
    ·
     have HM:=HH hp;go_wp2_with fail
     refine (l15Step_any _ m D _ nv' rv' bs N dss b' st Hz hBD hp).mono ?_;rintro e w5 ⟨rfl,nv5,rv5,H5,T5⟩;go_wp2;go_roundw;case rel=>exact⟨k+1,nv5,rv5,_,by omega,by go_num,H5,Lib.hid HM.out.symm,RN.step hb hp,Tz.trans T5⟩
     case measure=>simp[intOf];omega
  ·
   obtain rfl:k=steps.length:=by omega
   have NB:¬blkB D ⟨.slice aW dss.length cW,.slice aP nb.plc.length cP,.slice aL nb.lst.length cL,.slice aN nb.nts.length cN',.slice aX nb.nxt.length cX,.slice aT nb.sn.length cT,.slice aF nb.fr.length cF,.slice aR nb.rws.length cR⟩ nv rv w.heap.size:=fun hB=>by have:=(H3.blk _ hB).1;omega
   have hRw:=(T.block w.heap.size (by have:=H3.base;omega) NB).trans hR3;have hDw:=H.heapD;have eT:b'=runM dss (eventsB dss) nb steps:=by have:=HBk.out;rw[List.take_length] at this;exact this
   have HET:=Lib.hid eT;clear eT;simp only[BV.arr] at hDw;have HG:=Lib.hid (grown_row3 wr w.heap.size #[.slice aW dss.length cW,.slice aP nb.plc.length cP,.slice aL nb.lst.length cL,.slice aN nb.nts.length cN',.slice aX nb.nxt.length cX,.slice aT nb.sn.length cT,.slice aF nb.fr.length cF,.slice aR nb.rws.length cR]);have HZ:=Lib.hid (setRow_heap wr w.heap.size _ #[.slice aW dss.length cW,.slice aP nb.plc.length cP,.slice aL nb.lst.length cL,.slice aN nb.nts.length cN',.slice aX nb.nxt.length cX,.slice aT nb.sn.length cT,.slice aF nb.fr.length cF,.slice aR nb.rws.length cR] _ _ hRw);go_wp2_with (first|refine wpList_load_row rfl 94 _ rfl D rfl 94 _ (0,0) _ hDw Tryz.underlying94 rfl board_info ?_|refine wpList_store_row rfl 94 _ _ rfl w.heap.size _ rfl rfl 94 _ hRw board_info rfl (by simp[Value.oneCell']) ?_)
   refine bodyPost_ret (results_row_tmp (by rfl) _ _ w.heap.size _ _ (0,0) _ (.bool true) rfl HZ.out rfl Tryz.underlying94 rfl board_info) rfl ?_;exact⟨⟨.slice aW dss.length cW,.slice aP nb.plc.length cP,.slice aL nb.lst.length cL,.slice aN nb.nts.length cN',.slice aX nb.nxt.length cX,.slice aT nb.sn.length cT,.slice aF nb.fr.length cF,.slice aR nb.rws.length cR⟩,nv',rv',bs,N,rfl,by rw[HNM.out,←HET.out];exact ((H.far HG.out (fun g hg=>by have:=Option.some.inj hg;omega)).val).base_le (by omega),KW.grown HG.out (fun g hg=>by have:=Option.some.inj hg;omega)⟩
def endZ (dss:List (List Dd))(b:Bd):Bool:=(List.range dss.length).all (fun c=>decide (((dss.getD c []).length:Int)≤b.nxt.getD c 0)&&(b.nts.getD c []).isEmpty)
theorem l14Ended_any (w:World)(v:BV)(dss:List (List Dd))(b:Bd)(h:RdBd w v dss b)(hd:dss.length≤1048576)(hx:dss.length≤b.nxt.length)(hn:dss.length≤b.nts.length):
  Calls Tryz.prog 139 #[v.agg] w fun e w'=>e = .returned (.bool (endZ dss b))∧Keep w w':=by
 obtain⟨aW,aP,aL,aN,aX,aS,aF,aR,cW,cP,cL,cN,cX,cS,cF,cR,rfl⟩:=h.shapes;have KW:Keep w (w.alloc (.cells #[.slice aW dss.length cW,.slice aP b.plc.length cP,.slice aL b.lst.length cL,.slice aN b.nts.length cN,.slice aX b.nxt.length cX,.slice aS b.sn.length cS,.slice aF b.fr.length cF,.slice aR b.rws.length cR] 94)):=(Keep.refl w).alloc _;have c0:(w.alloc (.cells #[.slice aW dss.length cW,.slice aP b.plc.length cP,.slice aL b.lst.length cL,.slice aN b.nts.length cN,.slice aX b.nxt.length cX,.slice aS b.sn.length cS,.slice aF b.fr.length cF,.slice aR b.rws.length cR] 94)).cell? ⟨w.heap.size,0,none⟩=some (.slice aW dss.length cW):=box_cell (Keep.refl _) 0;have c3:(w.alloc (.cells #[.slice aW dss.length cW,.slice aP b.plc.length cP,.slice aL b.lst.length cL,.slice aN b.nts.length cN,.slice aX b.nxt.length cX,.slice aS b.sn.length cS,.slice aF b.fr.length cF,.slice aR b.rws.length cR] 94)).cell? ⟨w.heap.size,3,none⟩=some (.slice aN b.nts.length cN):=box_cell (Keep.refl _) 3;have c4:(w.alloc (.cells #[.slice aW dss.length cW,.slice aP b.plc.length cP,.slice aL b.lst.length cL,.slice aN b.nts.length cN,.slice aX b.nxt.length cX,.slice aS b.sn.length cS,.slice aF b.fr.length cF,.slice aR b.rws.length cR] 94)).cell? ⟨w.heap.size,4,none⟩=some (.slice aX b.nxt.length cX):=box_cell (Keep.refl _) 4;have h':=h.keep KW;have z1:w.heap.size<(w.alloc (.cells #[.slice aW dss.length cW,.slice aP b.plc.length cP,.slice aL b.lst.length cL,.slice aN b.nts.length cN,.slice aX b.nxt.length cX,.slice aS b.sn.length cS,.slice aF b.fr.length cF,.slice aR b.rws.length cR] 94)).heap.size:=by rw[heap_size];omega
 go_enter Tryz.func139,Tryz.ntmps139
 go_wp2;generalize w.alloc (.cells #[.slice aW dss.length cW,.slice aP b.plc.length cP,.slice aL b.lst.length cL,.slice aN b.nts.length cN,.slice aX b.nxt.length cX,.slice aS b.sn.length cS,.slice aF b.fr.length cF,.slice aR b.rws.length cR] 94)=w1 at *;have HH:=Lib.hid h';clear h h';go_loopw [3] (fun i wr=>∃k:Nat,k≤dss.length∧i = .int .i64 k∧Hid (∀j,j<k→(decide (((dss.getD j []).length:Int)≤b.nxt.getD j 0)&&(b.nts.getD j []).isEmpty)=true)∧Keep w1 wr) (fun i _=>dss.length-(intOf i).toNat)
 case atStart=>exact⟨0,Nat.zero_le _,rfl,Lib.hid (fun j hj=>absurd hj (Nat.not_lt_zero _)),Keep.refl _⟩
 case round=>
  obtain⟨k,hk,rfl,hno,hK⟩:=hrel;have e0:=(hK.cell z1).trans c0;have e3:=(hK.cell z1).trans c3;have e4:=(hK.cell z1).trans c4;by_cases hlt:k<dss.length
  ·
   have lX:k<b.nxt.length:=by omega
   have lN:k<b.nts.length:=by omega
   obtain⟨a',c',he',hX⟩:=HH.out.X.keep hK;simp only[Value.slice.injEq,true_and] at he';obtain⟨rfl,rfl⟩:=he';rcases hX with h0|⟨bx,ox,rfl,hbx,hcx⟩
   · exfalso;rw[h0] at lX;simp at lX
   obtain⟨a',c',he',hW⟩:=HH.out.W.keep hK;simp only[Value.slice.injEq,true_and] at he';obtain⟨rfl,rfl⟩:=he';rcases hW with h0|⟨bw,ow,rfl,hbw,hcw⟩
   · exfalso;rw[h0] at hlt;simp at hlt
   obtain⟨a',c',he',hN⟩:=HH.out.N.keep hK;simp only[Value.slice.injEq,true_and] at he';obtain⟨rfl,rfl⟩:=he';rcases hN with h0|⟨bn,on,rfl,hbn,hcn⟩
   · exfalso;rw[h0] at lN;simp at lN
   have d1:=hcx k lX;obtain⟨vw,d2,r2⟩:=hcw k hlt;obtain⟨vn,d3,r3⟩:=hcn k lN;have HF:(decide (((dss.getD k []).length:Int)≤b.nxt.getD k 0)&&(b.nts.getD k []).isEmpty)=false→Hid (endZ dss b=false):=fun e=>Lib.hid (all_range_false hlt e)
   have HT:(decide (((dss.getD k []).length:Int)≤b.nxt.getD k 0)&&(b.nts.getD k []).isEmpty)=true→Hid (∀j,j<k+1→(decide (((dss.getD j []).length:Int)≤b.nxt.getD j 0)&&(b.nts.getD j []).isEmpty)=true):=fun e=>Lib.hid (fun j hj=>by
    by_cases e':j=k
    · rw[e'];exact e
    · exact hno.out j (by omega))
   obtain⟨aw,cw,rfl,-⟩:=r2;obtain⟨an,cn,rfl,-⟩:=r3;generalize b.nxt.getD k 0=x at d1 HF HT;generalize (dss.getD k []).length=wl at d2 HF HT;generalize b.nts.getD k []=ns at d3 HF HT;have j1:(0:Int)≤(k:Int):=Int.natCast_nonneg _;have j2:(k:Int)<(dss.length:Int):=by omega
   have j3:(k:Int)<(b.nxt.length:Int):=by omega
   have j4:(k:Int)<(b.nts.length:Int):=by omega
   clear hcx hcw hcn hno;by_cases t1:x<(wl:Int)
   ·
    have HE:=HF (by rw[decide_eq_false (by omega)];rfl);clear HF HT;go_wp2;go_quiet (fail)
    go_wp2;go_ret;exact⟨by rw[HE.out];rfl,(KW.trans hK).drewN _⟩
   have t1':decide (x<(wl:Int))=false:=decide_eq_false t1;by_cases t2:0<ns.length
   ·
    have HE:=HF (by
     have:ns.isEmpty=false:=by cases ns with|nil=>simp at t2|cons _ _=>rfl
     rw[this];simp)
    have t2':decide (0<ns.length)=true:=decide_eq_true t2;clear HF HT t1;go_wp2;go_quiet (fail)
    go_wp2;go_ret;exact⟨by rw[HE.out];rfl,(KW.trans hK).drewN _⟩
   ·
    have HE:=HT (by
     have:ns.isEmpty=true:=by cases ns with|nil=>rfl|cons _ _=>simp at t2
     rw[this,decide_eq_true (by omega)];rfl)
    have t2':decide (0<ns.length)=false:=decide_eq_false t2;clear HF HT t1 t2;go_wp2;go_quiet (fail)
    go_wp2;go_roundw;case rel=>exact⟨k+1,by omega,by go_num,HE,hK.drewN _⟩
    case measure=>simp[intOf];omega
  ·
   obtain rfl:k=dss.length:=by omega
   have HE:Hid (endZ dss b=true):=Lib.hid (all_range_true hno.out);go_wp2;go_ret;exact⟨by rw[HE.out];rfl,KW.trans hK⟩
theorem tale_info:(Tryz.prog.info? 27).map (·.size)=some 2:=by kernel_rfl
theorem end_same {dss:List (List Dd)}{b:Bd}(hb:boardB dss b=true):endZ dss b=endM dss b:=by
 unfold endZ endM;rw[List.all_eq,List.all_eq]
 congr 1
 apply propext;constructor
 all_goals
  intro h c hc;have hq:=h c hc
  have hck:ckB dss ((eventsB dss).length:Int) b c=true:=by
   unfold boardB at hb;simp only[Bool.and_eq_true] at hb;exact List.all_eq_true.1 hb.2.2.2 c hc
  unfold ckB at hck;simp only[Bool.and_eq_true,decide_eq_true_eq] at hck;rw[Bool.and_eq_true,decide_eq_true_eq] at hq ⊢;refine⟨?_,hq.2⟩;unfold nxN at *;omega
theorem Run.run {dss:List (List Dd)}(hb:workB dss=true):∀(steps:List Int) {b:Bd},Run dss b→Run dss (runM dss (eventsB dss) b steps)
 | [],_,h=>h
 |s::r,b,h=>by
  rw[runM];by_cases e:isB (possM dss b) s=true
  · rw[if_pos e];exact Run.run hb r (h.step hb e)
  · rw[if_neg e];exact Run.run hb r h
structure ToOne (w:World)(w6:World)(D:Nat)(gR:Nat)(oR:Nat)(cR:Nat)(aF:Option Addr)(cF:Nat)(b:Bd)(r0:List Int)(r1:List Int)(r2:List Int)(e0:Option Addr)(e1:Option Addr)(e2:Option Addr)(c0:Nat)(c1:Nat)(c2:Nat)(B:Nat→Bool)(R:Nat→Rw)(x5 x22 x23 x24 x25 x26 x27 x28 x29 x30 x31 x32 x33 x34 x35 x36 x37 x38 x39 x40:Value)(w3:World):Prop where
 HM:Mk w3 w6.heap.size (liveM [2,7] B) R false nilS 0 0 []
 HK:B 19=false→Keep w6 w3
 F0:B 0=true→x22 = .pointer (some ⟨D,6,none⟩)
 F1:B 1=true→x23 = .slice aF b.fr.length cF
 F2:B 2=true→(∃a c,x24 = .slice a b.fr.length c)∧R 2=ivR b.fr x24
 F3:B 3=true→x25 = .pointer (some ⟨D,7,none⟩)
 F4:B 4=true→x26 = .slice (some ⟨gR,oR,none⟩) b.rws.length cR
 F5:B 5=true→x27 = .pointer (some ⟨gR,oR,none⟩)
 F6:B 6=true→x28 = .slice e0 r0.length c0
 F7:B 7=true→(∃a c,x29 = .slice a r0.length c)∧(B 12=false→R 7=ivR r0 x29)
 F8:B 8=true→x30 = .pointer (some ⟨D,7,none⟩)
 F9:B 9=true→x31 = .slice (some ⟨gR,oR,none⟩) b.rws.length cR
 F10:B 10=true→x32 = .pointer (some ⟨gR,oR+1,none⟩)
 F11:B 11=true→x33 = .slice e1 r1.length c1
 F12:B 12=true→B 7=true∧(∃a n c,x34 = .slice a n c)∧(B 17=false→R 7=ivR (r0++r1) x34)
 F13:B 13=true→x35 = .pointer (some ⟨D,7,none⟩)
 F14:B 14=true→x36 = .slice (some ⟨gR,oR,none⟩) b.rws.length cR
 F15:B 15=true→x37 = .pointer (some ⟨gR,oR+2,none⟩)
 F16:B 16=true→x38 = .slice e2 r2.length c2
 F17:B 17=true→B 12=true∧(∃a n c,x39 = .slice a n c)∧R 7=ivR (r0++r1++r2) x39
 F18:B 18=true→(B 2=true∧B 17=true)∧x40 = .agg #[x24,x39]
 F19:B 19=true→B 18=true∧w3.heap[w.heap.size]? = some (.cells #[x24,x39] 27 (0,0))∧Keep w w3
 F20:B 20=true→x5 = .bool true
 G:B 19=true→∀j,j<19→B j=true
theorem specTaleOf_ended (w:World)(v vs:Value)(dss:List (List Dd))(steps:List Int)(h:RdW w v dss)(hs:Rd w vs steps)(hb:workB dss=true)(hl:steps.length≤40)(hx:dss.length≤1048576)(hm:∀i,i<dss.length→(dss.getD i []).length≤1048576)(he:endM dss (runM dss (eventsB dss) (newM dss) steps)=true):
  Calls Tryz.prog 84 #[v,vs] w fun e w'=>∃vF vR,e = .returned (.tuple #[.agg #[vF,vR],.bool true])∧Own w' w.heap.size vF (runM dss (eventsB dss) (newM dss) steps).fr∧Own w' w.heap.size vR (rowsOf (runM dss (eventsB dss) (newM dss) steps))∧(vF.ownBlock=none∨vF.ownBlock≠vR.ownBlock)∧Keep w w':=by
 have CR:=fun (W:World) (kW:Keep w W)=>specRan_right W v vs dss steps (h.keep kW) (hs.keep kW) hb hl hx hm
 have hBD:boardB dss (runM dss (eventsB dss) (newM dss) steps)=true:=(Run.run hb steps (Run.new hb)).board hb;rw[←end_same hBD] at he;generalize hrb:runM dss (eventsB dss) (newM dss) steps=b at *;obtain⟨a0,c0v,rfl,-⟩:=id h;obtain⟨aS,cS,rfl,-⟩:=id hs;have BL:=Lib.hid (board_all hBD);clear hrb;go_enter Tryz.func84,Tryz.ntmps84
 go_wp2_with fail
 refine (CR _ ((Keep.refl w).alloc _)).mono ?_;rintro e w1 ⟨bv,nv,rv,bs,N,rfl,hV,k1⟩;have hR1:=box_heap k1;have K1:=((Keep.refl w).alloc _).trans k1;have s1:=box_size k1;have hV2:=hV.base_le (show w.heap.size≤(w.alloc (.cells #[nilS,nilS] 27)).heap.size by rw[heap_size];omega);obtain⟨aW,aP,aL,aN,aX,aT,aF,aR,cW,cP,cL,cQ,cX,cT,cF,cR,rfl⟩:=(hV2.box (Nat.le_of_lt s1)).rd.shapes;have H2:=hV2.box (Nat.le_of_lt s1);clear hV hV2 CR k1;go_upto_region 2 with fail
 obtain⟨w2,hw2⟩:∃W:World,W=w1.alloc (.cells #[.slice aW dss.length cW,.slice aP b.plc.length cP,.slice aL b.lst.length cL,.slice aN b.nts.length cQ,.slice aX b.nxt.length cX,.slice aT b.sn.length cT,.slice aF b.fr.length cF,.slice aR b.rws.length cR] 94):=⟨_,rfl⟩;have k2:Keep w1 w2:=by rw[hw2];exact (Keep.refl w1).alloc _
 replace H2:OwnBd w2 w.heap.size w1.heap.size ⟨.slice aW dss.length cW,.slice aP b.plc.length cP,.slice aL b.lst.length cL,.slice aN b.nts.length cQ,.slice aX b.nxt.length cX,.slice aT b.sn.length cT,.slice aF b.fr.length cF,.slice aR b.rws.length cR⟩ nv rv bs N dss b:=by rw[hw2];exact H2
 rw[←hw2];clear hw2;have hR2:=(Below.block k2 w.heap.size s1).trans hR1;have K2:=K1.trans k2;have s2:=k2.size;obtain⟨z0,z1,z2,z3,z4,z5,z6,z7⟩:=H2.cells;simp only at z0 z1 z2 z3 z4 z5 z6 z7;have hbD2:=H2.base.2;generalize hD:w1.heap.size=D at *;have CE:=l14Ended_any w2 _ dss b H2.rd hx (by have:=BL.out.2.2.2.2.2.1;omega) (by have:=BL.out.2.2.2.2.1;omega);rw[he] at CE;clear hD hR1 k2 K1;go_wp2_with fail
 refine CE.mono ?_;rintro e w6 ⟨rfl,k6⟩;have H6:=H2.keep k6;have hR6:=(Below.block k6 w.heap.size (by omega)).trans hR2;have K6:=K2.trans k6;have s6:=k6.size;have hbD:D<w6.heap.size:=by omega
 have d6:=H6.cells.2.2.2.2.2.2.1;have d7:=H6.cells.2.2.2.2.2.2.2;simp only at d6 d7;have rF:=H6.rd.F;have HRd:=Lib.hid H6.rd.R;have rl:=BL.out.2.2.2.1;have fl:=BL.out.2.2.2.2.2.2.2.1;have l0:=BL.out.2.2.2.2.2.2.2.2.1 0 (by omega);have l1:=BL.out.2.2.2.2.2.2.2.2.1 1 (by omega);have l2:=BL.out.2.2.2.2.2.2.2.2.1 2 (by omega);have HRO:Hid (rowsOf b=b.rws.getD 0 []++b.rws.getD 1 []++b.rws.getD 2 []):=Lib.hid rfl;obtain⟨aR',cR',eR',hRR⟩:=HRd.out;simp only[Value.slice.injEq,true_and] at eR';obtain⟨rfl,rfl⟩:=eR';rcases hRR with h0|⟨gR,oR,rfl,hbR,hcR⟩
 · exfalso;rw[h0] at rl;simp at rl
 obtain⟨v0,h0,q0⟩:=hcR 0 (by omega);obtain⟨v1,h1,q1⟩:=hcR 1 (by omega);obtain⟨v2,h2,q2⟩:=hcR 2 (by omega);rw[Nat.add_zero] at h0;generalize b.rws.getD 0 []=r0 at *;generalize b.rws.getD 1 []=r1 at *;generalize b.rws.getD 2 []=r2 at *;obtain⟨e0,c0,rfl,-⟩:=id q0;obtain⟨e1,c1,rfl,-⟩:=id q1;obtain⟨e2,c2,rfl,-⟩:=id q2;have j0:(0:Int)<(b.rws.length:Int):=by omega
 have j1:(1:Int)<(b.rws.length:Int):=by omega
 have j2:(2:Int)<(b.rws.length:Int):=by omega
 have jn0:0<b.rws.length:=by omega
 have jn1:1<b.rws.length:=by omega
 have jn2:2<b.rws.length:=by omega
 have jne:b.rws≠[]:=fun e=>by rw[e] at jn0;simp at jn0
 have HL:=Lib.hid rl;clear H2 H6 CE hcR hbD2 he rl z0 z1 z2 z3 z4 z5 z6 z7;go_upto_region 4 with fail
 refine wp_region_inv (by kernel_rfl) (fun listed a w3=>∃(B:Nat→Bool) (R:Nat→Rw) (x5 x22 x23 x24 x25 x26 x27 x28 x29 x30 x31 x32 x33 x34 x35 x36 x37 x38 x39 x40:Value),listed=#[B 0,B 1,B 2,B 3,B 4,B 5,B 6,B 7,B 8,B 9,B 10,B 11,B 12,B 13,B 14,B 15,B 16,B 17,B 18,B 19,B 20]∧a=⟨#[.slice a0 dss.length c0v,.slice aS steps.length cS,undef,undef,.pointer (some ⟨w.heap.size,0,none⟩),x5,.pointer (some ⟨D,0,none⟩),.bool true,.tuple #[.agg #[.slice aW dss.length cW,.slice aP b.plc.length cP,.slice aL b.lst.length cL,.slice aN b.nts.length cQ,.slice aX b.nxt.length cX,.slice aT b.sn.length cT,.slice aF b.fr.length cF,.slice (some ⟨gR,oR,none⟩) b.rws.length cR],.bool true],.slice a0 dss.length c0v,.slice aS steps.length cS,.tuple #[.agg #[.slice aW dss.length cW,.slice aP b.plc.length cP,.slice aL b.lst.length cL,.slice aN b.nts.length cQ,.slice aX b.nxt.length cX,.slice aT b.sn.length cT,.slice aF b.fr.length cF,.slice (some ⟨gR,oR,none⟩) b.rws.length cR],.bool true],.agg #[.slice aW dss.length cW,.slice aP b.plc.length cP,.slice aL b.lst.length cL,.slice aN b.nts.length cQ,.slice aX b.nxt.length cX,.slice aT b.sn.length cT,.slice aF b.fr.length cF,.slice (some ⟨gR,oR,none⟩) b.rws.length cR],.bool true,.bool true,.bool false,.bool false,.agg #[.slice aW dss.length cW,.slice aP b.plc.length cP,.slice aL b.lst.length cL,.slice aN b.nts.length cQ,.slice aX b.nxt.length cX,.slice aT b.sn.length cT,.slice aF b.fr.length cF,.slice (some ⟨gR,oR,none⟩) b.rws.length cR],.bool true,.bool false,.bool false,undef,x22,x23,x24,x25,x26,x27,x28,x29,x30,x31,x32,x33,x34,x35,x36,x37,x38,x39,x40],[]⟩∧ToOne w w6 D gR oR cR aF cF b r0 r1 r2 e0 e1 e2 c0 c1 c2 B R x5 x22 x23 x24 x25 x26 x27 x28 x29 x30 x31 x32 x33 x34 x35 x36 x37 x38 x39 x40 w3) ?_ ?_ ?_
 · exact⟨fun _=>false,fun _=>⟨0,0,nilS,0,[]⟩,.bool false,undef,undef,undef,undef,undef,undef,undef,undef,undef,undef,undef,undef,undef,undef,undef,undef,undef,undef,undef,rfl,rfl,⟨Mk.start _ _ _ _ _ _ _ _,(fun _=>(Keep.refl w6).drew),(fun q=>by cases q),(fun q=>by cases q),(fun q=>by cases q),(fun q=>by cases q),(fun q=>by cases q),(fun q=>by cases q),(fun q=>by cases q),(fun q=>by cases q),(fun q=>by cases q),(fun q=>by cases q),(fun q=>by cases q),(fun q=>by cases q),(fun q=>by cases q),(fun q=>by cases q),(fun q=>by cases q),(fun q=>by cases q),(fun q=>by cases q),(fun q=>by cases q),(fun q=>by cases q),(fun q=>by cases q),(fun q=>by cases q),(fun q=>by cases q)⟩⟩
 ·
  rintro listed a w3 ⟨B,R,x5,x22,x23,x24,x25,x26,x27,x28,x29,x30,x31,x32,x33,x34,x35,x36,x37,x38,x39,x40,rfl,rfl,h'⟩ i hi;have hlt:=(ready_use hi).1;have hcs:i=0∨i=1∨i=2∨i=3∨i=4∨i=5∨i=6∨i=7∨i=8∨i=9∨i=10∨i=11∨i=12∨i=13∨i=14∨i=15∨i=16∨i=17∨i=18∨i=19∨i=20:=by simp at hlt;omega
  rcases hcs with rfl|rfl|rfl|rfl|rfl|rfl|rfl|rfl|rfl|rfl|rfl|rfl|rfl|rfl|rfl|rfl|rfl|rfl|rfl|rfl|rfl
  ·
   have hbi:B 0=false:=by simpa using (ready_use hi).2.1
   refine wpOp_law rfl rfl (fun K hK=>?_);simp only[List.getElem_toArray,List.getElem_cons_zero];go_simp;refine hK.out _ _ ?_;exact⟨updB B 0,R,_,_,_,_,_,_,_,_,_,_,_,_,_,_,_,_,_,_,_,_,rfl,rfl,{ h' with G:=(fun q=>absurd (h'.G q 0 (by omega)) (by rw[hbi];simp)),F19:=(fun q=>absurd (h'.G q 0 (by omega)) (by rw[hbi];simp)),HM:=h'.HM.pass (by decide),F0:=(fun _=>rfl) }⟩
  ·
   have hbi:B 1=false:=by simpa using (ready_use hi).2.1
   have d0:B 0=true:=ready_dep hi 0 rfl (by kernel_rfl)
   have h19:B 19=false:=by
    cases e:B 19 with
    |false=>rfl
    |true=>exact absurd (h'.G e 1 (by omega)) (by rw[hbi];simp)
   have dc:w3.cell? ⟨D,6,none⟩=some (.slice aF b.fr.length cF):=((h'.HK h19).cell hbD).trans d6;have Ex:=Lib.hid (h'.F0 d0);rw[Ex.out];refine wpOp_law rfl rfl (fun K hK=>?_);simp only[List.getElem_toArray,List.getElem_cons_succ,List.getElem_cons_zero];go_simp;refine hK.out _ _ ?_;have ex:=Ex.out;subst ex;exact⟨updB B 1,R,_,_,_,_,_,_,_,_,_,_,_,_,_,_,_,_,_,_,_,_,rfl,rfl,{ h' with G:=(fun q=>absurd (h'.G q 1 (by omega)) (by rw[hbi];simp)),F19:=(fun q=>absurd (h'.G q 1 (by omega)) (by rw[hbi];simp)),HM:=h'.HM.pass (by decide),F1:=(fun _=>rfl) }⟩
  ·
   have hbi:B 2=false:=by simpa using (ready_use hi).2.1
   have d1:B 1=true:=ready_dep hi 1 rfl (by kernel_rfl)
   have h19:B 19=false:=by
    cases e:B 19 with
    |false=>rfl
    |true=>exact absurd (h'.G e 2 (by omega)) (by rw[hbi];simp)
   have hKw:=h'.HK h19;have hsz:=hKw.size;have Ex:=Lib.hid (h'.F1 d1);rw[Ex.out];refine wpOp_law rfl rfl (fun K hK=>?_);simp only[List.getElem_toArray,List.getElem_cons_succ,List.getElem_cons_zero];go_simp;refine (l1Copy_rd _ _ _ (rF.keep hKw) (by omega)).mono ?_;rintro e wz ⟨vz,rfl,oz,kk⟩;go_wp2_with fail
   refine hK.out _ _ ?_;have ex:=Ex.out;subst ex;obtain⟨az,cz,ez,-⟩:=oz.rd;exact⟨updB B 2,_,_,_,_,_,_,_,_,_,_,_,_,_,_,_,_,_,_,_,_,_,rfl,rfl,{ h' with G:=(fun q=>absurd (h'.G q 2 (by omega)) (by rw[hbi];simp)),F19:=(fun q=>absurd (h'.G q 2 (by omega)) (by rw[hbi];simp)),F2:=(fun _=>⟨⟨az,cz,ez⟩,rfl⟩),F18:=(fun q=>absurd (h'.F18 q).1.1 (by rw[hbi];simp)),HM:=h'.HM.add hbi kk (show (ivR b.fr vz).own wz w6.heap.size from oz.base_le hsz) (fun q hq=>oz.ge q hq),HK:=(fun q=>(h'.HK q).trans kk) }⟩
  ·
   have hbi:B 3=false:=by simpa using (ready_use hi).2.1
   refine wpOp_law rfl rfl (fun K hK=>?_);simp only[List.getElem_toArray,List.getElem_cons_succ,List.getElem_cons_zero];go_simp;refine hK.out _ _ ?_;exact⟨updB B 3,R,_,_,_,_,_,_,_,_,_,_,_,_,_,_,_,_,_,_,_,_,rfl,rfl,{ h' with G:=(fun q=>absurd (h'.G q 3 (by omega)) (by rw[hbi];simp)),F19:=(fun q=>absurd (h'.G q 3 (by omega)) (by rw[hbi];simp)),HM:=h'.HM.pass (by decide),F3:=(fun _=>rfl) }⟩
  ·
   have hbi:B 4=false:=by simpa using (ready_use hi).2.1
   have d3:B 3=true:=ready_dep hi 3 rfl (by kernel_rfl)
   have h19:B 19=false:=by
    cases e:B 19 with
    |false=>rfl
    |true=>exact absurd (h'.G e 4 (by omega)) (by rw[hbi];simp)
   have dc:w3.cell? ⟨D,7,none⟩=some (.slice (some ⟨gR,oR,none⟩) b.rws.length cR):=((h'.HK h19).cell hbD).trans d7;have Ex:=Lib.hid (h'.F3 d3);rw[Ex.out];refine wpOp_law rfl rfl (fun K hK=>?_);simp only[List.getElem_toArray,List.getElem_cons_succ,List.getElem_cons_zero];go_simp;refine hK.out _ _ ?_;have ex:=Ex.out;subst ex;exact⟨updB B 4,R,_,_,_,_,_,_,_,_,_,_,_,_,_,_,_,_,_,_,_,_,rfl,rfl,{ h' with G:=(fun q=>absurd (h'.G q 4 (by omega)) (by rw[hbi];simp)),F19:=(fun q=>absurd (h'.G q 4 (by omega)) (by rw[hbi];simp)),HM:=h'.HM.pass (by decide),F4:=(fun _=>rfl) }⟩
  ·
   have hbi:B 5=false:=by simpa using (ready_use hi).2.1
   have d4:B 4=true:=ready_dep hi 4 rfl (by kernel_rfl);have Ex:=Lib.hid (h'.F4 d4);rw[Ex.out];refine wpOp_law rfl rfl (fun K hK=>?_);simp only[List.getElem_toArray,List.getElem_cons_succ,List.getElem_cons_zero];go_simp;refine hK.out _ _ ?_;have ex:=Ex.out;subst ex;exact⟨updB B 5,R,_,_,_,_,_,_,_,_,_,_,_,_,_,_,_,_,_,_,_,_,rfl,rfl,{ h' with G:=(fun q=>absurd (h'.G q 5 (by omega)) (by rw[hbi];simp)),F19:=(fun q=>absurd (h'.G q 5 (by omega)) (by rw[hbi];simp)),HM:=h'.HM.pass (by decide),F5:=(fun _=>rfl) }⟩
  ·
   have hbi:B 6=false:=by simpa using (ready_use hi).2.1
   have d5:B 5=true:=ready_dep hi 5 rfl (by kernel_rfl)
   have h19:B 19=false:=by
    cases e:B 19 with
    |false=>rfl
    |true=>exact absurd (h'.G e 6 (by omega)) (by rw[hbi];simp)
   have dc:w3.cell? ⟨gR,oR,none⟩=some (.slice e0 r0.length c0):=((h'.HK h19).cell hbR).trans h0;have Ex:=Lib.hid (h'.F5 d5);rw[Ex.out];refine wpOp_law rfl rfl (fun K hK=>?_);simp only[List.getElem_toArray,List.getElem_cons_succ,List.getElem_cons_zero];go_simp;refine hK.out _ _ ?_;have ex:=Ex.out;subst ex;exact⟨updB B 6,R,_,_,_,_,_,_,_,_,_,_,_,_,_,_,_,_,_,_,_,_,rfl,rfl,{ h' with G:=(fun q=>absurd (h'.G q 6 (by omega)) (by rw[hbi];simp)),F19:=(fun q=>absurd (h'.G q 6 (by omega)) (by rw[hbi];simp)),HM:=h'.HM.pass (by decide),F6:=(fun _=>rfl) }⟩
  ·
   have hbi:B 7=false:=by simpa using (ready_use hi).2.1
   have d6:B 6=true:=ready_dep hi 6 rfl (by kernel_rfl)
   have h19:B 19=false:=by
    cases e:B 19 with
    |false=>rfl
    |true=>exact absurd (h'.G e 7 (by omega)) (by rw[hbi];simp)
   have hKw:=h'.HK h19;have hsz:=hKw.size;have Ex:=Lib.hid (h'.F6 d6);rw[Ex.out];refine wpOp_law rfl rfl (fun K hK=>?_);simp only[List.getElem_toArray,List.getElem_cons_succ,List.getElem_cons_zero];go_simp;refine (l1Copy_rd _ _ _ (q0.keep hKw) (by omega)).mono ?_;rintro e wz ⟨vz,rfl,oz,kk⟩;go_wp2_with fail
   refine hK.out _ _ ?_;have ex:=Ex.out;subst ex;obtain⟨az,cz,ez,-⟩:=oz.rd;exact⟨updB B 7,_,_,_,_,_,_,_,_,_,_,_,_,_,_,_,_,_,_,_,_,_,rfl,rfl,{ h' with G:=(fun q=>absurd (h'.G q 7 (by omega)) (by rw[hbi];simp)),F19:=(fun q=>absurd (h'.G q 7 (by omega)) (by rw[hbi];simp)),F7:=(fun _=>⟨⟨az,cz,ez⟩,fun _=>rfl⟩),F12:=(fun q=>absurd (h'.F12 q).1 (by rw[hbi];simp)),F17:=(fun q=>absurd (h'.F12 (h'.F17 q).1).1 (by rw[hbi];simp)),HM:=h'.HM.add hbi kk (show (ivR r0 vz).own wz w6.heap.size from oz.base_le hsz) (fun q hq=>oz.ge q hq),HK:=(fun q=>(h'.HK q).trans kk) }⟩
  ·
   have hbi:B 8=false:=by simpa using (ready_use hi).2.1
   refine wpOp_law rfl rfl (fun K hK=>?_);simp only[List.getElem_toArray,List.getElem_cons_succ,List.getElem_cons_zero];go_simp;refine hK.out _ _ ?_;exact⟨updB B 8,R,_,_,_,_,_,_,_,_,_,_,_,_,_,_,_,_,_,_,_,_,rfl,rfl,{ h' with G:=(fun q=>absurd (h'.G q 8 (by omega)) (by rw[hbi];simp)),F19:=(fun q=>absurd (h'.G q 8 (by omega)) (by rw[hbi];simp)),HM:=h'.HM.pass (by decide),F8:=(fun _=>rfl) }⟩
  ·
   have hbi:B 9=false:=by simpa using (ready_use hi).2.1
   have d8:B 8=true:=ready_dep hi 8 rfl (by kernel_rfl)
   have h19:B 19=false:=by
    cases e:B 19 with
    |false=>rfl
    |true=>exact absurd (h'.G e 9 (by omega)) (by rw[hbi];simp)
   have dc:w3.cell? ⟨D,7,none⟩=some (.slice (some ⟨gR,oR,none⟩) b.rws.length cR):=((h'.HK h19).cell hbD).trans d7;have Ex:=Lib.hid (h'.F8 d8);rw[Ex.out];refine wpOp_law rfl rfl (fun K hK=>?_);simp only[List.getElem_toArray,List.getElem_cons_succ,List.getElem_cons_zero];go_simp;refine hK.out _ _ ?_;have ex:=Ex.out;subst ex;exact⟨updB B 9,R,_,_,_,_,_,_,_,_,_,_,_,_,_,_,_,_,_,_,_,_,rfl,rfl,{ h' with G:=(fun q=>absurd (h'.G q 9 (by omega)) (by rw[hbi];simp)),F19:=(fun q=>absurd (h'.G q 9 (by omega)) (by rw[hbi];simp)),HM:=h'.HM.pass (by decide),F9:=(fun _=>rfl) }⟩
  ·
   have hbi:B 10=false:=by simpa using (ready_use hi).2.1
   have d9:B 9=true:=ready_dep hi 9 rfl (by kernel_rfl);have Ex:=Lib.hid (h'.F9 d9);rw[Ex.out];refine wpOp_law rfl rfl (fun K hK=>?_);simp only[List.getElem_toArray,List.getElem_cons_succ,List.getElem_cons_zero];go_simp;refine hK.out _ _ ?_;have ex:=Ex.out;subst ex;exact⟨updB B 10,R,_,_,_,_,_,_,_,_,_,_,_,_,_,_,_,_,_,_,_,_,rfl,rfl,{ h' with G:=(fun q=>absurd (h'.G q 10 (by omega)) (by rw[hbi];simp)),F19:=(fun q=>absurd (h'.G q 10 (by omega)) (by rw[hbi];simp)),HM:=h'.HM.pass (by decide),F10:=(fun _=>rfl) }⟩
  ·
   have hbi:B 11=false:=by simpa using (ready_use hi).2.1
   have d10:B 10=true:=ready_dep hi 10 rfl (by kernel_rfl)
   have h19:B 19=false:=by
    cases e:B 19 with
    |false=>rfl
    |true=>exact absurd (h'.G e 11 (by omega)) (by rw[hbi];simp)
   have dc:w3.cell? ⟨gR,oR+1,none⟩=some (.slice e1 r1.length c1):=((h'.HK h19).cell hbR).trans h1;have Ex:=Lib.hid (h'.F10 d10);rw[Ex.out];refine wpOp_law rfl rfl (fun K hK=>?_);simp only[List.getElem_toArray,List.getElem_cons_succ,List.getElem_cons_zero];go_simp;refine hK.out _ _ ?_;have ex:=Ex.out;subst ex;exact⟨updB B 11,R,_,_,_,_,_,_,_,_,_,_,_,_,_,_,_,_,_,_,_,_,rfl,rfl,{ h' with G:=(fun q=>absurd (h'.G q 11 (by omega)) (by rw[hbi];simp)),F19:=(fun q=>absurd (h'.G q 11 (by omega)) (by rw[hbi];simp)),HM:=h'.HM.pass (by decide),F11:=(fun _=>rfl) }⟩
  ·
   have hbi:B 12=false:=by simpa using (ready_use hi).2.1
   have d7:B 7=true:=ready_dep hi 7 rfl (by kernel_rfl);have d11:B 11=true:=ready_dep hi 11 rfl (by kernel_rfl)
   have h19:B 19=false:=by
    cases e:B 19 with
    |false=>rfl
    |true=>exact absurd (h'.G e 12 (by omega)) (by rw[hbi];simp)
   have hKw:=h'.HK h19;have hsz:=hKw.size;obtain⟨ax,cx,ex⟩:=(h'.F7 d7).1;have d7':B 7=true:=d7;have er:=(h'.F7 d7).2 hbi;have o7:Own w3 w6.heap.size x29 r0:=by have o:=h'.HM.fam.own 7 ⟨by decide,d7'⟩;rw[er] at o;exact o
   rw[ex] at o7;have Ex:=Lib.hid (ex);rw[Ex.out];have Ey:=Lib.hid (h'.F11 d11);rw[Ey.out];refine wpOp_law rfl rfl (fun K hK=>?_);simp only[List.getElem_toArray,List.getElem_cons_succ,List.getElem_cons_zero];clear ex;refine wp_append_rd _ _ rfl w6.heap.size _ r0 rfl o7 _ rfl r1 (q1.keep hKw) (by omega) (by omega) (by omega) ?_;intro vz wz oz gz bz;simp only[Act.put,List.setIfInBounds_toArray,List.set_cons_zero,List.set_cons_succ];refine hK.out _ _ ?_;have ex:=Ex.out;subst ex;have ey:=Ey.out;subst ey;obtain⟨az,cz,ez,-⟩:=oz.rd;exact⟨updB B 12,_,_,_,_,_,_,_,_,_,_,_,_,_,_,_,_,_,_,_,_,_,rfl,rfl,{ h' with G:=(fun q=>absurd (h'.G q 12 (by omega)) (by rw[hbi];simp)),F19:=(fun q=>absurd (h'.G q 12 (by omega)) (by rw[hbi];simp)),HM:=h'.HM.grow (by decide) ⟨by decide,d7'⟩ (r:=ivR (r0++r1) vz) (by rw[er];exact gz) (by rw[er];exact bz) oz,HK:=(fun q=>(h'.HK q).grown gz (fun b hb=>o7.ge b hb)),F7:=(fun q=>⟨(h'.F7 q).1,fun r=>by cases r⟩),F12:=(fun _=>⟨d7,⟨az,_,cz,ez⟩,fun _=>rfl⟩),F17:=(fun q=>absurd (h'.F17 q).1 (by rw[hbi];simp)) }⟩
  ·
   have hbi:B 13=false:=by simpa using (ready_use hi).2.1
   refine wpOp_law rfl rfl (fun K hK=>?_);simp only[List.getElem_toArray,List.getElem_cons_succ,List.getElem_cons_zero];go_simp;refine hK.out _ _ ?_;exact⟨updB B 13,R,_,_,_,_,_,_,_,_,_,_,_,_,_,_,_,_,_,_,_,_,rfl,rfl,{ h' with G:=(fun q=>absurd (h'.G q 13 (by omega)) (by rw[hbi];simp)),F19:=(fun q=>absurd (h'.G q 13 (by omega)) (by rw[hbi];simp)),HM:=h'.HM.pass (by decide),F13:=(fun _=>rfl) }⟩
  ·
   have hbi:B 14=false:=by simpa using (ready_use hi).2.1
   have d13:B 13=true:=ready_dep hi 13 rfl (by kernel_rfl)
   have h19:B 19=false:=by
    cases e:B 19 with
    |false=>rfl
    |true=>exact absurd (h'.G e 14 (by omega)) (by rw[hbi];simp)
   have dc:w3.cell? ⟨D,7,none⟩=some (.slice (some ⟨gR,oR,none⟩) b.rws.length cR):=((h'.HK h19).cell hbD).trans d7;have Ex:=Lib.hid (h'.F13 d13);rw[Ex.out];refine wpOp_law rfl rfl (fun K hK=>?_);simp only[List.getElem_toArray,List.getElem_cons_succ,List.getElem_cons_zero];go_simp;refine hK.out _ _ ?_;have ex:=Ex.out;subst ex;exact⟨updB B 14,R,_,_,_,_,_,_,_,_,_,_,_,_,_,_,_,_,_,_,_,_,rfl,rfl,{ h' with G:=(fun q=>absurd (h'.G q 14 (by omega)) (by rw[hbi];simp)),F19:=(fun q=>absurd (h'.G q 14 (by omega)) (by rw[hbi];simp)),HM:=h'.HM.pass (by decide),F14:=(fun _=>rfl) }⟩
  ·
   have hbi:B 15=false:=by simpa using (ready_use hi).2.1
   have d14:B 14=true:=ready_dep hi 14 rfl (by kernel_rfl);have Ex:=Lib.hid (h'.F14 d14);rw[Ex.out];refine wpOp_law rfl rfl (fun K hK=>?_);simp only[List.getElem_toArray,List.getElem_cons_succ,List.getElem_cons_zero];go_simp;refine hK.out _ _ ?_;have ex:=Ex.out;subst ex;exact⟨updB B 15,R,_,_,_,_,_,_,_,_,_,_,_,_,_,_,_,_,_,_,_,_,rfl,rfl,{ h' with G:=(fun q=>absurd (h'.G q 15 (by omega)) (by rw[hbi];simp)),F19:=(fun q=>absurd (h'.G q 15 (by omega)) (by rw[hbi];simp)),HM:=h'.HM.pass (by decide),F15:=(fun _=>rfl) }⟩
  ·
   have hbi:B 16=false:=by simpa using (ready_use hi).2.1
   have d15:B 15=true:=ready_dep hi 15 rfl (by kernel_rfl)
   have h19:B 19=false:=by
    cases e:B 19 with
    |false=>rfl
    |true=>exact absurd (h'.G e 16 (by omega)) (by rw[hbi];simp)
   have dc:w3.cell? ⟨gR,oR+2,none⟩=some (.slice e2 r2.length c2):=((h'.HK h19).cell hbR).trans h2;have Ex:=Lib.hid (h'.F15 d15);rw[Ex.out];refine wpOp_law rfl rfl (fun K hK=>?_);simp only[List.getElem_toArray,List.getElem_cons_succ,List.getElem_cons_zero];go_simp;refine hK.out _ _ ?_;have ex:=Ex.out;subst ex;exact⟨updB B 16,R,_,_,_,_,_,_,_,_,_,_,_,_,_,_,_,_,_,_,_,_,rfl,rfl,{ h' with G:=(fun q=>absurd (h'.G q 16 (by omega)) (by rw[hbi];simp)),F19:=(fun q=>absurd (h'.G q 16 (by omega)) (by rw[hbi];simp)),HM:=h'.HM.pass (by decide),F16:=(fun _=>rfl) }⟩
  ·
   have hbi:B 17=false:=by simpa using (ready_use hi).2.1
   have d12:B 12=true:=ready_dep hi 12 rfl (by kernel_rfl);have d16:B 16=true:=ready_dep hi 16 rfl (by kernel_rfl)
   have h19:B 19=false:=by
    cases e:B 19 with
    |false=>rfl
    |true=>exact absurd (h'.G e 17 (by omega)) (by rw[hbi];simp)
   have hKw:=h'.HK h19;have hsz:=hKw.size;obtain⟨ax,nx,cx,ex⟩:=(h'.F12 d12).2.1;have d7':B 7=true:=(h'.F12 d12).1;have er:=(h'.F12 d12).2.2 hbi;have o7:Own w3 w6.heap.size x34 (r0++r1):=by have o:=h'.HM.fam.own 7 ⟨by decide,d7'⟩;rw[er] at o;exact o
   rw[ex] at o7;have Ex:=Lib.hid (ex);rw[Ex.out];have Ey:=Lib.hid (h'.F16 d16);rw[Ey.out];refine wpOp_law rfl rfl (fun K hK=>?_);simp only[List.getElem_toArray,List.getElem_cons_succ,List.getElem_cons_zero];clear ex;refine wp_append_rd _ _ rfl w6.heap.size _ (r0++r1) rfl o7 _ rfl r2 (q2.keep hKw) (by simp;omega) (by omega) (by omega) ?_;intro vz wz oz gz bz;simp only[Act.put,List.setIfInBounds_toArray,List.set_cons_zero,List.set_cons_succ];refine hK.out _ _ ?_;have ex:=Ex.out;subst ex;have ey:=Ey.out;subst ey;obtain⟨az,cz,ez,-⟩:=oz.rd;exact⟨updB B 17,_,_,_,_,_,_,_,_,_,_,_,_,_,_,_,_,_,_,_,_,_,rfl,rfl,{ h' with G:=(fun q=>absurd (h'.G q 17 (by omega)) (by rw[hbi];simp)),F19:=(fun q=>absurd (h'.G q 17 (by omega)) (by rw[hbi];simp)),HM:=h'.HM.grow (by decide) ⟨by decide,d7'⟩ (r:=ivR (r0++r1++r2) vz) (by rw[er];exact gz) (by rw[er];exact bz) oz,HK:=(fun q=>(h'.HK q).grown gz (fun b hb=>o7.ge b hb)),F7:=(fun q=>⟨(h'.F7 q).1,fun r=>tf_no d12 r⟩),F12:=(fun q=>⟨(h'.F12 q).1,(h'.F12 q).2.1,fun r=>by cases r⟩),F17:=(fun _=>⟨d12,⟨az,_,cz,ez⟩,rfl⟩),F18:=(fun q=>absurd (h'.F18 q).1.2 (by rw[hbi];simp)) }⟩
  ·
   have hbi:B 18=false:=by simpa using (ready_use hi).2.1
   have d2:B 2=true:=ready_dep hi 2 rfl (by kernel_rfl);have d17:B 17=true:=ready_dep hi 17 rfl (by kernel_rfl);obtain⟨⟨a2,c2,e2⟩,-⟩:=h'.F2 d2;obtain⟨-,⟨a17,n17,c17,e17⟩,-⟩:=h'.F17 d17;have Ex:=Lib.hid (e2);rw[Ex.out];have Ey:=Lib.hid (e17);rw[Ey.out];refine wpOp_law rfl rfl (fun K hK=>?_);simp only[List.getElem_toArray,List.getElem_cons_succ,List.getElem_cons_zero];clear e2 e17;go_simp;refine hK.out _ _ ?_;have ex:=Ex.out;subst ex;have ey:=Ey.out;subst ey;exact⟨updB B 18,R,_,_,_,_,_,_,_,_,_,_,_,_,_,_,_,_,_,_,_,_,rfl,rfl,{ h' with G:=(fun q=>absurd (h'.G q 18 (by omega)) (by rw[hbi];simp)),F19:=(fun q=>absurd (h'.G q 18 (by omega)) (by rw[hbi];simp)),HM:=h'.HM.pass (by decide),F18:=(fun _=>⟨⟨d2,d17⟩,rfl⟩) }⟩
  ·
   have hbi:B 19=false:=by simpa using (ready_use hi).2.1
   have d0:B 0=true:=ready_dep hi 0 rfl (by kernel_rfl);have d1:B 1=true:=ready_dep hi 1 rfl (by kernel_rfl);have d2:B 2=true:=ready_dep hi 2 rfl (by kernel_rfl);have d3:B 3=true:=ready_dep hi 3 rfl (by kernel_rfl);have d4:B 4=true:=ready_dep hi 4 rfl (by kernel_rfl);have d5:B 5=true:=ready_dep hi 5 rfl (by kernel_rfl);have d6:B 6=true:=ready_dep hi 6 rfl (by kernel_rfl);have d7:B 7=true:=ready_dep hi 7 rfl (by kernel_rfl);have d8:B 8=true:=ready_dep hi 8 rfl (by kernel_rfl);have d9:B 9=true:=ready_dep hi 9 rfl (by kernel_rfl);have d10:B 10=true:=ready_dep hi 10 rfl (by kernel_rfl);have d11:B 11=true:=ready_dep hi 11 rfl (by kernel_rfl);have d12:B 12=true:=ready_dep hi 12 rfl (by kernel_rfl);have d13:B 13=true:=ready_dep hi 13 rfl (by kernel_rfl);have d14:B 14=true:=ready_dep hi 14 rfl (by kernel_rfl);have d15:B 15=true:=ready_dep hi 15 rfl (by kernel_rfl);have d16:B 16=true:=ready_dep hi 16 rfl (by kernel_rfl);have d17:B 17=true:=ready_dep hi 17 rfl (by kernel_rfl);have d18:B 18=true:=ready_dep hi 18 rfl (by kernel_rfl);obtain⟨dd,e40⟩:=h'.F18 d18;obtain⟨⟨a2,c2,e2⟩,-⟩:=h'.F2 d2;obtain⟨-,⟨a17,n17,c17,e17⟩,-⟩:=h'.F17 d17;have hKw:=h'.HK hbi;have hz:=(Below.block hKw w.heap.size (by omega)).trans hR6;have hone:(#[x24,x39]:Array Value).all (·.oneCell')=true:=by rw[e2,e17];simp[Value.oneCell']
   clear e2 e17;have hsz:=hKw.size;have Ep:=Lib.hid (e40);rw[Ep.out];refine wpOp_law rfl rfl (fun K hK=>?_);simp only[List.getElem_toArray,List.getElem_cons_succ,List.getElem_cons_zero];clear e40;refine wp_store_row 27 _ _ rfl w.heap.size _ rfl rfl 27 _ hz tale_info rfl hone ?_;refine hK.out _ _ ?_;have ep:=Ep.out;subst ep;have gz:=grown_row3 w3 w.heap.size #[x24,x39]
   exact⟨updB B 19,R,_,_,_,_,_,_,_,_,_,_,_,_,_,_,_,_,_,_,_,_,rfl,rfl,{ h' with HM:=h'.HM.far (by decide) gz (by omega),HK:=(fun q=>by cases q),F19:=(fun _=>⟨d18,setRow_heap w3 w.heap.size _ _ _ _ hz,(K6.trans hKw).grown gz (fun b hb=>by have:=Option.some.inj hb;omega)⟩),G:=(fun _ j hj=>by
         unfold updB;rw[if_neg (by omega)];have hj2:j=0∨j=1∨j=2∨j=3∨j=4∨j=5∨j=6∨j=7∨j=8∨j=9∨j=10∨j=11∨j=12∨j=13∨j=14∨j=15∨j=16∨j=17∨j=18:=by omega
         rcases hj2 with rfl|rfl|rfl|rfl|rfl|rfl|rfl|rfl|rfl|rfl|rfl|rfl|rfl|rfl|rfl|rfl|rfl|rfl|rfl<;>assumption) }⟩
  ·
   have hbi:B 20=false:=by simpa using (ready_use hi).2.1
   refine wpOp_law rfl rfl (fun K hK=>?_);simp only[List.getElem_toArray,List.getElem_cons_succ,List.getElem_cons_zero];go_simp;refine hK.out _ _ ?_;exact⟨updB B 20,R,_,_,_,_,_,_,_,_,_,_,_,_,_,_,_,_,_,_,_,_,rfl,rfl,{ h' with HM:=h'.HM.pass (by decide),F20:=(fun _=>rfl),G:=(fun q j hj=>by unfold updB;rw[if_neg (by omega)];exact h'.G q j hj) }⟩
 ·
  rintro listed a w3 ⟨B,R,x5,x22,x23,x24,x25,x26,x27,x28,x29,x30,x31,x32,x33,x34,x35,x36,x37,x38,x39,x40,rfl,rfl,h'⟩ hr;have hall:=ready_all hr rfl (by kernel_rfl);have b2:B 2=true:=hall 2 (by simp);have b7:B 7=true:=hall 7 (by simp);have b17:B 17=true:=hall 17 (by simp);have b19:B 19=true:=hall 19 (by simp);have b20:B 20=true:=hall 20 (by simp);clear hall;obtain⟨HM,HK,F0,F1,F2,F3,F4,F5,F6,F7,F8,F9,F10,F11,F12,F13,F14,F15,F16,F17,F18,F19,F20,G⟩:=h';clear hr;have e5:=F20 b20;obtain⟨-,hcell,HKw⟩:=F19 b19;obtain⟨⟨a2,c2,e2⟩,r2'⟩:=F2 b2;obtain⟨-,⟨a17,n17,c17,e17⟩,r17'⟩:=F17 b17;have oF:Own w3 w6.heap.size x24 b.fr:=by have o:=HM.fam.own 2 ⟨by decide,b2⟩;rw[r2'] at o;exact o
  have oR:Own w3 w6.heap.size x39 (r0++r1++r2):=by have o:=HM.fam.own 7 ⟨by decide,b7⟩;rw[r17'] at o;exact o
  have ap:=HM.fam.apart 2 7 ⟨by decide,b2⟩ ⟨by decide,b7⟩ (by decide);rw[r2',r17'] at ap;have HOF:=Lib.hid (oF.base_le (show w.heap.size≤w6.heap.size by omega));have HOR:=Lib.hid (oR.base_le (show w.heap.size≤w6.heap.size by omega));have HAP:=Lib.hid ap;have HKW:=Lib.hid HKw;clear HM HK G F0 F1 F2 F3 F4 F5 F6 F7 F8 F9 F10 F11 F12 F13 F14 F15 F16 F17 F18 F19 F20 ap oF oR HKw r2' r17';subst e5;go_wp2_with fail
  refine bodyPost_ret (results_row_tmp (by rfl) _ _ w.heap.size _ _ (0,0) _ (.bool true) rfl hcell rfl Tryz.underlying27 rfl tale_info) rfl ?_;exact⟨x24,x39,rfl,HOF.out,by rw[HRO.out];exact HOR.out,HAP.out,HKW.out⟩
end Go.Proofs.YtgikcfdckddgpaaGreat
