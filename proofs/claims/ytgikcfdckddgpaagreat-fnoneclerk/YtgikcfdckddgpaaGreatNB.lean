/- Gathered texts. -/
import Derived.Test.YtgikcfdckddgpaaGreatNA
import Derived.Test.YtgikcfdckddgpaaGreatMG
import Derived.Test.YtgikcfdckddgpaaGreatMZ
import Derived.Test.YtgikcfdckddgpaaGreatMS
set_option maxRecDepth 100000
set_option maxHeartbeats 8000000
namespace Go.Proofs.YtgikcfdckddgpaaGreat
open Go.ChangeShapes Go.WideShapes Go.ChangeAt Go.RowKit
theorem tale_lens {dss:List (List Dd)}{f rows:List Int}(h:taleB dss f rows=true):f.length≤12∧rows.length≤36:=by
 obtain⟨hw,hs,hr⟩:=tale_use h;have h12:=(events_law hw).1;rw[←show eventsB dss=evsW dss dss.length by rw[eventsB,if_pos hw]] at h12;have h1:=(src_use h12 hs).1;obtain⟨-,-,-,r2,-⟩:=tale_facts h
 have h3:(idxB rdE (eventsB dss)).length≤12:=by
  unfold idxB;rw[if_pos h12];have:=idxK_len rdE (eventsB dss) (eventsB dss).length;omega
 omega
theorem alike_any (w:World)(aC:Option Addr)(cC:Nat)(cs:List Int)(hC:RdB w w.heap.size aC cs)(hcl:cs.length≤4096)(v:Value)(dss:List (List Dd))(h:RdW w v dss)(hb:workB dss=true)(heq:∀f rows,slowB dss f rows=strictB dss f rows):
  Calls Tryz.prog 35 #[.slice aC cs.length cC,v] w fun e w'=>e = .returned (.bool true)∧Keep w w':=by
 obtain⟨u1,hm⟩:=work_small hb;have hx:dss.length≤1048576:=by omega
 have CT:=specTalesCount_any w v dss h hx hm;have hpos:=tc_pos hb;have htop:=(tcB_in dss).2;have HTA:Hid (∀m:Int,0≤m→m<tcB dss→taB dss m=true):=Lib.hid (fun m h0 h1=>by unfold taB;simp;omega);have HEQ:=Lib.hid heq;obtain⟨a0,c0,rfl,-⟩:=id h;generalize tcB dss=cn at CT hpos htop HTA;clear heq;go_enter Tryz.func35,Tryz.ntmps35
 go_wp2_with fail
 refine CT.mono ?_;rintro e w1 ⟨rfl,k1⟩;clear CT;go_wp2;go_loopw [6] (fun i wr=>∃k:Nat,k≤12∧i = .int .i64 k∧Keep w wr) (fun i _=>12-(intOf i).toNat)
 case atStart=>exact⟨0,by omega,rfl,k1⟩
 case round=>
  obtain⟨k,hk,rfl,kr⟩:=hrel;clear k1;by_cases hlt:k<12
  ·
   have j1:(k:Int)<12:=by omega
   go_wp2_with fail
   refine (pick_seed _ _ aC cC cs (hC.up kr) hcl (300+(k:Int)) cn (by omega) (by omega) hpos (by omega)).mono ?_;rintro e w2 ⟨m,rfl,m0,m1,rfl⟩;have htm:=HTA.out m m0 m1;go_wp2_with fail
   refine (specTaleAt_own _ _ dss m (h.keep kr) hx hm).mono ?_;rintro e w3 ⟨vF,vR,rfl,oF,oR,-,k3⟩;have ht:=(tale_at htm).2.2.1;obtain⟨f12,r36⟩:=tale_lens ht;have heqt:=HEQ.out (tfB dss m) (trB dss m);have czR:=oR.capz;generalize tfB dss m=f at *;generalize trB dss m=rows at *;have HoF:=Lib.hid oF.rd;have HoR:=Lib.hid oR.rd;have HcR:=Lib.hid czR;obtain⟨aF,cF,rfl,-⟩:=oF.rd;obtain⟨aR,cR,rfl,-⟩:=oR.rd;have CS:=Lib.hid (fun (W:World) (kW:Keep w3 W)=>implSlowOk_any W _ _ _ dss f rows ((h.keep (kr.trans k3)).keep kW) (HoF.out.keep kW) (HoR.out.keep kW) HcR.out hx hm (by omega) (by omega));have CX:=Lib.hid (fun (W:World) (kW:Keep w3 W)=>implStrictOk_any W _ _ _ dss f rows ((h.keep (kr.trans k3)).keep kW) (HoF.out.keep kW) (HoR.out.keep kW) HcR.out hx hm (by omega) (by omega));rw[←heqt] at CX;generalize slowB dss f rows=T at CS CX;have hTT:(T != T)=false:=by cases T<;>rfl
   clear heqt ht htm oF oR czR;have Kr3:=kr.trans k3;go_upto_region 6 with fail
   obtain⟨wB,hwB⟩:∃W:World,W=w3.alloc (.cells #[.slice aF f.length cF,.slice aR rows.length cR] 27):=⟨_,rfl⟩;have kB:Keep w3 wB:=by rw[hwB];exact (Keep.refl w3).alloc _
   have b0:wB.cell? ⟨w3.heap.size,0,none⟩=some (.slice aF f.length cF):=by rw[hwB];exact box_cell (Keep.refl _) 0
   have b1:wB.cell? ⟨w3.heap.size,1,none⟩=some (.slice aR rows.length cR):=by rw[hwB];exact box_cell (Keep.refl _) 1
   have lB:w3.heap.size<wB.drew.heap.size:=by rw[hwB,heap_drew,heap_size];omega
   rw[←hwB];clear hwB
   go_region_held3 (fun w'=>w'.cell? ⟨w3.heap.size,0,none⟩=some (.slice aF f.length cF)∧w'.cell? ⟨w3.heap.size,1,none⟩=some (.slice aR rows.length cR))
    (first|go_keep|(go_split_ands;refine⟨?_,?_⟩<;>(rw[kk.cell (by assumption)];assumption)))
    ((first
     | (go_at_call 11;refine (CS.out _ kB.drew).mono ?_;rintro e wz ⟨rfl,kk⟩;have z2:w3.heap.size<wz.heap.size:=Nat.lt_of_lt_of_le lB kk.size;have kB2:=kB.drew.trans kk)
     | (go_at_call 28;refine (CX.out _ kB2).mono ?_;clear kk;rintro e wy ⟨rfl,kk⟩)))
   all_goals
    have KY:=(Kr3.trans kB2).trans kk;clear CS CX b0 b1;go_wp2;go_roundw;case rel=>exact⟨k+1,by omega,by go_num,KY⟩
    case measure=>simp[intOf];omega
  ·
   obtain rfl:k=12:=by omega
   go_wp2_with fail
   refine (specNewBoard_right _ _ dss (h.keep kr) hb hx hm).mono ?_;rintro e w2 ⟨bv,nv,rv,bs,N,rfl,hV,-,k2⟩;have R0:=AtR.new hb;generalize newM dss=nb at *;have hV2:=hV.box k2.size;obtain⟨aW,aP,aL,aN,aX,aT,aF,aR,cW,cP,cL,cQ,cX,cT,cF,cR,rfl⟩:=hV2.rd.shapes;have K2:=kr.trans k2;go_upto_region 9 with fail
   obtain⟨w3,hw3⟩:∃W:World,W=w2.alloc (.cells #[.slice aW dss.length cW,.slice aP nb.plc.length cP,.slice aL nb.lst.length cL,.slice aN nb.nts.length cQ,.slice aX nb.nxt.length cX,.slice aT nb.sn.length cT,.slice aF nb.fr.length cF,.slice aR nb.rws.length cR] 94):=⟨_,rfl⟩;have k3:Keep w2 w3:=by rw[hw3];exact (Keep.refl w2).alloc _
   have s3:w3.heap.size=w2.heap.size+1:=by rw[hw3];exact heap_size _ _
   have hG3:w3.heap[w2.heap.size]? = some (.cells (BV.arr ⟨.slice aW dss.length cW,.slice aP nb.plc.length cP,.slice aL nb.lst.length cL,.slice aN nb.nts.length cQ,.slice aX nb.nxt.length cX,.slice aT nb.sn.length cT,.slice aF nb.fr.length cF,.slice aR nb.rws.length cR⟩) 94 (0,0)):=by rw[hw3];exact heap_alloc_new _ _
   have RB3:RdBd w3 ⟨.slice aW dss.length cW,.slice aP nb.plc.length cP,.slice aL nb.lst.length cL,.slice aN nb.nts.length cQ,.slice aX nb.nxt.length cX,.slice aT nb.sn.length cT,.slice aF nb.fr.length cF,.slice aR nb.rws.length cR⟩ dss nb:=by rw[hw3];exact hV2.rd
   rw[←hw3];clear hw3 hV2 hV;have K3:=K2.trans k3;have hGl:w2.heap.size<w3.heap.size:=by omega
   have wG:w.heap.size≤w2.heap.size:=K2.size;generalize w2.heap.size=G at *;have oS0:Own (w3.alloc (.cells #[] 2)) w3.heap.size (.slice (some ⟨w3.heap.size,0,none⟩) 0 0) []:=World.ownsRow_lit w3 #[] 0 (Nat.le_refl _) (by decide) rfl;have k4:Keep w3 (w3.alloc (.cells #[] 2)):=(Keep.refl w3).alloc _;have hG4:=(Below.block k4 G hGl).trans hG3;have RB4:=RB3.keep k4;have HR0:=Lib.hid (show _∧_∧_∧_∧_∧_ from ⟨R0,hG4,RB4,oS0,k4.size,K3.trans k4⟩);have B3:G<w3.heap.size:=hGl;obtain⟨i0,hi,hz0,hz1,hz2⟩:=info_parts Tryz.infoI;clear R0 hG4 RB4 oS0 k4 RB3 hG3 K3 k3 K2 k2 kr s3 hlt hk;go_wp2;go_loopw [11,12] (fun st i wr=>∃(k:Nat) (vs:Value) (stps:List Int) (bv:BV) (b:Bd),vs=st∧i = .int .i64 k∧Hid (AtR dss stps b k∧wr.heap[G]? = some (.cells bv.arr 94 (0,0))∧RdBd wr bv dss b∧Own wr w3.heap.size vs stps∧w3.heap.size≤wr.heap.size∧Keep w wr)) (fun _ i _=>40-(intOf i).toNat)
   case atStart=>exact⟨0,_,[],⟨.slice aW dss.length cW,.slice aP nb.plc.length cP,.slice aL nb.lst.length cL,.slice aN nb.nts.length cQ,.slice aX nb.nxt.length cX,.slice aT nb.sn.length cT,.slice aF nb.fr.length cF,.slice aR nb.rws.length cR⟩,nb,rfl,rfl,HR0⟩
   case round=>
    clear HR0;obtain⟨k,vs,stps,bv,b,rfl,rfl,HI⟩:=hrel;obtain⟨RN,hG,RB,oS,w3r,kr⟩:=HI.out;clear HI;have k24:k≤24:=by have:=RN.mes;omega
    have j1:(k:Int)<40:=by omega
    have hBD:=RN.run.board hb;have CP:=specPossible_any wr bv dss b RB (sz_board hBD);rw[show possB dss b=possM dss b by rw[possB,if_pos hBD]] at CP;have hpl:=poss_len hBD;have hst:=RN.len;obtain⟨aS,cS,eS,-⟩:=oS.rd;rw[hst] at eS;subst eS;have sr:=kr.size;have HRN:=Lib.hid RN;clear RN;go_wp2_with (first|refine wpList_load_row rfl 94 _ rfl G rfl 94 _ (0,0) _ hG Tryz.underlying94 rfl board_info ?_|fail)
    refine CP.mono ?_;rintro e w4 ⟨vp,rfl,op,k4⟩;clear CP;obtain⟨ap,cp,rfl,-⟩:=op.rd;have hG4:=(Below.block k4 G (by have:=World.ownsRow.lt oS;have:=(Array.getElem?_eq_some_iff.1 hG).1;omega)).trans hG;have RB4:=RB.keep k4;have oS4:=oS.keep k4;have K4:=kr.trans k4;have s4:=k4.size;clear hG RB oS;by_cases hp0:(possM dss b).length=0
    ·
     have he:endM dss b=true:=none_ended (List.eq_nil_of_length_eq_zero hp0);have heR:endM dss (runM dss (eventsB dss) (newM dss) stps)=true:=by rw[HRN.out.eq];exact he
     have hsl:=run_slow hb stps heR;have hstr:=hsl;rw[HEQ.out] at hstr;have CTO:=specTaleOf_ended w4 _ _ dss stps (h.keep K4) oS4.rd hb (by omega) hx hm heR;have hBD2:=board_all hBD;have l1:(runM dss (eventsB dss) (newM dss) stps).fr.length≤1048576:=by rw[HRN.out.eq];have:=hBD2.2.2.2.2.2.2.2.1;omega
     have l2:(rowsOf (runM dss (eventsB dss) (newM dss) stps)).length≤1048576:=by
      rw[HRN.out.eq];unfold rowsOf;have q0:=hBD2.2.2.2.2.2.2.2.2.1 0 (by omega);have q1:=hBD2.2.2.2.2.2.2.2.2.1 1 (by omega);have q2:=hBD2.2.2.2.2.2.2.2.2.1 2 (by omega);rw[List.length_append,List.length_append];omega
     generalize (runM dss (eventsB dss) (newM dss) stps).fr=f at *;generalize rowsOf (runM dss (eventsB dss) (newM dss) stps)=rows at *;clear he heR HRN hG4 RB4 oS4 hBD2;have hq0:(((possM dss b).length:Int)==0)=true:=by simp[hp0]
     generalize (possM dss b).length=pl at *;clear op;subst hp0;go_wp2_with fail
     refine CTO.mono ?_;rintro e w7 ⟨vF,vR,rfl,oF,oR,-,k7⟩;have K7:=K4.trans k7;have HcR:=Lib.hid oR.capz;have HoF:=Lib.hid oF.rd;have HoR:=Lib.hid oR.rd;obtain⟨aF2,cF2,rfl,-⟩:=oF.rd;obtain⟨aR2,cR2,rfl,-⟩:=oR.rd;have CS:=Lib.hid (fun (W:World) (kW:Keep w7 W)=>implSlowOk_any W _ _ _ dss f rows ((h.keep K7).keep kW) (HoF.out.keep kW) (HoR.out.keep kW) HcR.out hx hm l1 l2);have CX:=Lib.hid (fun (W:World) (kW:Keep w7 W)=>implStrictOk_any W _ _ _ dss f rows ((h.keep K7).keep kW) (HoF.out.keep kW) (HoR.out.keep kW) HcR.out hx hm l1 l2);rw[hsl] at CS;rw[hstr] at CX;clear CTO oF oR hsl hstr;go_upto_region 19 with fail
     obtain⟨wB,hwB⟩:∃W:World,W=w7.alloc (.cells #[.slice aF2 f.length cF2,.slice aR2 rows.length cR2] 27):=⟨_,rfl⟩;have kB:Keep w7 wB:=by rw[hwB];exact (Keep.refl w7).alloc _
     have b0:wB.cell? ⟨w7.heap.size,0,none⟩=some (.slice aF2 f.length cF2):=by rw[hwB];exact box_cell (Keep.refl _) 0
     have b1:wB.cell? ⟨w7.heap.size,1,none⟩=some (.slice aR2 rows.length cR2):=by rw[hwB];exact box_cell (Keep.refl _) 1
     have lB:w7.heap.size<wB.heap.size:=by rw[hwB,heap_size];omega
     rw[←hwB];clear hwB;go_wp2_with fail
     refine (CS.out _ kB).mono ?_;rintro e w8 ⟨rfl,k8⟩;have c0:=(k8.cell lB).trans b0;have c1:=(k8.cell lB).trans b1;have kB8:=kB.trans k8;clear b0 b1 CS;go_wp2_with fail
     refine (CX.out _ kB8).mono ?_;rintro e w9 ⟨rfl,k9⟩;have K9:=(K7.trans kB8).trans k9;clear c0 c1 CX;go_wp2;go_ret;exact⟨rfl,K9⟩
    ·
     have j2:¬((possM dss b).length:Int)=0:=by omega
     have e0:(((possM dss b).length:Int)==0)=false:=by simpa using j2
     go_wp2_with fail
     refine (pick_seed _ _ aC cC cs (hC.up K4) hcl (400+(k:Int)) ((possM dss b).length:Int) (by omega) (by omega) (by omega) (by omega)).mono ?_;rintro e w5 ⟨m,rfl,m0,m1,rfl⟩;obtain⟨mn,rfl⟩:=Int.eq_ofNat_of_zero_le m0;have hmn:mn<(possM dss b).length:=by omega
     have hs:=isB_get hmn;obtain⟨a',c',e',hcp⟩:=op.rd;simp only[Value.slice.injEq,true_and] at e';obtain⟨rfl,rfl⟩:=e';rcases hcp with h0|⟨bp,op',rfl,hbp,hcp⟩
     · exfalso;rw[h0] at hmn;simp at hmn
     have dp:=hcp mn hmn;generalize (possM dss b).getD mn 0=s at *;generalize hPL:(possM dss b).length=pl at *;have CSt:=specStepped_right w5 bv dss b s RB4 (sz_board hBD) hBD;rw[hs] at CSt;have HSB:Hid (stepB dss b s=stepM dss (eventsB dss) b s):=Lib.hid (by unfold stepB;rw[if_pos hs]);have HRN2:=Lib.hid (HRN.out.step hb hs);clear hcp hs hPL op;go_wp2_with (first|refine wpList_load_row rfl 94 _ rfl G rfl 94 _ (0,0) _ hG4 Tryz.underlying94 rfl board_info ?_|fail)
     refine CSt.mono ?_;rintro e w6 ⟨bv6,nv6,rv6,bs6,N6,rfl,hV6,hbs6,k6⟩;rw[HSB.out] at hV6;generalize stepM dss (eventsB dss) b s=b6 at *;have K6:=K4.trans k6;have s6:=k6.size;have lG:=(Array.getElem?_eq_some_iff.1 hG4).1;have hG6:=(Below.block k6 G lG).trans hG4;have oS6:=oS4.keep k6;obtain⟨aW6,aP6,aL6,aN6,aX6,aT6,aF6,aR6,cW6,cP6,cL6,cQ6,cX6,cT6,cF6,cR6,rfl⟩:=hV6.rd0.shapes;have HG7:=Lib.hid (grown_row3 w6 G #[.slice aW6 dss.length cW6,.slice aP6 b6.plc.length cP6,.slice aL6 b6.lst.length cL6,.slice aN6 b6.nts.length cQ6,.slice aX6 b6.nxt.length cX6,.slice aT6 b6.sn.length cT6,.slice aF6 b6.fr.length cF6,.slice aR6 b6.rws.length cR6]);have hG7:=Lib.hid (setRow_heap w6 G _ #[.slice aW6 dss.length cW6,.slice aP6 b6.plc.length cP6,.slice aL6 b6.lst.length cL6,.slice aN6 b6.nts.length cQ6,.slice aX6 b6.nxt.length cX6,.slice aT6 b6.sn.length cT6,.slice aF6 b6.fr.length cF6,.slice aR6 b6.rws.length cR6] _ _ hG6);have hV7:=hV6.far HG7.out (fun q hq=>by have:=Option.some.inj hq;omega)
     have oS7:=oS6.kept HG7.out (by
      cases e:(Value.slice aS k cS).ownBlock with
      |none=>exact .inl rfl
      |some q=>exact .inr (fun e'=>by have:=oS6.ge q e;have:=Option.some.inj e';omega))
     have K7:Keep w (w6.setRow G #[.slice aW6 dss.length cW6,.slice aP6 b6.plc.length cP6,.slice aL6 b6.lst.length cL6,.slice aN6 b6.nts.length cQ6,.slice aX6 b6.nxt.length cX6,.slice aT6 b6.sn.length cT6,.slice aF6 b6.fr.length cF6,.slice aR6 b6.rws.length cR6]):=K6.grown HG7.out (fun q hq=>by have:=Option.some.inj hq;omega);have hlS:=World.ownsRow.lt oS4;have HV7:=Lib.hid hV7;have HOS7:=Lib.hid oS7;have HK7:=Lib.hid K7;have w57:w5.heap.size≤(w6.setRow G #[.slice aW6 dss.length cW6,.slice aP6 b6.plc.length cP6,.slice aL6 b6.lst.length cL6,.slice aN6 b6.nts.length cQ6,.slice aX6 b6.nxt.length cX6,.slice aT6 b6.sn.length cT6,.slice aF6 b6.fr.length cF6,.slice aR6 b6.rws.length cR6]).heap.size:=Nat.le_trans s6 HG7.out.size;clear hV6 hV7 oS6 oS7 K7 RB4 oS4 CSt HRN HG7;go_upto_region 17 with (first|refine wpList_store_row rfl 94 _ _ rfl G _ rfl rfl 94 _ hG6 board_info rfl (by simp[Value.oneCell']) ?_|fail)
     obtain⟨w7,hw7⟩:∃W:World,W=w6.setRow G #[.slice aW6 dss.length cW6,.slice aP6 b6.plc.length cP6,.slice aL6 b6.lst.length cL6,.slice aN6 b6.nts.length cQ6,.slice aX6 b6.nxt.length cX6,.slice aT6 b6.sn.length cT6,.slice aF6 b6.fr.length cF6,.slice aR6 b6.rws.length cR6]:=⟨_,rfl⟩;rw[←hw7] at HV7 HOS7 HK7 hG7 w57 ⊢;clear hw7 hG6 hG4;have kA:Keep w7 (w7.alloc (.cells #[.int .i64 s] 2)):=(Keep.refl w7).alloc _
     have oS8:(w7.alloc (.cells #[.int .i64 s] 2)).ownsRow w3.heap.size 2 1 (.slice aS k cS) k (stps.map (Value.int .i64)):=by
      have o:=HOS7.out.keep kA;unfold Own at o;rw[hst] at o;exact o
     have HkA:=Lib.hid kA;have w37:w3.heap.size≤w7.heap.size:=by omega
     clear kA;go_wp2_with (at_builtin;refine wpList_append_own _ rfl _ _ 25 rfl w3.heap.size 2 i0 (.int .i64 0) 1 8 Tryz.underlying25 hi hz0 hz1 hz2 rfl (by decide) _ _ _ rfl oS8 ⟨_,0,none⟩ 1 1 [.int .i64 s] rfl rfl ?b1 ?b2 ?b3 ?b4 ?b5 ?_)
     case b1=>
      intro j u hj
      match j,hj with
      | 0,hj=>simp at hj;subst hj;simp[Addr.add]
     case b2=>intro u hu;simp at hu;subst hu;rfl
     case b3=>unfold maxLen;omega
     case b4=>omega
     case b5=>simp;omega
     intro v' w9 hown9 hgrow9 _
     have o9:Own w9 w3.heap.size v' (stps++[s]):=by
      unfold Own;rw[List.length_append,hst,List.map_append];exact hown9
     have hV9:=(HV7.out.keep HkA.out).far hgrow9 (fun q hq=>by have:=(hlS q hq).2;omega);have hlt7:=HkA.out.size;have hG9:=(hgrow9.block G (by omega) (fun e=>by have:=(World.ownsRow.lt oS8 G e.symm).1;omega)).trans ((Below.block HkA.out G (by omega)).trans hG7.out);have K9:=(HK7.out.trans HkA.out).grown hgrow9 (fun q hq=>by have:=(World.ownsRow.lt oS8 q hq).1;omega);have w39:w3.heap.size≤w9.heap.size:=Nat.le_trans w37 (Nat.le_trans hlt7 hgrow9.size);have HALL:=Lib.hid (show _∧_∧_∧_∧_∧_ from ⟨HRN2.out,hG9,hV9.rd0,o9,w39,K9⟩);clear hown9 hgrow9 hV9 hG9 K9 oS8 o9;go_wp2;go_roundw;case rel=>exact⟨k+1,_,stps++[s],⟨.slice aW6 dss.length cW6,.slice aP6 b6.plc.length cP6,.slice aL6 b6.lst.length cL6,.slice aN6 b6.nts.length cQ6,.slice aX6 b6.nxt.length cX6,.slice aT6 b6.sn.length cT6,.slice aF6 b6.fr.length cF6,.slice aR6 b6.rws.length cR6⟩,b6,rfl,by go_num,HALL⟩
     case measure=>simp[intOf];omega
end Go.Proofs.YtgikcfdckddgpaaGreat
