/- Gathered texts. -/
import Derived.Test.YtflehmepjhikcaaDoorMC
import Derived.BigRegion
import Derived.Deep.Cut
import Derived.BigQuiet
import Derived.Lib.Hide
import Derived.Test.YtflehmepjhikcaaDoorMB
import Derived.Deep.RegionLaw
import Derived.RegionTactic
import Derived.Deep.AppendLies
import Derived.Maps.AppendAt
set_option maxRecDepth 100000
set_option maxHeartbeats 8000000
namespace Go.Proofs.YtflehmepjhikcaaDoor
open Go.ChangeShapes Go.WideShapes Go.ChangeAt Go.RowKit
theorem isFrom_any (lo x hi:Int)(w:World):
  Calls Tryd.prog 73 #[.int .i64 lo,.int .i64 x,.int .i64 hi] w fun e w'=>e = .returned (.bool (inB x lo hi))∧w'=w:=by
 go_enter Tryd.func73,Tryd.ntmps73
 go_wp2
 all_goals
  go_ret;exact⟨ret_bool (by rw[Bool.eq_iff_iff];unfold inB;simp;omega),rfl⟩
theorem refusedOf_any (w:World)(vR vV:Value)(rs vs:List Int)(n:Int)(a:Addr)(hr:Rd w vR rs)(hv:Rd w vV vs)(hn:NoAsk w a)(h0:0≤n)(h1:n≤12)(lr:rs.length≤2097152)(lv:vs.length≤2097152):
  Calls Tryd.prog 56 #[.agg #[vR,vV],.int .i64 n] w fun e w'=>∃v,e = .returned v∧RefV a (okA n rs vs) v∧Keep w w':=by
 obtain⟨aR,cR,rfl,hr⟩:=hr;obtain⟨aV,cV,rfl,hv⟩:=hv;have HE:Hid (okA n rs vs=((decide (rs.length≤6)&&decide (rs.length=vs.length))&&askP n rs vs rs.length)):=Lib.hid rfl;have hw:IntKind.i64.wrap (n-1)=n-1:=by rw[IntKind.wrap_i64];omega
 have K1:Keep w (w.alloc (.cells #[.slice aR rs.length cR,.slice aV vs.length cV] 27)):=(Keep.refl w).alloc _;have HR:=Lib.hid hr;have HV:=Lib.hid hv;clear hr hv;obtain⟨wA,hwA⟩:∃W:World,W=w.alloc (.cells #[.slice aR rs.length cR,.slice aV vs.length cV] 27):=⟨_,rfl⟩;rw[←hwA] at K1;have b0:wA.cell? ⟨w.heap.size,0,none⟩=some (.slice aR rs.length cR):=by rw[hwA];exact box_cell (Keep.refl _) 0
 have b1:wA.cell? ⟨w.heap.size,1,none⟩=some (.slice aV vs.length cV):=by rw[hwA];exact box_cell (Keep.refl _) 1
 have g0:wA.cell? ⟨0,0,none⟩=some (erV a):=(hn.keep K1).out;clear hn;by_cases hl:rs.length=vs.length
 ·
  have hle:((rs.length:Int) != (vs.length:Int))=false:=by rw[hl];simp
  by_cases h6:6<rs.length
  ·
   have d6:(6:Int)<(rs.length:Int):=by omega
   have HN:Hid (okA n rs vs=false):=Lib.hid (by rw[HE.out,decide_eq_false (by omega)];rfl);clear hl;go_enter Tryd.func56,Tryd.ntmps56
   go_upto_region 1 with fail
   rw[←hwA];clear hwA;go_wp2;go_ret;exact⟨_,rfl,.inr ⟨HN.out,_,rfl⟩,K1⟩
  ·
   have d6:decide ((6:Int)<(rs.length:Int))=false:=by rw[decide_eq_false_iff_not];omega
   have XL:=Lib.hid hl;have HN:Hid (okA n rs vs=askP n rs vs rs.length):=Lib.hid (by rw[HE.out,decide_eq_true (by omega),decide_eq_true hl];rfl);clear hl;go_enter Tryd.func56,Tryd.ntmps56
   go_upto_region 1 with fail
   rw[←hwA];clear hwA;go_wp2;go_loop [5,6,26] (fun _ _ i=>∃k:Nat,k≤rs.length∧i = .int .i64 k∧Hid (askP n rs vs k=true)) (fun _ _ i=>rs.length-(intOf i).toNat)
   case atStart=>exact⟨0,Nat.zero_le _,rfl,Lib.hid rfl⟩
   case round=>
    obtain⟨k,hk,rfl,hq⟩:=hrel;by_cases hlt:k<rs.length
    ·
     have hlt2:k<vs.length:=by have:=XL.out;omega
     rcases HR.out with q|⟨bR,oR,rfl,hbR,dR⟩
     · exfalso;rw[q] at hlt;simp at hlt
     rcases HV.out with q|⟨bV,oV,rfl,hbV,dV⟩
     · exfalso;rw[q] at hlt2;simp at hlt2
     have e1:=(K1.cell hbR).trans (dR k hlt);have e2:=(K1.cell hbV).trans (dV k hlt2);have i1:(0:Int)≤(k:Int):=Int.natCast_nonneg _;have i2:(k:Int)<(rs.length:Int):=by omega
     have i3:(k:Int)<(vs.length:Int):=by omega
     have XS:Hid (askP n rs vs (k+1)=((inB (rs.getD k 0) 0 (n-1)||inB (rs.getD k 0) 100 102)&&inB (vs.getD k 0) 0 9)):=Lib.hid (by
      show (askP n rs vs k&&_)=_;rw[hq.out,Bool.true_and]
      rfl)
     have C1:=fun (W:World)=>isFrom_any 0 (rs.getD k 0) (n-1) W
     have C2:=fun (W:World)=>isFrom_any 100 (rs.getD k 0) 102 W
     have C3:=fun (W:World)=>isFrom_any 0 (vs.getD k 0) 9 W
     generalize rs.getD k 0=x at e1 C1 C2 XS;generalize vs.getD k 0=y at e2 C3 XS;generalize inB x 0 (n-1)=A at C1 XS;generalize inB x 100 102=A2 at C2 XS;generalize inB y 0 9=B at C3 XS;clear dR dV hlt2;go_wp2_with fail
     refine (C1 _).mono ?_;rintro e w1 ⟨rfl,rfl⟩;cases A
     ·
      go_wp2_with fail
      refine (C2 _).mono ?_;rintro e w2 ⟨rfl,rfl⟩;cases A2
      ·
       clear C3;go_wp2;go_ret;exact⟨_,rfl,.inr ⟨by rw[HN.out];exact askP_off (k:=k+1) (by rw[XS.out];rfl) (by omega),_,rfl⟩,K1⟩
      ·
       go_wp2_with fail
       refine (C3 _).mono ?_;rintro e w3 ⟨rfl,rfl⟩;cases B
       ·
        go_wp2;go_ret;exact⟨_,rfl,.inr ⟨by rw[HN.out];exact askP_off (k:=k+1) (by rw[XS.out];rfl) (by omega),_,rfl⟩,K1⟩
       ·
        go_wp2;go_round
        case rel=>exact⟨k+1,by omega,by go_num,Lib.hid (by rw[XS.out];rfl)⟩
        case measure=>simp[intOf];omega
     ·
      go_wp2_with fail
      refine (C3 _).mono ?_;rintro e w3 ⟨rfl,rfl⟩;cases B
      ·
       go_wp2;go_ret;exact⟨_,rfl,.inr ⟨by rw[HN.out];exact askP_off (k:=k+1) (by rw[XS.out];rfl) (by omega),_,rfl⟩,K1⟩
      ·
       go_wp2;go_round
       case rel=>exact⟨k+1,by omega,by go_num,Lib.hid (by rw[XS.out];rfl)⟩
       case measure=>simp[intOf];omega
    ·
     obtain rfl:k=rs.length:=by omega
     go_wp2;go_ret;exact⟨_,rfl,.inl ⟨by rw[HN.out];exact hq.out,rfl⟩,K1⟩
 ·
  have hle:((rs.length:Int) != (vs.length:Int))=true:=by simp;omega
  have HN:Hid (okA n rs vs=false):=Lib.hid (by rw[HE.out,decide_eq_false hl,Bool.and_false,Bool.false_and]);clear hl;go_enter Tryd.func56,Tryd.ntmps56
  go_upto_region 1 with fail
  rw[←hwA];clear hwA;go_wp2;go_ret;exact⟨_,rfl,.inr ⟨HN.out,_,rfl⟩,K1⟩
def RaV (w:World)(base:Nat)(l:List UInt8)(uR uV:Value):Prop:=∃rs vs,Own w base uR rs∧Own w base uV vs∧rs.length≤7∧vs.length≤7∧(uR.ownBlock=none∨uR.ownBlock≠uV.ownBlock)∧(riT l=true→rs=(wsI l).map rR∧vs=(wsI l).map rV)
theorem ws_take {f:List UInt8→Int}(ws:List (List UInt8)){k:Nat}(h:k<ws.length):(ws.take (k+1)).map f=(ws.take k).map f++[f (ws.getD k [])]:=map_take ws h
theorem ri_off {l:List UInt8}{k:Nat}(hk:k<(wsI l).length)(h:rP ((wsI l).getD k [])=false):riT l=false:=by
 unfold riT
 have:(wsI l).all rP=false:=by
  rw[Bool.eq_false_iff];intro q;rw[List.all_eq_true] at q;rw[q _ (mem_at _ hk)] at h;cases h
 rw[this,Bool.false_and]
theorem ri_end {l:List UInt8}(h:∀i,i<(wsI l).length→rP ((wsI l).getD i [])=true):riT l=okA 6 ((wsI l).map rR) ((wsI l).map rV):=by
 unfold riT
 have:(wsI l).all rP=true:=by
  rw[List.all_eq_true];intro x hx;obtain⟨i,hi,e⟩:=List.getElem_of_mem hx;have:=h i hi;rw[List.getD_eq_getElem?_getD,List.getElem?_eq_getElem hi] at this;rw[←e];exact this
 rw[this,Bool.true_and]
theorem u8_ne (a:UInt8):((a.toNat:Int) != 61)=!decide (a=61):=by
 rw[Bool.eq_iff_iff];simp only[bne_iff_ne,ne_eq,Bool.not_eq_true',decide_eq_false_iff_not];constructor
 · rintro h rfl;exact h rfl
 · intro h e;exact h (UInt8.toNat.inj (by have:(61:UInt8).toNat=61:=rfl;omega))
theorem cellK_keep {w w':World}{b o:Nat}{v:Value}(h:w.cell? ⟨b,o,none⟩=some v)(k:Keep w w'):w'.cell? ⟨b,o,none⟩=some v:=(k.cell (World.block_lt_of_cell? w ⟨b,o,none⟩ h)).trans h
theorem readAsk_any (l:List UInt8)(w:World)(a:Addr)(hl:l.length≤1048576)(hn:NoAsk w a)(hm:∃m,w.cell? ⟨4,0,none⟩=some (.int .i64 m)):
  Calls Tryd.prog 32 #[strV l] w fun e w'=>∃uR uV u,e = .returned (.tuple #[.agg #[uR,uV],u])∧RefV a (riT l) u∧RaV w' w.heap.size l uR uV∧Keep w w':=by
 have A0:=Lib.hid (AK.start w);have XN:=Lib.hid hn;have K2:Keep w ((w.alloc (askC nilVK nilVK)).alloc (askC nilVK nilVK)):=((Keep.refl w).alloc _).alloc _;have CS:=spl_any l [32] 7 ((w.alloc (askC nilVK nilVK)).alloc (askC nilVK nilVK)) hl (by simp) (by omega) (by omega) (hm.elim fun m q=>⟨m,cellK_keep q K2⟩);have h7:=ri_seven l;have HW:Hid (wsI l=Lib.splitN l [32] 7):=Lib.hid rfl;rw[←HW.out] at CS;obtain⟨ws,hws⟩:∃ws,ws=wsI l:=⟨_,rfl⟩;rw[←hws] at CS h7;have XW:=Lib.hid hws;obtain⟨i0,hi0,hz0,hz1,hz2⟩:=info_parts Tryd.infoI;have hZN:w.heap.size≠0:=fun e=>by have:=World.block_lt_of_cell? w ⟨0,0,none⟩ hn;simp only at this;omega
 clear hn hm K2 HW hws;go_enter Tryd.func32,Tryd.ntmps32
 go_wp2_with fail
 refine CS.mono ?_;rintro e w1 ⟨c,rfl,hc,hgs,k1⟩;have A1:=Lib.hid (A0.out w1 k1);have XC:=Lib.hid hc;obtain⟨G,hG⟩:∃G,G=((w.alloc (askC nilVK nilVK)).alloc (askC nilVK nilVK)).heap.size:=⟨_,rfl⟩;have hG1:w.heap.size+1<G:=by rw[hG,heap_size,heap_size];omega
 rw[←hG] at hgs ⊢;have XC:Hid (AtSp w1 G ws):=Lib.hid (by rw[hG];exact hc);clear A0 hc k1 CS hG;go_wp2;go_loopw [6,11] (fun s6 i wr=>∃(k:Nat) (uR uV:Value),k≤ws.length∧i = .int .i64 k∧(∃u,s6=u)∧Hid (AK w w1 wr uR uV ((ws.take k).map rR) ((ws.take k).map rV))∧Hid (∀i,i<k→rP (ws.getD i [])=true)) (fun _ i _=>ws.length-(intOf i).toNat)
 case atStart=>exact⟨0,_,_,Nat.zero_le _,rfl,⟨_,rfl⟩,A1,Lib.hid (fun i hi=>absurd hi (Nat.not_lt_zero _))⟩
 case round=>
  obtain⟨k,uR,uV,hk,rfl,⟨u6,rfl⟩,hA,hq⟩:=hrel;by_cases hlt:k<ws.length
  ·
   have d0:=(hA.out.cell (a:=⟨G,k,none⟩) hgs (by simp only;omega)).trans (XC.out k hlt);have i1:(0:Int)≤(k:Int):=Int.natCast_nonneg _;have i2:(k:Int)<(ws.length:Int):=by omega
   have HF:Hid (rP (ws.getD k [])=false→riT l=false):=Lib.hid (fun h=>ri_off (k:=k) (by rw[←XW.out];exact hlt) (by rw[←XW.out];exact h));have HM1:Hid ((ws.take (k+1)).map rR=(ws.take k).map rR++[rR (ws.getD k [])]):=Lib.hid (ws_take ws hlt);have HM2:Hid ((ws.take (k+1)).map rV=(ws.take k).map rV++[rV (ws.getD k [])]):=Lib.hid (ws_take ws hlt)
   have HQ:Hid (rP (ws.getD k [])=true→∀i,i<k+1→rP (ws.getD i [])=true):=Lib.hid (fun h i hi=>by
    by_cases e:i=k
    · rw[e];exact h
    · exact hq.out i (by omega))
   obtain⟨x,hxe⟩:∃x,x=ws.getD k []:=⟨_,rfl⟩;rw[←hxe] at d0 HF HM1 HM2 HQ;obtain⟨rsk,hrs⟩:∃r,r=(ws.take k).map rR:=⟨_,rfl⟩;obtain⟨vsk,hvs⟩:∃r,r=(ws.take k).map rV:=⟨_,rfl⟩;have hlr:rsk.length≤7:=by rw[hrs,List.length_map,List.length_take];omega
   have hlv:vsk.length≤7:=by rw[hvs,List.length_map,List.length_take];omega
   rw[←hrs,←hvs] at hA;rw[←hrs] at HM1;rw[←hvs] at HM2;clear hxe hrs hvs;have HP:Hid (rP x=(decide (x.length=3)&&decide (x.getD 1 0=61))):=Lib.hid rfl;by_cases h3:x.length=3
   ·
    have n3:((x.length:Int) != 3)=false:=by rw[h3];rfl
    have I1:=idx_str x 1 1 rfl (by omega);by_cases h61:x.getD 1 0=61
    ·
     have HPT:Hid (rP x=true):=Lib.hid (by rw[HP.out,decide_eq_true h3,decide_eq_true h61];rfl);have n61:(((x.getD 1 0).toNat:Int) != 61)=false:=by rw[u8_ne,decide_eq_true h61];rfl
     have I0:=idx_str x 0 0 rfl (by omega);have I2:=idx_str x 2 2 rfl (by omega);have HR:Hid (rR x=akN (x.getD 0 0)):=Lib.hid rfl;have HV:Hid (rV x=dgN (x.getD 2 0)):=Lib.hid rfl;have HQ2:=Lib.hid (HQ.out HPT.out);generalize x.getD 1 0=x1 at I1 n61;generalize x.getD 0 0=x0 at I0 HR;generalize x.getD 2 0=x2 at I2 HV;clear HP HF HQ h61 h3;go_upto_region 7 with fail
     obtain⟨y,hy⟩:∃y,y=akN x0:=⟨_,rfl⟩;obtain⟨z,hz⟩:∃z,z=dgN x2:=⟨_,rfl⟩;have CAN:=fun W=>askedNamed_any x0 W
     have CDN:=fun W=>digitNamed_any x2 W
     rw[←hy] at CAN HR;rw[←hz] at CDN HV;rw[HR.out] at HM1;rw[HV.out] at HM2;clear hy hz HR HV;go_cut [6] from 35 to 43 (fun s6 wx=>s6=strV x∧∃u,Hid (AK w w1 wx u uV (rsk++[y]) vsk))
     case first=>
      have e0:wr.cell? ⟨w.heap.size+1,0,none⟩=some uR:=hA.out.cells.1;have e2:(wr.alloc (.cells #[.int .i64 y] 2)).cell? ⟨w.heap.size+1,0,none⟩=some uR:=(hA.out.keep ((Keep.refl wr).alloc _)).cells.1;have AD:=Lib.hid (hA.out.keep (((Keep.refl wr).alloc (.cells #[.int .i64 y] 2)).drew));have oQ:(wr.alloc (.cells #[.int .i64 y] 2)).drew.ownsRow w1.heap.size 2 1 uR rsk.length (rsk.map (Value.int .i64)):=AD.out.R;have sQ:w1.heap.size≤(wr.alloc (.cells #[.int .i64 y] 2)).drew.heap.size:=AD.out.size;go_wp2_with fail
      go_region_law ((first
       | (go_simp;(with_reducible refine (CAN _).mono ?_);rintro e wq ⟨rfl,rfl⟩)
       | (refine step_append_at rfl (.tmp 28) (.tmp 32) 25 rfl w1.heap.size 2 i0 (.int .i64 0) 1 8 Tryd.underlying25 hi0 hz0 hz1 hz2 rfl (by decide) uR rsk.length (rsk.map (Value.int .i64)) rfl oQ ⟨_,0,none⟩ 1 1 [.int .i64 y] rfl rfl (fun j u hj=>by match j,hj with|0,hj=>simp at hj;subst hj;simp[Addr.add]) (fun u hu=>by simp at hu;subst hu;rfl) (by unfold maxLen;omega) (by omega) sQ ?_;intro vB wE hown hgrow hblk;have oB:=own_hit hown;have Bx:=(hgrow.block _ AD.out.lt (ne_own AD.out.R AD.out.low)).trans AD.out.box;have qB:=cell_of_row wE _ 0 _ _ (0,0) Bx;have fB:=frozen_of_row wE _ 0 _ _ Bx;have DB:=Lib.hid (hA.out.pushR (((Keep.refl wr).alloc (.cells #[.int .i64 y] 2)).drew) oB hgrow hblk);obtain⟨aB,cB,hvB,-⟩:=oB.rd;rw[List.length_append,List.length_singleton] at hvB;subst hvB;clear hown hgrow hblk oB Bx)))
      all_goals
       go_wp2;go_meet;case rel=>exact⟨rfl,_,DB⟩
     case rest=>
      obtain⟨rfl,uR2,B1⟩:=hcut;obtain⟨wv,hwv⟩:∃W:World,W=wc:=⟨_,rfl⟩;rw[←hwv] at B1 ⊢;clear hwv hA d0;have e0:wv.cell? ⟨w.heap.size+1,1,none⟩=some uV:=B1.out.cells.2;have e2:(wv.alloc (.cells #[.int .i64 z] 2)).cell? ⟨w.heap.size+1,1,none⟩=some uV:=(B1.out.keep ((Keep.refl wv).alloc _)).cells.2;have AD:=Lib.hid (B1.out.keep (((Keep.refl wv).alloc (.cells #[.int .i64 z] 2)).drew));have oQ:(wv.alloc (.cells #[.int .i64 z] 2)).drew.ownsRow w1.heap.size 2 1 uV vsk.length (vsk.map (Value.int .i64)):=AD.out.V;have sQ:w1.heap.size≤(wv.alloc (.cells #[.int .i64 z] 2)).drew.heap.size:=AD.out.size;go_wp2_with fail
      go_region_law ((first
       | (go_simp;(with_reducible refine (CDN _).mono ?_);rintro e wq ⟨rfl,rfl⟩)
       | (refine step_append_at rfl (.tmp 36) (.tmp 40) 25 rfl w1.heap.size 2 i0 (.int .i64 0) 1 8 Tryd.underlying25 hi0 hz0 hz1 hz2 rfl (by decide) uV vsk.length (vsk.map (Value.int .i64)) rfl oQ ⟨_,0,none⟩ 1 1 [.int .i64 z] rfl rfl (fun j u hj=>by match j,hj with|0,hj=>simp at hj;subst hj;simp[Addr.add]) (fun u hu=>by simp at hu;subst hu;rfl) (by unfold maxLen;omega) (by omega) sQ ?_;intro vB wE hown hgrow hblk;have oB:=own_hit hown;have Bx:=(hgrow.block _ AD.out.lt (ne_own AD.out.V AD.out.low)).trans AD.out.box;have qB:=cell_of_row wE _ 1 _ _ (0,0) Bx;have fB:=frozen_of_row wE _ 1 _ _ Bx;have DB:=Lib.hid (B1.out.pushV (((Keep.refl wv).alloc (.cells #[.int .i64 z] 2)).drew) oB hgrow hblk);obtain⟨aB,cB,hvB,-⟩:=oB.rd;rw[List.length_append,List.length_singleton] at hvB;subst hvB;clear hown hgrow hblk oB Bx)))
      all_goals
       go_wp2;go_roundw;case rel=>exact⟨k+1,_,_,by omega,by go_num,⟨_,rfl⟩,by rw[HM1.out,HM2.out];exact DB,HQ2⟩
       case measure=>simp[intOf];omega
    ·
     have n61:(((x.getD 1 0).toNat:Int) != 61)=true:=by rw[u8_ne,decide_eq_false h61];rfl
     generalize hx1:x.getD 1 0=x1 at I1 n61;have HT:Hid (riT l=false):=Lib.hid (HF.out (by rw[HP.out,hx1,decide_eq_false (show ¬x1=61 by rw[←hx1];exact h61),Bool.and_false]));have SR:StK wr wr w.heap.size nilVK nilVK:=⟨hA.out.res,World.grownBy.refl _ _⟩;obtain⟨r0,r1⟩:=SR.cells;have g0:=SR.free 0;have g1:=SR.free 1;have r2:=(SR.set0 nilVK).cells.2;have g2:=(SR.set0 nilVK).free 1;have gN:wr.cell? ⟨0,0,none⟩=some (erV a):=(XN.out.keep hA.out.K).out;have KF:=Lib.hid hA.out.K;have hZ0:=Lib.hid ((SR.set0 nilVK).set1 nilVK);go_wp2_with fail
     go_region_law (fail)
     all_goals
      go_wp2;have hZ:=hZ0.out;refine bodyPost_ret (results_row_tmp (by rfl) _ _ w.heap.size _ _ (0,0) _ (rfV _ (erV a)) rfl hZ.1 rfl Tryd.underlying27 rfl (by kernel_rfl)) rfl ?_;exact⟨nilVK,nilVK,_,rfl,.inr ⟨HT.out,_,rfl⟩,⟨[],[],World.ownsRow_nil _ _ _ _,World.ownsRow_nil _ _ _ _,by simp,by simp,.inl rfl,fun q=>(by rw[HT.out] at q;cases q)⟩,(KF.out.grown hZ.2 (fun q hq=>by have:=Option.some.inj hq;omega)).drew⟩
   ·
    have n3:((x.length:Int) != 3)=true:=by simp;omega
    have HT:Hid (riT l=false):=Lib.hid (HF.out (by rw[HP.out,decide_eq_false h3,Bool.false_and]));have SR:StK wr wr w.heap.size nilVK nilVK:=⟨hA.out.res,World.grownBy.refl _ _⟩;obtain⟨r0,r1⟩:=SR.cells;have g0:=SR.free 0;have g1:=SR.free 1;have r2:=(SR.set0 nilVK).cells.2;have g2:=(SR.set0 nilVK).free 1;have gN:wr.cell? ⟨0,0,none⟩=some (erV a):=(XN.out.keep hA.out.K).out;have KF:=Lib.hid hA.out.K;have hZ0:=Lib.hid ((SR.set0 nilVK).set1 nilVK);go_wp2_with fail
    go_region_law (fail)
    all_goals
     go_wp2;have hZ:=hZ0.out;refine bodyPost_ret (results_row_tmp (by rfl) _ _ w.heap.size _ _ (0,0) _ (rfV _ (erV a)) rfl hZ.1 rfl Tryd.underlying27 rfl (by kernel_rfl)) rfl ?_;exact⟨nilVK,nilVK,_,rfl,.inr ⟨HT.out,_,rfl⟩,⟨[],[],World.ownsRow_nil _ _ _ _,World.ownsRow_nil _ _ _ _,by simp,by simp,.inl rfl,fun q=>(by rw[HT.out] at q;cases q)⟩,(KF.out.grown hZ.2 (fun q hq=>by have:=Option.some.inj hq;omega)).drew⟩
  ·
   obtain rfl:k=ws.length:=by omega
   have HE:Hid (riT l=okA 6 (ws.map rR) (ws.map rV)):=Lib.hid (by rw[XW.out];exact ri_end (fun i hi=>by rw[←XW.out] at hi ⊢;exact hq.out i hi));rw[List.take_length] at hA;obtain⟨RL,hRL⟩:∃r,r=ws.map rR:=⟨_,rfl⟩;obtain⟨VL,hVL⟩:∃r,r=ws.map rV:=⟨_,rfl⟩;have lRL:RL.length≤7:=by rw[hRL,List.length_map];omega
   have lVL:VL.length≤7:=by rw[hVL,List.length_map];omega
   rw[←hRL,←hVL] at hA HE;have XRL:Hid (riT l=true→RL=(wsI l).map rR∧VL=(wsI l).map rV):=Lib.hid (fun _=>⟨by rw[←XW.out];exact hRL,by rw[←XW.out];exact hVL⟩);clear hRL hVL;obtain⟨aR,cR,hR,-⟩:=hA.out.R.rd;obtain⟨aV,cV,hV,-⟩:=hA.out.V.rd;subst hR;subst hV;have AZ:=Lib.hid (hA.out.keep (Keep.refl wr).drew);have hlow:=hA.out.low;have CO:=fun (W:World) (k:Keep wr W)=>refusedOf_any W _ _ RL VL 6 a ((hA.out.keep k).R.rd) ((hA.out.keep k).V.rd) (XN.out.keep (hA.out.keep k).K) (by decide) (by decide) (by omega) (by omega)
   rw[←HE.out] at CO;obtain⟨b0,b1⟩:=hA.out.cells;have SR:StK wr wr w.heap.size nilVK nilVK:=⟨hA.out.res,World.grownBy.refl _ _⟩;obtain⟨r0,r1⟩:=SR.cells;have g0:=SR.free 0;have g1:=SR.free 1;go_wp2_with fail
   go_region_law ((first
    | (go_simp;(with_reducible refine (CO _ (Keep.refl wr).drew).mono ?_);rintro e wq ⟨u,rfl,hu,kq⟩;have AQ:=Lib.hid (AZ.out.keep kq);obtain⟨b2,b3⟩:=AQ.out.cells;have SQ:StK wq wq w.heap.size nilVK nilVK:=⟨AQ.out.res,World.grownBy.refl _ _⟩;obtain⟨r2,r3⟩:=SQ.cells;have g2:=SQ.free 0;have g3:=SQ.free 1)))
   all_goals
    go_wp2;have hZ:=(SQ.set0 (.slice aR RL.length cR)).set1 (.slice aV VL.length cV);refine bodyPost_ret (results_row_tmp (by rfl) _ _ w.heap.size _ _ (0,0) _ _ rfl hZ.1 rfl Tryd.underlying27 rfl (by kernel_rfl)) rfl ?_;exact⟨_,_,_,rfl,hu,⟨RL,VL,(AQ.out.R.otherK (by omega) hZ.2).base_le (by omega),(AQ.out.V.otherK (by omega) hZ.2).base_le (by omega),lRL,lVL,AQ.out.ap,XRL.out⟩,AQ.out.K.grown hZ.2 (fun q hq=>by have:=Option.some.inj hq;omega)⟩
theorem implReadAsk_at (l:List UInt8)(w:World)(a:Addr)(hl:l.length≤1048576)(hn:NoAsk w a)(hm:∃m,w.cell? ⟨4,0,none⟩=some (.int .i64 m)):
  Calls Tryd.prog 9 #[strV l] w fun e w'=>∃uR uV,e = .returned (.tuple #[.agg #[uR,uV],.bool (raT l)])∧Row w' w.heap.size uR (raR l)∧Row w' w.heap.size uV (raV l)∧(uR.ownBlock=none∨uR.ownBlock≠uV.ownBlock)∧Keep w w':=by
 have K1:Keep w (w.alloc (askC nilVK nilVK)):=(Keep.refl w).alloc _;have C:=readAsk_any l (w.alloc (askC nilVK nilVK)) a hl (hn.keep K1) (hm.elim fun m q=>⟨m,cellK_keep q K1⟩);have HB:=heap_alloc_new w (askC nilVK nilVK);have XN:=Lib.hid hn;obtain⟨h1,h2⟩:=ri_same l;have X1:=Lib.hid h1;have X2:=Lib.hid h2;clear h1 h2 hn hm;go_enter Tryd.func9,Tryd.ntmps9
 go_wp2_with fail
 refine C.mono ?_;rintro e w1 ⟨uR,uV,u,rfl,hu,⟨rs,vs,oR,oV,lr,lv,ap,hrv⟩,k1⟩;have hb1:w1.heap[w.heap.size]? = some (askC nilVK nilVK):=(Below.block k1 _ (by rw[heap_size];omega)).trans HB;have hs:w.heap.size<w1.heap.size:=(Array.getElem?_eq_some_iff.1 hb1).1;rw[heap_size] at oR oV;have K2:=K1.trans k1;rw[X1.out] at hu hrv;have HRV:=Lib.hid hrv;obtain⟨aR,cR,eR,-⟩:=oR.rd;obtain⟨aV,cV,eV,-⟩:=oV.rd;subst eR;subst eV;obtain⟨w2,hw2⟩:∃W:World,W=w1.alloc (askC (.slice aR rs.length cR) (.slice aV vs.length cV)):=⟨_,rfl⟩;have k2:Keep w1 w2:=by rw[hw2];exact (Keep.refl _).alloc _
 have x0:w2.cell? ⟨w1.heap.size,0,none⟩=some (.slice aR rs.length cR):=by rw[hw2];exact box_cell (Keep.refl _) 0
 have x1:w2.cell? ⟨w1.heap.size,1,none⟩=some (.slice aV vs.length cV):=by rw[hw2];exact box_cell (Keep.refl _) 1
 have hb2:=(Below.block k2 _ hs).trans hb1;have xl:w1.heap.size<w2.heap.size:=by rw[hw2,heap_size];omega
 have K3:=K2.trans k2;have SR:StK w2 w2 w.heap.size nilVK nilVK:=⟨hb2,World.grownBy.refl _ _⟩;have oR2:=Lib.hid (oR.keep k2);have oV2:=Lib.hid (oV.keep k2);have gN:w2.cell? ⟨0,0,none⟩=some (erV a):=(XN.out.keep K3).out;clear C HB hb1 hb2 k1 k2 oR oV hrv K2;obtain⟨X,hX⟩:∃X,X=w1.heap.size:=⟨_,rfl⟩;rw[←hX] at x0 x1 xl;go_upto_region 2 with fail
 rw[show w1.alloc (.cells #[.slice aR rs.length cR,.slice aV vs.length cV] 27)=w2 from hw2.symm,←hX];clear hX hw2;obtain⟨T,hT⟩:∃T,T=raT l:=⟨_,rfl⟩;have XT:=Lib.hid hT;rw[←hT] at hu;clear hT;cases T
 ·
  obtain⟨s,rfl⟩:=RefV.no hu;have HRn:Hid (raR l=[]):=Lib.hid (by unfold raR;rw[if_neg (by rw[←XT.out];simp)]);have HVn:Hid (raV l=[]):=Lib.hid (by unfold raV;rw[if_neg (by rw[←XT.out];simp)]);go_wp2_with fail
  refine (isWrap_any s a _).mono ?_;rintro e w3 ⟨rfl,k3⟩;have SQ:=SR.keep k3;have SQ:StK w3 w3 w.heap.size nilVK nilVK:=⟨SQ.1,World.grownBy.refl _ _⟩;obtain⟨r0,r1⟩:=SQ.cells;have g0:=SQ.free 0;have g1:=SQ.free 1;have K4:=Lib.hid (K3.trans k3);go_wp2;have hZ:=(SQ.set0 nilVK).set1 nilVK;refine bodyPost_ret (results_row_tmp (by rfl) _ _ w.heap.size _ _ (0,0) _ (.bool false) rfl hZ.1 rfl Tryd.underlying27 rfl (by kernel_rfl)) rfl ?_;exact⟨nilVK,nilVK,by rw[←XT.out],by rw[HRn.out];exact .inl ⟨rfl,rfl⟩,by rw[HVn.out];exact .inl ⟨rfl,rfl⟩,.inl rfl,K4.out.grown hZ.2 (fun q hq=>by have:=Option.some.inj hq;omega)⟩
 ·
  obtain rfl:=RefV.yes hu;obtain⟨er,ev⟩:=HRV.out XT.out.symm;obtain⟨fr,fv⟩:=X2.out XT.out.symm;have HRn:Hid (raR l=rs):=Lib.hid (by rw[er,fr]);have HVn:Hid (raV l=vs):=Lib.hid (by rw[ev,fv]);clear er ev fr fv;go_wp2_with fail
  refine (isNil_any a _).mono ?_;rintro e w3 ⟨rfl,k3⟩;have SQ:=SR.keep k3;have SQ:StK w3 w3 w.heap.size nilVK nilVK:=⟨SQ.1,World.grownBy.refl _ _⟩;obtain⟨r0,r1⟩:=SQ.cells;have g0:=SQ.free 0;have g1:=SQ.free 1;replace x0:=(k3.cell xl).trans x0;replace x1:=(k3.cell xl).trans x1;have K4:=Lib.hid (K3.trans k3);have oR3:=Lib.hid (oR2.out.keep k3);have oV3:=Lib.hid (oV2.out.keep k3);go_wp2;have hZ:=(SQ.set0 (.slice aR rs.length cR)).set1 (.slice aV vs.length cV);refine bodyPost_ret (results_row_tmp (by rfl) _ _ w.heap.size _ _ (0,0) _ (.bool true) rfl hZ.1 rfl Tryd.underlying27 rfl (by kernel_rfl)) rfl ?_;exact⟨_,_,by rw[←XT.out],by rw[HRn.out];exact ((oR3.out.otherK (by omega) hZ.2).base_le (by omega)).row,by rw[HVn.out];exact ((oV3.out.otherK (by omega) hZ.2).base_le (by omega)).row,ap,K4.out.grown hZ.2 (fun q hq=>by have:=Option.some.inj hq;omega)⟩
end Go.Proofs.YtflehmepjhikcaaDoor
