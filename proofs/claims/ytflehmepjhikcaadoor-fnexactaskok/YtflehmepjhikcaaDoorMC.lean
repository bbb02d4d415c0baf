/- Gathered texts. -/
import Derived.Test.YtflehmepjhikcaaDoorMA
import Derived.Outline
import Derived.RegionTactic
import Derived.Deep.QuietTactic
import Derived.BigQuiet
import Derived.Lib.Hide
import Derived.Deep.Cut
set_option maxRecDepth 100000
set_option maxHeartbeats 8000000
namespace Go.Proofs.YtflehmepjhikcaaDoor
open Go.ChangeShapes Go.WideShapes Go.ChangeAt Go.RowKit
theorem made_ints (n:Nat):(madeCells (Value.int .i64 0).cells (n*1)).toList=((List.replicate n (0:Int)).map (Value.int .i64)):=by
 rw[Nat.mul_one,List.map_replicate];exact toList_madeCells_one _ _
theorem set_copied (zs:List Int)(j:Nat)(hj:j<zs.length):
  ((zs.take j++List.replicate (zs.length-j) 0).map (Value.int .i64)).set j (.int .i64 (zs.getD j 0))=(zs.take (j+1)++List.replicate (zs.length-(j+1)) 0).map (Value.int .i64):=by
 have e:(zs.take j++List.replicate (zs.length-j) 0).set j (zs.getD j 0)=zs.take (j+1)++List.replicate (zs.length-(j+1)) 0:=by
  have hl:(zs.take j).length=j:=by rw[List.length_take];omega
  rw[List.set_append_right _ _ (by rw[hl];exact Nat.le_refl _),hl,Nat.sub_self,show zs.length-j=(zs.length-(j+1))+1 from by omega,List.replicate_succ,List.set_cons_zero,take_snoc zs j hj,List.append_assoc];rfl
 rw[←e,List.map_set]
theorem copied_len (zs:List Int)(j:Nat)(hj:j≤zs.length):(zs.take j++List.replicate (zs.length-j) (0:Int)).length=zs.length:=by
 rw[List.length_append,List.length_take,List.length_replicate];omega
theorem to_any (w:World)(v:Value)(zs:List Int)(h:Rd w v zs)(hn:zs.length≤1048576):
  Calls Tryd.prog 22 #[v] w fun e w'=>∃v',e = .returned v'∧Own w' w.heap.size v' zs∧Keep w w':=by
 obtain⟨a,c,rfl,h⟩:=h;obtain⟨i0,hi,hz0,hz1,hz2⟩:=info_parts Tryd.infoI;go_enter Tryd.func22,Tryd.ntmps22
 go_wp2_with (at_make;refine wpList_make_full _ rfl _ _ 25 rfl w.heap.size 2 i0 (.int .i64 0) 1 Tryd.underlying25 hi hz0 hz1 .i64 .i64 _ _ zs.length rfl rfl rfl rfl (by rw[hz2];omega) (by unfold maxLen;omega) (Nat.le_refl _) ?_;intro w1 hown hgrow)
 rw[made_ints] at hown;have hk1:Keep w w1:=(Keep.refl w).grown hgrow (by simp);clear hgrow;go_loopw [4] (fun i wr=>∃j:Nat,j≤zs.length∧i = .int .i64 j∧wr.ownsRow w.heap.size 2 1 (.slice (some ⟨w.heap.size,0,none⟩) zs.length zs.length) zs.length ((zs.take j++List.replicate (zs.length-j) 0).map (Value.int .i64))∧Keep w wr) (fun i _=>zs.length-(intOf i).toNat)
 case atStart=>exact⟨0,Nat.zero_le _,rfl,by simpa using hown,hk1⟩
 case round=>
  obtain⟨j,hj,rfl,ho,hK⟩:=hrel;by_cases hlt:j<zs.length
  ·
   rcases h with h|⟨b,o,rfl,hb,hc⟩
   · exfalso;rw[h] at hlt;simp at hlt
   have d0:=(hK.cell hb).trans (hc j hlt);have d1:=World.ownsRow.cellAt ho j (by omega);have d2:=World.ownsRow.frozenAt ho j;have hs:=World.ownsRow.stored ho j (.int .i64 (zs.getD j 0));rw[set_copied zs j hlt] at hs;obtain⟨u,hu⟩:∃u,((zs.take j++List.replicate (zs.length-j) 0).map (Value.int .i64))[j]? = some u:=⟨_,List.getElem?_eq_getElem (by rw[List.length_map,copied_len zs j hj];exact hlt)⟩;rw[hu] at d1;obtain⟨p,hp⟩:∃p,p=zs.getD j 0:=⟨_,rfl⟩;rw[←hp] at d0 hs;clear hu hc hp hown hk1;go_wp2;go_roundw;case rel=>exact⟨j+1,by omega,by go_num,hs.1,hK.grown hs.2 (by simp)⟩
   case measure=>simp[intOf];omega
  ·
   have:j=zs.length:=by omega
   subst this;go_wp2;go_ret;refine⟨_,rfl,?_,hK⟩;unfold Own
   simpa using ho
theorem szInts_anyK (w:World)(a:Option Addr)(n cap:Nat)(left:Int)(h0:0≤left)(h1:left≤1048576)(hn:n≤maxLen):
  Calls Tryd.prog 40 #[.slice a n cap,.int .i64 left] w fun e w'=>∃r:Int,e = .returned (.int .i64 r)∧w'=w∧(r<0∨((n:Int)≤left∧r=left-n)):=by
 unfold maxLen at hn;have hw:IntKind.i64.wrap (left-n)=left-n:=by rw[IntKind.wrap_i64];omega
 by_cases hc:left<n
 ·
  have hc':left-n<0:=by omega
  go_enter Tryd.func40,Tryd.ntmps40
  go_wp2;go_ret;exact⟨-1,rfl,rfl,.inl (by omega)⟩
 ·
  have hc':0≤left-n:=by omega
  go_enter Tryd.func40,Tryd.ntmps40
  go_wp2;go_ret;refine⟨left-n,rfl,rfl,.inr ?_⟩;first|exact⟨by omega,rfl⟩|rfl|trivial
theorem szAsk_any (w:World)(vF vR:Value)(f rows:List Int)(left:Int)(hf:Rd w vF f)(hr:Rd w vR rows)(h0:0≤left)(h1:left≤1048576)(lf:f.length≤maxLen)(lr:rows.length≤maxLen):
  Calls Tryd.prog 14 #[.agg #[vF,vR],.int .i64 left] w fun e w'=>∃r:Int,e = .returned (.int .i64 r)∧Keep w w'∧(r<0∨((f.length:Int)+rows.length≤left)):=by
 obtain⟨aF,cF,rfl,-⟩:=hf;obtain⟨aR,cR,rfl,-⟩:=hr;have k0:Keep w (w.alloc (.cells #[.slice aF f.length cF,.slice aR rows.length cR] 34)):=(Keep.refl w).alloc _;go_enter Tryd.func14,Tryd.ntmps14
 go_wp2_with fail
 refine (szInts_anyK _ aF _ cF left h0 h1 lf).mono ?_;rintro e w1 ⟨r,rfl,rfl,hd⟩;by_cases hneg:r<0
 ·
  go_wp2;go_ret;exact⟨-1,rfl,k0,.inl (by omega)⟩
 ·
  obtain⟨d1,rfl⟩:=hd.resolve_left hneg;have hge:0≤left-(f.length:Int):=by omega
  clear hd hneg;go_wp2_with fail
  refine (szInts_anyK _ aR _ cR _ hge (by omega) lr).mono ?_;rintro e w2 ⟨r,rfl,rfl,hd⟩;by_cases hneg:r<0
  ·
   go_wp2;go_ret;exact⟨-1,rfl,k0,.inl (by omega)⟩
  ·
   obtain⟨d2,rfl⟩:=hd.resolve_left hneg;have hge2:0≤left-(f.length:Int)-(rows.length:Int):=by omega
   go_wp2;go_ret;exact⟨_,rfl,k0,.inr (by omega)⟩
theorem blkLK {w w':World}{D:Nat}{row:Option Nat}{o:Obj}(h:w.heap[D]? = some o)(hg:w.grownBy w' row)(hr:row≠some D):w'.heap[D]? = some o:=
 (hg.block D (Array.getElem?_eq_some_iff.1 h).1 hr.symm).trans h
theorem Own.shpLK {w:World}{base:Nat}{v:Value}{zs:List Int}(h:Own w base v zs):∃a cap,v = .slice a zs.length cap:=by
 obtain⟨a,c,e,_⟩:=h.rd;exact⟨a,c,e⟩
theorem toAsk_any (w:World)(vF vR:Value)(f rows:List Int)(hf:Rd w vF f)(hr:Rd w vR rows)(lf:f.length≤1048576)(lr:rows.length≤1048576):
  Calls Tryd.prog 17 #[.agg #[vF,vR]] w fun e w'=>∃uF uR,e = .returned (.agg #[uF,uR])∧Own w' w.heap.size uF f∧Own w' w.heap.size uR rows∧(uF.ownBlock=none∨uF.ownBlock≠uR.ownBlock)∧Keep w w':=by
 have CF:=fun (W:World) (kW:Keep w W)=>to_any W vF f (hf.keep kW) lf
 have CR:=fun (W:World) (kW:Keep w W)=>to_any W vR rows (hr.keep kW) lr
 obtain⟨aF,cF,rfl,-⟩:=hf;obtain⟨aR,cR,rfl,-⟩:=hr;obtain⟨wA,hwA⟩:∃W:World,W=w.alloc (.cells #[.slice aF f.length cF,.slice aR rows.length cR] 34):=⟨_,rfl⟩;have kA:Keep w wA:=by rw[hwA];exact (Keep.refl w).alloc _
 have sA:wA.heap.size=w.heap.size+1:=by rw[hwA];exact heap_size _ _
 have bA0:wA.cell? ⟨w.heap.size,0,none⟩=some (.slice aF f.length cF):=by rw[hwA];exact box_cell (Keep.refl _) 0
 have bA1:wA.cell? ⟨w.heap.size,1,none⟩=some (.slice aR rows.length cR):=by rw[hwA];exact box_cell (Keep.refl _) 1
 obtain⟨wB,hwB⟩:∃W:World,W=wA.alloc (askC nilVK nilVK):=⟨_,rfl⟩;have kB:Keep wA wB:=by rw[hwB];exact (Keep.refl wA).alloc _
 have sB:wB.heap.size=w.heap.size+1+1:=by rw[hwB,heap_size,sA]
 have SB:wB.heap[w.heap.size+1]? = some (askC nilVK nilVK):=by rw[hwB,←sA];exact heap_alloc_new wA _
 obtain⟨wC,hwC⟩:∃W:World,W=wB.alloc (askC nilVK nilVK):=⟨_,rfl⟩;have kC:Keep wB wC:=by rw[hwC];exact (Keep.refl wB).alloc _
 have sC:wC.heap.size=w.heap.size+1+1+1:=by rw[hwC,heap_size,sB]
 have SC:StK wB wC (w.heap.size+1+1) nilVK nilVK:=by rw[hwC,←sB];exact StK.start _ _
 have c1:=((kB.trans kC).cell (by omega:w.heap.size<wA.heap.size)).trans bA1;have c0:=((kB.trans kC).cell (by omega:w.heap.size<wA.heap.size)).trans bA0;have XD:wC.heap[w.heap.size+1]? = some (askC nilVK nilVK):=(Below.block kC _ (by omega)).trans SB;have K:Keep w wC:=(kA.trans kB).trans kC;have HC:=Lib.hid sC;have lC:w.heap.size<wC.heap.size:=by omega
 go_enter Tryd.func17,Tryd.ntmps17
 go_upto_region 2 with fail
 rw[←hwA,←hwB,←hwC];clear hwA hwB hwC kA kB kC sA sB sC SB bA0 bA1;go_wp2_with fail
 refine (CF _ K).mono ?_;rintro e w1 ⟨uF,rfl,oF,k1⟩;have S1:=SC.keep k1;obtain⟨r0,r1⟩:=S1.cells;have g0:=S1.free 0;have g1:=S1.free 1;have d1:=(k1.cell lC).trans c1;have X1:=blkLK XD k1.grownBy (by simp);obtain⟨aU,cU,rfl⟩:=oF.shpLK;have K1:Keep w (w1.setCell ⟨w.heap.size+1+1,0,none⟩ (.slice aU f.length cU)):=(K.trans k1).grown (grown_setTK _ _ _ _) (by intro g hg;simp at hg;omega);clear c0 c1;go_wp2_with fail
 refine (CR _ K1).mono ?_;rintro e w2 ⟨uR,rfl,oR,k2⟩;have S2:=(S1.set0 (.slice aU f.length cU)).keep k2;have X2:=blkLK (blkLK X1 (grown_setTK w1 (w.heap.size+1+1) 0 (.slice aU f.length cU)) (by simp)) k2.grownBy (by simp);have z1:=(grown_setTK w1 (w.heap.size+1+1) 0 (.slice aU f.length cU)).size;have z2:=k1.size;have z3:=k2.size;have zc:=HC.out;have oF2:=(oF.otherK (D:=w.heap.size+1+1) (by omega) (grown_setTK w1 (w.heap.size+1+1) 0 (.slice aU f.length cU))).keep k2;have ap:(Value.slice aU f.length cU).ownBlock=none∨(Value.slice aU f.length cU).ownBlock≠uR.ownBlock:=(oF.otherK (D:=w.heap.size+1+1) (by omega) (grown_setTK w1 (w.heap.size+1+1) 0 (.slice aU f.length cU))).apart oR;have K2:=K1.trans k2;clear r0 r1 g0 g1 d1 S1 X1 K1 k1 k2 oF XD SC;obtain⟨aV,cV,rfl⟩:=oR.shpLK;obtain⟨r0,r1⟩:=S2.cells;have g0:=S2.free 0;have g1:=S2.free 1;have S3:=S2.set1 (.slice aV rows.length cV);have X3:StK w2 (w2.setCell ⟨w.heap.size+1+1,1,none⟩ (.slice aV rows.length cV)) (w.heap.size+1) nilVK nilVK→True:=fun _=>trivial
 have G3:=grown_setTK w2 (w.heap.size+1+1) 1 (.slice aV rows.length cV);have X4:=blkLK X2 G3 (by simp);have S4:StK (w2.setCell ⟨w.heap.size+1+1,1,none⟩ (.slice aV rows.length cV)) (w2.setCell ⟨w.heap.size+1+1,1,none⟩ (.slice aV rows.length cV)) (w.heap.size+1) nilVK nilVK:=⟨X4,grown_draw _ 0 _⟩;have hZ:=(S4.set0 (.slice aU f.length cU)).set1 (.slice aV rows.length cV);obtain⟨q0,q1⟩:=S4.cells;have q2:=S4.free 0;have q3:=S4.free 1;obtain⟨t0,t1⟩:=S3.cells;have lz:=X4;have HF:=Lib.hid ((oF2.otherK (D:=w.heap.size+1+1) (by omega) G3).otherK (D:=w.heap.size+1) (by omega) hZ.2);have HO:=Lib.hid ((oR.otherK (D:=w.heap.size+1+1) (by omega) G3).otherK (D:=w.heap.size+1) (by omega) hZ.2);have HK:=Lib.hid ((K2.grown G3 (by intro g hg;simp at hg;omega)).grown hZ.2 (by intro g hg;simp at hg;omega));have HZ:=Lib.hid hZ.1;have HZ1:=Lib.hid z1;clear hZ S4 S3 S2 X4 X3 X2 G3 oF2 oR K2 lz zc;go_wp2;refine bodyPost_ret (results_row (by rfl) _ _ (w.heap.size+1) _ _ (0,0) _ rfl HZ.out Tryd.underlying27 rfl (by kernel_rfl)) rfl ?_;exact⟨_,_,rfl,HF.out.base_le (by have:=HC.out;omega),HO.out.base_le (by have:=HC.out;have:=HZ1.out;omega),ap,HK.out⟩
theorem take_eq_step {xs ys:List Int}{k:Nat}(hx:k<xs.length)(hy:k<ys.length)(h:xs.take k=ys.take k)(e:xs.getD k 0=ys.getD k 0):xs.take (k+1)=ys.take (k+1):=by
 rw[take_snoc xs k hx,take_snoc ys k hy,h,e]
theorem ne_of_getD {xs ys:List Int}{k:Nat}(h:xs.getD k 0≠ys.getD k 0):xs≠ys:=by
 intro e;subst e;exact h rfl
theorem eq_any (w:World)(v1 v2:Value)(xs ys:List Int)(h1:Rd w v1 xs)(h2:Rd w v2 ys)(hx:xs.length≤1048576):
  Calls Tryd.prog 24 #[v1,v2] w fun e w'=>e = .returned (.bool (decide (xs=ys)))∧Keep w w':=by
 obtain⟨a1,c1,rfl,h1⟩:=h1;obtain⟨a2,c2,rfl,h2⟩:=h2;by_cases hl:xs.length=ys.length
 ·
  have hlb:((xs.length:Int) != (ys.length:Int))=false:=by simp[hl]
  have hl1:xs.length≤ys.length:=by omega
  have hl2:ys.length≤xs.length:=by omega
  clear hl;go_enter Tryd.func24,Tryd.ntmps24
  go_wp2;go_loopw [5] (fun i wr=>∃k:Nat,k≤xs.length∧i = .int .i64 k∧xs.take k=ys.take k∧Keep w wr) (fun i _=>xs.length-(intOf i).toNat)
  case atStart=>exact⟨0,Nat.zero_le _,rfl,by simp,Keep.refl _⟩
  case round=>
   obtain⟨k,hk,rfl,ht,hK⟩:=hrel;by_cases hlt:k<xs.length
   ·
    rcases h1 with h|⟨b1,o1,rfl,hb1,hc1⟩
    · subst h;simp at hlt
    rcases h2 with h|⟨b2,o2,rfl,hb2,hc2⟩
    · exfalso;rw[h] at hl1;simp only[List.length_nil] at hl1;omega
    have hy2:k<ys.length:=by omega
    have d1:=(hK.cell hb1).trans (hc1 k hlt);have d2:=(hK.cell hb2).trans (hc2 k hy2);clear hc1 hc2;obtain⟨p,hp⟩:∃p,p=xs.getD k 0:=⟨_,rfl⟩;obtain⟨q,hq⟩:∃q,q=ys.getD k 0:=⟨_,rfl⟩;rw[←hp] at d1;rw[←hq] at d2;have HP:Hid (p=xs.getD k 0):=hp;have HQ:Hid (q=ys.getD k 0):=hq;have HT:Hid (xs.take k=ys.take k):=ht;clear hp hq ht;by_cases he:p=q
    ·
     have hne:(p != q)=false:=by simp[he]
     have HE:Hid (p=q):=he;clear he;go_wp2;go_quiet (fail)
     go_wp2;go_roundw;case rel=>exact⟨k+1,by omega,by go_num,take_eq_step hlt hy2 HT.out (by rw[←HP.out,←HQ.out];exact HE.out),hK.drewN _⟩
     case measure=>simp[intOf];omega
    ·
     have hne:(p != q)=true:=by simp[he]
     have HE:Hid (p≠q):=he;clear he;go_wp2;go_quiet (fail)
     go_wp2;go_ret;refine⟨ret_bool ?_,?_⟩
     ·
      have:=ne_of_getD (xs:=xs) (ys:=ys) (k:=k) (by rw[←HP.out,←HQ.out];exact HE.out);simp[this]
     · exact hK.drewN _
   ·
    go_wp2;go_ret;refine⟨ret_bool ?_,hK⟩;rw[List.take_of_length_le (by omega),List.take_of_length_le (by omega)] at ht;simp[ht]
 ·
  have hlb:((xs.length:Int) != (ys.length:Int))=true:=by simp;omega
  have HL:Hid (¬xs.length=ys.length):=hl;clear hl;go_enter Tryd.func24,Tryd.ntmps24
  go_wp2;go_ret;refine⟨ret_bool ?_,Keep.refl _⟩;have:xs≠ys:=fun e=>HL.out (by rw[e])
  simp[this]
theorem box_asksE {w w1:World}{x0 x1 y0 y1:Value}{t t':TypeId}(k:Keep ((w.alloc (.cells #[x0,x1] t)).alloc (.cells #[y0,y1] t')) w1):
  (w1.cell? ⟨w.heap.size,0,none⟩=some x0∧w1.cell? ⟨w.heap.size,1,none⟩=some x1)∧(w1.cell? ⟨w.heap.size+1,0,none⟩=some y0∧w1.cell? ⟨w.heap.size+1,1,none⟩=some y1):=by
 have h0:∀i:Nat,w1.cell? ⟨w.heap.size,i,none⟩=(#[x0,x1])[i]?:=fun i=>by
  rw[k.cell (by simp only[heap_size];omega),(((Keep.refl (w.alloc _)).alloc _)).cell (by simp only[heap_size];omega)];exact box_cell (Keep.refl _) i
 have h1:∀i:Nat,w1.cell? ⟨w.heap.size+1,i,none⟩=(#[y0,y1])[i]?:=fun i=>by
  have:=box_cell k i;rw[heap_size] at this;exact this
 exact⟨⟨h0 0,h0 1⟩,⟨h1 0,h1 1⟩⟩
theorem eqAsk_any (w:World)(vF vR uF uR:Value)(f rows g rows':List Int)(hf:Rd w vF f)(hr:Rd w vR rows)(kf:Rd w uF g)(kr:Rd w uR rows')(lf:f.length≤1048576)(lr:rows.length≤1048576):
  Calls Tryd.prog 20 #[.agg #[vF,vR],.agg #[uF,uR]] w fun e w'=>e = .returned (.bool (decide (f=g)&&decide (rows=rows')))∧Keep w w':=by
 have CF:=fun (W:World) (kW:Keep w W)=>eq_any W vF uF f g (hf.keep kW) (kf.keep kW) lf
 have CR:=fun (W:World) (kW:Keep w W)=>eq_any W vR uR rows rows' (hr.keep kW) (kr.keep kW) lr
 obtain⟨aF,cF,rfl,-⟩:=hf;obtain⟨aR,cR,rfl,-⟩:=hr;obtain⟨bF,dF,rfl,-⟩:=kf;obtain⟨bR,dR,rfl,-⟩:=kr;generalize decide (f=g)=P at CF ⊢;generalize decide (rows=rows')=Q at CR ⊢;go_enter Tryd.func20,Tryd.ntmps20
 go_wp2_with fail
 refine (CF _ (((Keep.refl w).alloc _).alloc _)).mono ?_;rintro e w1 ⟨rfl,k1⟩;obtain⟨⟨c0,c1⟩,⟨c2,c3⟩⟩:=box_asksE k1;have K1:=(((Keep.refl w).alloc _).alloc _).trans k1;cases P
 ·
  go_wp2;go_ret;exact⟨rfl,K1⟩
 ·
  go_wp2_with fail
  refine (CR _ K1).mono ?_;rintro e w2 ⟨rfl,k2⟩;cases Q
  ·
   go_wp2;go_ret;exact⟨rfl,K1.trans k2⟩
  ·
   go_wp2;go_ret;exact⟨rfl,K1.trans k2⟩
theorem eqAsk_same (w:World)(vF vR uF uR:Value)(f rows:List Int)(hf:Rd w vF f)(hr:Rd w vR rows)(kf:Rd w uF f)(kr:Rd w uR rows)(lf:f.length≤1048576)(lr:rows.length≤1048576):
  Calls Tryd.prog 20 #[.agg #[vF,vR],.agg #[uF,uR]] w fun e w'=>e = .returned (.bool true)∧Keep w w':=by
 have h:=eqAsk_any w vF vR uF uR f rows f rows hf hr kf kr lf lr;have e:(decide (f=f)&&decide (rows=rows))=true:=by simp
 rw[e] at h;exact h
end Go.Proofs.YtflehmepjhikcaaDoor
