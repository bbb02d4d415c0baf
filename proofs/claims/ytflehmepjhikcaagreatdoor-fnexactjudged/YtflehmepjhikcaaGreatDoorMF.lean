/- Gathered texts. -/
import Derived.Outline
import Derived.RegionTactic
import Derived.Deep.QuietTactic
import Derived.BigQuiet
import Derived.Test.YtflehmepjhikcaaGreatDoorMD
import Derived.Lib.Hide
import Derived.Deep.Cut
set_option maxRecDepth 100000
set_option maxHeartbeats 8000000
namespace Go.Proofs.YtflehmepjhikcaaGreatDoor
open Go.ChangeShapes Go.WideShapes Go.ChangeAt Go.RowKit
theorem VU (n:Nat):(madeCells (Value.int .i64 0).cells (n*1)).toList=((List.replicate n (0:Int)).map (Value.int .i64)):=by
 rw[Nat.mul_one,List.map_replicate];exact toList_madeCells_one _ _
theorem S7 (zs:List Int)(j:Nat)(hj:j<zs.length):
  ((zs.take j++List.replicate (zs.length-j) 0).map (Value.int .i64)).set j (.int .i64 (zs.getD j 0))=(zs.take (j+1)++List.replicate (zs.length-(j+1)) 0).map (Value.int .i64):=by
 have e:(zs.take j++List.replicate (zs.length-j) 0).set j (zs.getD j 0)=zs.take (j+1)++List.replicate (zs.length-(j+1)) 0:=by
  have hl:(zs.take j).length=j:=by rw[List.length_take];omega
  rw[List.set_append_right _ _ (by rw[hl];exact Nat.le_refl _),hl,Nat.sub_self,show zs.length-j=(zs.length-(j+1))+1 from by omega,List.replicate_succ,List.set_cons_zero,EW zs j hj,List.append_assoc];rfl
 rw[<-e,List.map_set]
theorem SA (zs:List Int)(j:Nat)(hj:j<=zs.length):(zs.take j++List.replicate (zs.length-j) (0:Int)).length=zs.length:=by
 rw[List.length_append,List.length_take,List.length_replicate];omega
theorem ZI (w:World)(v:Value)(zs:List Int)(h:Rd w v zs)(hn:zs.length<=1048576):
  Calls Tryz.prog 42 #[v] w fun e w'=>∃v',e = .returned v'/\A7 w' w.heap.size v' zs/\AC w w':=by
 obtain⟨a,c,rfl,h⟩:=h;obtain⟨i0,hi,hz0,hz1,hz2⟩:=info_parts Tryz.FA;go_enter Tryz.func42,Tryz.ntmps42
 go_wp2_with (at_make;refine wpList_make_full _ rfl _ _ 25 rfl w.heap.size 2 i0 (.int .i64 0) 1 Tryz.underlying25 hi hz0 hz1 .i64 .i64 _ _ zs.length rfl rfl rfl rfl (by rw[hz2];omega) (by unfold maxLen;omega) (Nat.le_refl _) ?_;intro w1 hown hgrow)
 rw[VU] at hown;have hk1:AC w w1:=(AC.refl w).grown hgrow (by simp);clear hgrow;go_loopw [4] (fun i wr=>∃j:Nat,j<=zs.length/\i = .int .i64 j/\wr.ownsRow w.heap.size 2 1 (.slice (some ⟨w.heap.size,0,none⟩) zs.length zs.length) zs.length ((zs.take j++List.replicate (zs.length-j) 0).map (Value.int .i64))/\AC w wr) (fun i _=>zs.length-(intOf i).toNat)
 case atStart=>exact⟨0,Nat.zero_le _,rfl,by simpa using hown,hk1⟩
 case round=>
  obtain⟨j,hj,rfl,ho,hK⟩:=hrel;by_cases hlt:j<zs.length
  ·
   rcases h with h|⟨b,o,rfl,hb,hc⟩
   . exfalso;rw[h] at hlt;simp at hlt
   have d0:=(hK.cell hb).trans (hc j hlt);have d1:=World.ownsRow.cellAt ho j (by omega);have d2:=World.ownsRow.frozenAt ho j;have hs:=World.ownsRow.stored ho j (.int .i64 (zs.getD j 0));rw[S7 zs j hlt] at hs;obtain⟨u,hu⟩:∃u,((zs.take j++List.replicate (zs.length-j) 0).map (Value.int .i64))[j]? = some u:=⟨_,List.getElem?_eq_getElem (by rw[List.length_map,SA zs j hj];exact hlt)⟩;rw[hu] at d1;obtain⟨p,hp⟩:∃p,p=zs.getD j 0:=⟨_,rfl⟩;rw[<-hp] at d0 hs;clear hu hc hp hown hk1;go_wp2;go_roundw;case rel=>exact⟨j+1,by omega,by go_num,hs.1,hK.grown hs.2 (by simp)⟩
   case measure=>simp[intOf];omega
  ·
   have:j=zs.length:=by omega
   subst this;go_wp2;go_ret;refine⟨_,rfl,?_,hK⟩;unfold A7
   simpa using ho
theorem Ko (w:World)(a:Option Addr)(n cap:Nat)(left:Int)(h0:0<=left)(h1:left<=1048576)(hn:n<=maxLen):
  Calls Tryz.prog 40 #[.slice a n cap,.int .i64 left] w fun e w'=>∃r:Int,e = .returned (.int .i64 r)/\w'=w/\(r<0\/((n:Int)<=left/\r=left-n)):=by
 unfold maxLen at hn;have hw:IntKind.i64.wrap (left-n)=left-n:=by rw[IntKind.wrap_i64];omega
 by_cases hc:left<n
 ·
  have hc':left-n<0:=by omega
  go_enter Tryz.func40,Tryz.ntmps40
  go_wp2;go_ret;exact⟨-1,rfl,rfl,.inl (by omega)⟩
 ·
  have hc':0<=left-n:=by omega
  go_enter Tryz.func40,Tryz.ntmps40
  go_wp2;go_ret;refine⟨left-n,rfl,rfl,.inr ?_⟩;first|exact⟨by omega,rfl⟩|rfl|trivial
theorem WC (w:World)(vF vR:Value)(f rows:List Int)(left:Int)(hf:Rd w vF f)(hr:Rd w vR rows)(h0:0<=left)(h1:left<=1048576)(lf:f.length<=maxLen)(lr:rows.length<=maxLen):
  Calls Tryz.prog 16 #[.agg #[vF,vR],.int .i64 left] w fun e w'=>∃r:Int,e = .returned (.int .i64 r)/\AC w w'/\(r<0\/((f.length:Int)+rows.length<=left)):=by
 obtain⟨aF,cF,rfl,-⟩:=hf;obtain⟨aR,cR,rfl,-⟩:=hr;have k0:AC w (w.alloc (.cells #[.slice aF f.length cF,.slice aR rows.length cR] 39)):=(AC.refl w).alloc _;go_enter Tryz.func16,Tryz.ntmps16
 go_wp2_with fail
 refine (Ko _ aF _ cF left h0 h1 lf).mono ?_;rintro e w1 ⟨r,rfl,rfl,hd⟩;by_cases hneg:r<0
 ·
  go_wp2;go_ret;exact⟨-1,rfl,k0,.inl (by omega)⟩
 ·
  obtain⟨d1,rfl⟩:=hd.resolve_left hneg;have hge:0<=left-(f.length:Int):=by omega
  clear hd hneg;go_wp2_with fail
  refine (Ko _ aR _ cR _ hge (by omega) lr).mono ?_;rintro e w2 ⟨r,rfl,rfl,hd⟩;by_cases hneg:r<0
  ·
   go_wp2;go_ret;exact⟨-1,rfl,k0,.inl (by omega)⟩
  ·
   obtain⟨d2,rfl⟩:=hd.resolve_left hneg;have hge2:0<=left-(f.length:Int)-(rows.length:Int):=by omega
   go_wp2;go_ret;exact⟨_,rfl,k0,.inr (by omega)⟩
theorem TS {w w':World}{D:Nat}{row:Option Nat}{o:Obj}(h:w.heap[D]? = some o)(hg:w.grownBy w' row)(hr:row≠some D):w'.heap[D]? = some o:=
 (hg.block D (Array.getElem?_eq_some_iff.1 h).1 hr.symm).trans h
theorem A7.UP {w:World}{base:Nat}{v:Value}{zs:List Int}(h:A7 w base v zs):∃a cap,v = .slice a zs.length cap:=by
 obtain⟨a,c,e,_⟩:=h.rd;exact⟨a,c,e⟩
theorem WD (w:World)(vF vR:Value)(f rows:List Int)(hf:Rd w vF f)(hr:Rd w vR rows)(lf:f.length<=1048576)(lr:rows.length<=1048576):
  Calls Tryz.prog 18 #[.agg #[vF,vR]] w fun e w'=>∃uF uR,e = .returned (.agg #[uF,uR])/\A7 w' w.heap.size uF f/\A7 w' w.heap.size uR rows/\(uF.ownBlock=none\/uF.ownBlock≠uR.ownBlock)/\AC w w':=by
 have CF:=fun (W:World) (kW:AC w W)=>ZI W vF f (hf.keep kW) lf
 have CR:=fun (W:World) (kW:AC w W)=>ZI W vR rows (hr.keep kW) lr
 obtain⟨aF,cF,rfl,-⟩:=hf;obtain⟨aR,cR,rfl,-⟩:=hr;obtain⟨wA,IL⟩:∃W:World,W=w.alloc (.cells #[.slice aF f.length cF,.slice aR rows.length cR] 39):=⟨_,rfl⟩;have kA:AC w wA:=by rw[IL];exact (AC.refl w).alloc _
 have sA:wA.heap.size=w.heap.size+1:=by rw[IL];exact AD _ _
 have xV:wA.cell? ⟨w.heap.size,0,none⟩=some (.slice aF f.length cF):=by rw[IL];exact AR (AC.refl _) 0
 have xY:wA.cell? ⟨w.heap.size,1,none⟩=some (.slice aR rows.length cR):=by rw[IL];exact AR (AC.refl _) 1
 obtain⟨wB,Pz⟩:∃W:World,W=wA.alloc (Ry FC FC):=⟨_,rfl⟩;have kB:AC wA wB:=by rw[Pz];exact (AC.refl wA).alloc _
 have sB:wB.heap.size=w.heap.size+1+1:=by rw[Pz,AD,sA]
 have SB:wB.heap[w.heap.size+1]? = some (Ry FC FC):=by rw[Pz,<-sA];exact heap_alloc_new wA _
 obtain⟨wC,oh⟩:∃W:World,W=wB.alloc (Ry FC FC):=⟨_,rfl⟩;have kC:AC wB wC:=by rw[oh];exact (AC.refl wB).alloc _
 have sC:wC.heap.size=w.heap.size+1+1+1:=by rw[oh,AD,sB]
 have SC:Mr wB wC (w.heap.size+1+1) FC FC:=by rw[oh,<-sB];exact Mr.start _ _
 have c1:=((kB.trans kC).cell (by omega:w.heap.size<wA.heap.size)).trans xY;have c0:=((kB.trans kC).cell (by omega:w.heap.size<wA.heap.size)).trans xV;have XD:wC.heap[w.heap.size+1]? = some (Ry FC FC):=(Below.block kC _ (by omega)).trans SB;have K:AC w wC:=(kA.trans kB).trans kC;have HC:=Lib.hid sC;have lC:w.heap.size<wC.heap.size:=by omega
 go_enter Tryz.func18,Tryz.ntmps18
 go_upto_region 2 with fail
 rw[<-IL,<-Pz,<-oh];clear IL Pz oh kA kB kC sA sB sC SB xV xY;go_wp2_with fail
 refine (CF _ K).mono ?_;rintro e w1 ⟨uF,rfl,oF,k1⟩;have S1:=SC.keep k1;obtain⟨r0,r1⟩:=S1.cells;have g0:=S1.free 0;have g1:=S1.free 1;have d1:=(k1.cell lC).trans c1;have X1:=TS XD k1.grownBy (by simp);obtain⟨aU,cU,rfl⟩:=oF.UP;have K1:AC w (w1.setCell ⟨w.heap.size+1+1,0,none⟩ (.slice aU f.length cU)):=(K.trans k1).grown (DN _ _ _ _) (by intro g hg;simp at hg;omega);clear c0 c1;go_wp2_with fail
 refine (CR _ K1).mono ?_;rintro e w2 ⟨uR,rfl,oR,k2⟩;have S2:=(S1.set0 (.slice aU f.length cU)).keep k2;have X2:=TS (TS X1 (DN w1 (w.heap.size+1+1) 0 (.slice aU f.length cU)) (by simp)) k2.grownBy (by simp);have z1:=(DN w1 (w.heap.size+1+1) 0 (.slice aU f.length cU)).size;have z2:=k1.size;have z3:=k2.size;have zc:=HC.out;have yY:=(oF.KL (D:=w.heap.size+1+1) (by omega) (DN w1 (w.heap.size+1+1) 0 (.slice aU f.length cU))).keep k2;have ap:(Value.slice aU f.length cU).ownBlock=none\/(Value.slice aU f.length cU).ownBlock≠uR.ownBlock:=(oF.KL (D:=w.heap.size+1+1) (by omega) (DN w1 (w.heap.size+1+1) 0 (.slice aU f.length cU))).apart oR;have K2:=K1.trans k2;clear r0 r1 g0 g1 d1 S1 X1 K1 k1 k2 oF XD SC;obtain⟨aV,cV,rfl⟩:=oR.UP;obtain⟨r0,r1⟩:=S2.cells;have g0:=S2.free 0;have g1:=S2.free 1;have S3:=S2.set1 (.slice aV rows.length cV);have X3:Mr w2 (w2.setCell ⟨w.heap.size+1+1,1,none⟩ (.slice aV rows.length cV)) (w.heap.size+1) FC FC->True:=fun _=>trivial
 have G3:=DN w2 (w.heap.size+1+1) 1 (.slice aV rows.length cV);have X4:=TS X2 G3 (by simp);have S4:Mr (w2.setCell ⟨w.heap.size+1+1,1,none⟩ (.slice aV rows.length cV)) (w2.setCell ⟨w.heap.size+1+1,1,none⟩ (.slice aV rows.length cV)) (w.heap.size+1) FC FC:=⟨X4,SV _ 0 _⟩;have hZ:=(S4.set0 (.slice aU f.length cU)).set1 (.slice aV rows.length cV);obtain⟨q0,q1⟩:=S4.cells;have q2:=S4.free 0;have q3:=S4.free 1;obtain⟨t0,t1⟩:=S3.cells;have lz:=X4;have HF:=Lib.hid ((yY.KL (D:=w.heap.size+1+1) (by omega) G3).KL (D:=w.heap.size+1) (by omega) hZ.2);have HO:=Lib.hid ((oR.KL (D:=w.heap.size+1+1) (by omega) G3).KL (D:=w.heap.size+1) (by omega) hZ.2);have HK:=Lib.hid ((K2.grown G3 (by intro g hg;simp at hg;omega)).grown hZ.2 (by intro g hg;simp at hg;omega));have HZ:=Lib.hid hZ.1;have HZ1:=Lib.hid z1;clear hZ S4 S3 S2 X4 X3 X2 G3 yY oR K2 lz zc;go_wp2;refine bodyPost_ret (Bn (by rfl) _ _ (w.heap.size+1) _ _ (0,0) _ rfl HZ.out Tryz.underlying27 rfl (by kernel_rfl)) rfl ?_;exact⟨_,_,rfl,HF.out.BK (by have:=HC.out;omega),HO.out.BK (by have:=HC.out;have:=HZ1.out;omega),ap,HK.out⟩
theorem Pt {xs ys:List Int}{k:Nat}(hx:k<xs.length)(hy:k<ys.length)(h:xs.take k=ys.take k)(e:xs.getD k 0=ys.getD k 0):xs.take (k+1)=ys.take (k+1):=by
 rw[EW xs k hx,EW ys k hy,h,e]
theorem Sj {xs ys:List Int}{k:Nat}(h:xs.getD k 0≠ys.getD k 0):xs≠ys:=by
 intro e;subst e;exact h rfl
theorem Xn (w:World)(v1 v2:Value)(xs ys:List Int)(h1:Rd w v1 xs)(h2:Rd w v2 ys)(hx:xs.length<=1048576):
  Calls Tryz.prog 44 #[v1,v2] w fun e w'=>e = .returned (.bool (decide (xs=ys)))/\AC w w':=by
 obtain⟨a1,c1,rfl,h1⟩:=h1;obtain⟨a2,c2,rfl,h2⟩:=h2;by_cases hl:xs.length=ys.length
 ·
  have hlb:((xs.length:Int) != (ys.length:Int))=false:=by simp[hl]
  have hl1:xs.length<=ys.length:=by omega
  have hl2:ys.length<=xs.length:=by omega
  clear hl;go_enter Tryz.func44,Tryz.ntmps44
  go_wp2;go_loopw [5] (fun i wr=>∃k:Nat,k<=xs.length/\i = .int .i64 k/\xs.take k=ys.take k/\AC w wr) (fun i _=>xs.length-(intOf i).toNat)
  case atStart=>exact⟨0,Nat.zero_le _,rfl,by simp,AC.refl _⟩
  case round=>
   obtain⟨k,hk,rfl,ht,hK⟩:=hrel;by_cases hlt:k<xs.length
   ·
    rcases h1 with h|⟨b1,o1,rfl,hb1,hc1⟩
    . subst h;simp at hlt
    rcases h2 with h|⟨b2,o2,rfl,hb2,hc2⟩
    . exfalso;rw[h] at hl1;simp only[List.length_nil] at hl1;omega
    have hy2:k<ys.length:=by omega
    have d1:=(hK.cell hb1).trans (hc1 k hlt);have d2:=(hK.cell hb2).trans (hc2 k hy2);clear hc1 hc2;obtain⟨p,hp⟩:∃p,p=xs.getD k 0:=⟨_,rfl⟩;obtain⟨q,hq⟩:∃q,q=ys.getD k 0:=⟨_,rfl⟩;rw[<-hp] at d1;rw[<-hq] at d2;have HP:Hid (p=xs.getD k 0):=hp;have HQ:Hid (q=ys.getD k 0):=hq;have HT:Hid (xs.take k=ys.take k):=ht;clear hp hq ht;by_cases he:p=q
    ·
     have hne:(p != q)=false:=by simp[he]
     have HE:Hid (p=q):=he;clear he;go_wp2;go_quiet (fail)
     go_wp2;go_roundw;case rel=>exact⟨k+1,by omega,by go_num,Pt hlt hy2 HT.out (by rw[<-HP.out,<-HQ.out];exact HE.out),hK.drewN _⟩
     case measure=>simp[intOf];omega
    ·
     have hne:(p != q)=true:=by simp[he]
     have HE:Hid (p≠q):=he;clear he;go_wp2;go_quiet (fail)
     go_wp2;go_ret;refine⟨A8 ?_,?_⟩
     ·
      have:=Sj (xs:=xs) (ys:=ys) (k:=k) (by rw[<-HP.out,<-HQ.out];exact HE.out);simp[this]
     . exact hK.drewN _
   ·
    go_wp2;go_ret;refine⟨A8 ?_,hK⟩;rw[List.take_of_length_le (by omega),List.take_of_length_le (by omega)] at ht;simp[ht]
 ·
  have hlb:((xs.length:Int) != (ys.length:Int))=true:=by simp;omega
  have HL:Hid (¬xs.length=ys.length):=hl;clear hl;go_enter Tryz.func44,Tryz.ntmps44
  go_wp2;go_ret;refine⟨A8 ?_,AC.refl _⟩;have:xs≠ys:=fun e=>HL.out (by rw[e])
  simp[this]
theorem Ux {w w1:World}{x0 x1 y0 y1:Value}{t t':TypeId}(k:AC ((w.alloc (.cells #[x0,x1] t)).alloc (.cells #[y0,y1] t')) w1):
  (w1.cell? ⟨w.heap.size,0,none⟩=some x0/\w1.cell? ⟨w.heap.size,1,none⟩=some x1)/\(w1.cell? ⟨w.heap.size+1,0,none⟩=some y0/\w1.cell? ⟨w.heap.size+1,1,none⟩=some y1):=by
 have h0:∀i:Nat,w1.cell? ⟨w.heap.size,i,none⟩=(#[x0,x1])[i]?:=fun i=>by
  rw[k.cell (by simp only[AD];omega),(((AC.refl (w.alloc _)).alloc _)).cell (by simp only[AD];omega)];exact AR (AC.refl _) i
 have h1:∀i:Nat,w1.cell? ⟨w.heap.size+1,i,none⟩=(#[y0,y1])[i]?:=fun i=>by
  have:=AR k i;rw[AD] at this;exact this
 exact⟨⟨h0 0,h0 1⟩,⟨h1 0,h1 1⟩⟩
theorem VB (w:World)(vF vR uF uR:Value)(f rows g rows':List Int)(hf:Rd w vF f)(hr:Rd w vR rows)(kf:Rd w uF g)(kr:Rd w uR rows')(lf:f.length<=1048576)(lr:rows.length<=1048576):
  Calls Tryz.prog 20 #[.agg #[vF,vR],.agg #[uF,uR]] w fun e w'=>e = .returned (.bool (decide (f=g)&&decide (rows=rows')))/\AC w w':=by
 have CF:=fun (W:World) (kW:AC w W)=>Xn W vF uF f g (hf.keep kW) (kf.keep kW) lf
 have CR:=fun (W:World) (kW:AC w W)=>Xn W vR uR rows rows' (hr.keep kW) (kr.keep kW) lr
 obtain⟨aF,cF,rfl,-⟩:=hf;obtain⟨aR,cR,rfl,-⟩:=hr;obtain⟨bF,dF,rfl,-⟩:=kf;obtain⟨bR,dR,rfl,-⟩:=kr;generalize decide (f=g)=P at CF ⊢;generalize decide (rows=rows')=Q at CR ⊢;go_enter Tryz.func20,Tryz.ntmps20
 go_wp2_with fail
 refine (CF _ (((AC.refl w).alloc _).alloc _)).mono ?_;rintro e w1 ⟨rfl,k1⟩;obtain⟨⟨c0,c1⟩,⟨c2,c3⟩⟩:=Ux k1;have K1:=(((AC.refl w).alloc _).alloc _).trans k1;cases P
 ·
  go_wp2;go_ret;exact⟨rfl,K1⟩
 ·
  go_wp2_with fail
  refine (CR _ K1).mono ?_;rintro e w2 ⟨rfl,k2⟩;cases Q
  ·
   go_wp2;go_ret;exact⟨rfl,K1.trans k2⟩
  ·
   go_wp2;go_ret;exact⟨rfl,K1.trans k2⟩
theorem SM (w:World)(vF vR uF uR:Value)(f rows:List Int)(hf:Rd w vF f)(hr:Rd w vR rows)(kf:Rd w uF f)(kr:Rd w uR rows)(lf:f.length<=1048576)(lr:rows.length<=1048576):
  Calls Tryz.prog 20 #[.agg #[vF,vR],.agg #[uF,uR]] w fun e w'=>e = .returned (.bool true)/\AC w w':=by
 have h:=VB w vF vR uF uR f rows f rows hf hr kf kr lf lr;have e:(decide (f=f)&&decide (rows=rows))=true:=by simp
 rw[e] at h;exact h
end Go.Proofs.YtflehmepjhikcaaGreatDoor
