/- Gathered texts. -/
import Derived.Outline
import Derived.RegionTactic
import Derived.Deep.QuietTactic
import Derived.BigQuiet
import Derived.Test.YtflehmepjhikcaaGreatDoorMD
import Derived.Lib.Hide
import Derived.Deep.Cut
set_option maxRecDepth 100000
set_option maxHeartbeats 8000000
namespace Go.Proofs.YtflehmepjhikcaaGreatDoor
open Go.ChangeShapes Go.WideShapes Go.ChangeAt Go.RowKit
theorem Xl (n:Nat):(madeCells (Value.int .i64 0).cells (n*1)).toList=((List.replicate n (0:Int)).map (Value.int .i64)):=by
 rw[KCj,List.map_replicate];exact toList_madeCells_one _ _
theorem Ut (zs:List Int)(j:Nat)(hj:j<zs.length):
  ((zs.take j++List.replicate (zs.length-j) 0).map (Value.int .i64)).set j (.int .i64 (zs.getD j 0))=(zs.take (j+1)++List.replicate (zs.length-(j+1)) 0).map (Value.int .i64):=by
 have e:(zs.take j++List.replicate (zs.length-j) 0).set j (zs.getD j 0)=zs.take (j+1)++List.replicate (zs.length-(j+1)) 0:=by
  have hl:(zs.take j).length=j:=by rw[KAz];omega
  rw[List.set_append_right _ _ (by rw[hl];exact KAM _),hl,Nat.sub_self,show zs.length-j=(zs.length-(j+1))+1 from by omega,List.replicate_succ,List.set_cons_zero,FY zs j hj,KA2];rfl
 rw[<-e,List.map_set]
theorem UA (zs:List Int)(j:Nat)(hj:j<=zs.length):(zs.take j++List.replicate (zs.length-j) (0:Int)).length=zs.length:=by
 rw[KAJ,KAz,List.length_replicate];omega
theorem fM (w:World)(v:Value)(zs:List Int)(h:Rd w v zs)(hn:zs.length<=1048576):
  Calls Tryz.prog 42 #[v] w fun e w'=>∃v',e = .returned v'/\A8 w' w.heap.size v' zs/\AC w w':=by
 obtain⟨a,c,rfl,h⟩:=h;obtain⟨i0,hi,hz0,hz1,hz2⟩:=info_parts Tryz.FM;go_enter Tryz.func42,Tryz.ntmps42
 go_wp2_with (at_make;refine wpList_make_full _ rfl _ _ 25 rfl w.heap.size 2 i0 (.int .i64 0) 1 Tryz.underlying25 hi hz0 hz1 .i64 .i64 _ _ zs.length rfl rfl rfl rfl (by rw[hz2];omega) (by unfold maxLen;omega) (KAM _) ?_;intro w1 hown hgrow)
 rw[Xl] at hown;have hk1:AC w w1:=(AC.refl w).grown hgrow (by simp);clear hgrow;go_loopw [4] (fun i wr=>∃j:Nat,j<=zs.length/\i = .int .i64 j/\wr.ownsRow w.heap.size 2 1 (.slice (some ⟨w.heap.size,0,none⟩) zs.length zs.length) zs.length ((zs.take j++List.replicate (zs.length-j) 0).map (Value.int .i64))/\AC w wr) (fun i _=>zs.length-(intOf i).toNat)
 case atStart=>exact⟨0,KAb _,rfl,by simpa using hown,hk1⟩
 case round=>
  obtain⟨j,hj,rfl,ho,hK⟩:=hrel;by_cases hlt:j<zs.length
  ·
   rcases h with h|⟨b,o,rfl,hb,hc⟩
   . exfalso;rw[h] at hlt;simp at hlt
   have d0:=(hK.cell hb).trans (hc j hlt);have d1:=KAp ho j (by omega);have d2:=KC5 ho j;have hs:=World.ownsRow.stored ho j (.int .i64 (zs.getD j 0));rw[Ut zs j hlt] at hs;obtain⟨u,hu⟩:∃u,((zs.take j++List.replicate (zs.length-j) 0).map (Value.int .i64))[j]? = some u:=⟨_,KAH (by rw[KAj,UA zs j hj];exact hlt)⟩;rw[hu] at d1;obtain⟨p,hp⟩:∃p,p=zs.getD j 0:=⟨_,rfl⟩;rw[<-hp] at d0 hs;clear hu hc hp hown hk1;go_wp2;go_roundw;case rel=>exact⟨j+1,by omega,by go_num,hs.1,hK.grown hs.2 (by simp)⟩
   case measure=>simp[intOf];omega
  ·
   have:j=zs.length:=by omega
   subst this;go_wp2;go_ret;refine⟨_,rfl,?_,hK⟩;unfold A8
   simpa using ho
theorem MO (w:World)(a:Option Addr)(n cap:Nat)(left:Int)(h0:0<=left)(h1:left<=1048576)(hn:n<=maxLen):
  Calls Tryz.prog 40 #[.slice a n cap,.int .i64 left] w fun e w'=>∃r:Int,e = .returned (.int .i64 r)/\w'=w/\(r<0\/((n:Int)<=left/\r=left-n)):=by
 unfold maxLen at hn;have hw:IntKind.i64.wrap (left-n)=left-n:=by rw[KAk];omega
 by_cases hc:left<n
 ·
  have hc':left-n<0:=by omega
  go_enter Tryz.func40,Tryz.ntmps40
  go_wp2;go_ret;exact⟨-1,rfl,rfl,.inl (by omega)⟩
 ·
  have hc':0<=left-n:=by omega
  go_enter Tryz.func40,Tryz.ntmps40
  go_wp2;go_ret;refine⟨left-n,rfl,rfl,.inr ?_⟩;first|exact⟨by omega,rfl⟩|rfl|trivial
theorem YS (w:World)(vF vR:Value)(f rows:List Int)(left:Int)(hf:Rd w vF f)(hr:Rd w vR rows)(h0:0<=left)(h1:left<=1048576)(lf:f.length<=maxLen)(lr:rows.length<=maxLen):
  Calls Tryz.prog 16 #[.agg #[vF,vR],.int .i64 left] w fun e w'=>∃r:Int,e = .returned (.int .i64 r)/\AC w w'/\(r<0\/((f.length:Int)+rows.length<=left)):=by
 obtain⟨aF,cF,rfl,-⟩:=hf;obtain⟨aR,cR,rfl,-⟩:=hr;have k0:AC w (w.alloc (.cells #[.slice aF f.length cF,.slice aR rows.length cR] 39)):=(AC.refl w).alloc _;go_enter Tryz.func16,Tryz.ntmps16
 go_wp2_with fail
 refine (MO _ aF _ cF left h0 h1 lf).mono ?_;rintro e w1 ⟨r,rfl,rfl,hd⟩;by_cases hneg:r<0
 ·
  go_wp2;go_ret;exact⟨-1,rfl,k0,.inl (by omega)⟩
 ·
  obtain⟨d1,rfl⟩:=hd.resolve_left hneg;have hge:0<=left-(f.length:Int):=by omega
  clear hd hneg;go_wp2_with fail
  refine (MO _ aR _ cR _ hge (by omega) lr).mono ?_;rintro e w2 ⟨r,rfl,rfl,hd⟩;by_cases hneg:r<0
  ·
   go_wp2;go_ret;exact⟨-1,rfl,k0,.inl (by omega)⟩
  ·
   obtain⟨d2,rfl⟩:=hd.resolve_left hneg;have hge2:0<=left-(f.length:Int)-(rows.length:Int):=by omega
   go_wp2;go_ret;exact⟨_,rfl,k0,.inr (by omega)⟩
theorem GC {w w':World}{D:Nat}{row:Option Nat}{o:Obj}(h:w.heap[D]? = some o)(hg:w.grownBy w' row)(hr:row≠some D):w'.heap[D]? = some o:=
 (hg.block D (KAm.1 h).1 hr.symm).trans h
theorem A8.WC {w:World}{base:Nat}{v:Value}{zs:List Int}(h:A8 w base v zs):∃a cap,v = .slice a zs.length cap:=by
 obtain⟨a,c,e,_⟩:=h.rd;exact⟨a,c,e⟩
theorem YT (w:World)(vF vR:Value)(f rows:List Int)(hf:Rd w vF f)(hr:Rd w vR rows)(lf:f.length<=1048576)(lr:rows.length<=1048576):
  Calls Tryz.prog 18 #[.agg #[vF,vR]] w fun e w'=>∃uF uR,e = .returned (.agg #[uF,uR])/\A8 w' w.heap.size uF f/\A8 w' w.heap.size uR rows/\(uF.ownBlock=none\/uF.ownBlock≠uR.ownBlock)/\AC w w':=by
 have CF:=fun (W:World) (kW:AC w W)=>fM W vF f (hf.keep kW) lf
 have CR:=fun (W:World) (kW:AC w W)=>fM W vR rows (hr.keep kW) lr
 obtain⟨aF,cF,rfl,-⟩:=hf;obtain⟨aR,cR,rfl,-⟩:=hr;obtain⟨wA,Ho⟩:∃W:World,W=w.alloc (.cells #[.slice aF f.length cF,.slice aR rows.length cR] 39):=⟨_,rfl⟩;have kA:AC w wA:=by rw[Ho];exact (AC.refl w).alloc _
 have sA:wA.heap.size=w.heap.size+1:=by rw[Ho];exact AD _ _
 have bA0:wA.cell? ⟨w.heap.size,0,none⟩=some (.slice aF f.length cF):=by rw[Ho];exact AO (AC.refl _) 0
 have bA1:wA.cell? ⟨w.heap.size,1,none⟩=some (.slice aR rows.length cR):=by rw[Ho];exact AO (AC.refl _) 1
 obtain⟨wB,Rh⟩:∃W:World,W=wA.alloc (Cp Ac Ac):=⟨_,rfl⟩;have kB:AC wA wB:=by rw[Rh];exact (AC.refl wA).alloc _
 have sB:wB.heap.size=w.heap.size+1+1:=by rw[Rh,AD,sA]
 have SB:wB.heap[w.heap.size+1]? = some (Cp Ac Ac):=by rw[Rh,<-sA];exact KAX wA _
 obtain⟨wC,Se⟩:∃W:World,W=wB.alloc (Cp Ac Ac):=⟨_,rfl⟩;have kC:AC wB wC:=by rw[Se];exact (AC.refl wB).alloc _
 have sC:wC.heap.size=w.heap.size+1+1+1:=by rw[Se,AD,sB]
 have SC:KL wB wC (w.heap.size+1+1) Ac Ac:=by rw[Se,<-sB];exact KL.start _ _
 have c1:=((kB.trans kC).cell (by omega:w.heap.size<wA.heap.size)).trans bA1;have c0:=((kB.trans kC).cell (by omega:w.heap.size<wA.heap.size)).trans bA0;have XD:wC.heap[w.heap.size+1]? = some (Cp Ac Ac):=(KAW kC _ (by omega)).trans SB;have K:AC w wC:=(kA.trans kB).trans kC;have HC:=Lib.hid sC;have lC:w.heap.size<wC.heap.size:=by omega
 go_enter Tryz.func18,Tryz.ntmps18
 go_upto_region 2 with fail
 rw[<-Ho,<-Rh,<-Se];clear Ho Rh Se kA kB kC sA sB sC SB bA0 bA1;go_wp2_with fail
 refine (CF _ K).mono ?_;rintro e w1 ⟨uF,rfl,oF,k1⟩;have S1:=SC.keep k1;obtain⟨r0,r1⟩:=S1.cells;have g0:=S1.free 0;have g1:=S1.free 1;have d1:=(k1.cell lC).trans c1;have X1:=GC XD k1.grownBy (by simp);obtain⟨aU,cU,rfl⟩:=oF.WC;have K1:AC w (w1.setCell ⟨w.heap.size+1+1,0,none⟩ (.slice aU f.length cU)):=(K.trans k1).grown (Cv _ _ _ _) (by intro g hg;simp at hg;omega);clear c0 c1;go_wp2_with fail
 refine (CR _ K1).mono ?_;rintro e w2 ⟨uR,rfl,oR,k2⟩;have S2:=(S1.set0 (.slice aU f.length cU)).keep k2;have X2:=GC (GC X1 (Cv w1 (w.heap.size+1+1) 0 (.slice aU f.length cU)) (by simp)) k2.grownBy (by simp);have z1:=(Cv w1 (w.heap.size+1+1) 0 (.slice aU f.length cU)).size;have z2:=k1.size;have z3:=k2.size;have zc:=HC.out;have oF2:=(oF.BZ (D:=w.heap.size+1+1) (by omega) (Cv w1 (w.heap.size+1+1) 0 (.slice aU f.length cU))).keep k2;have ap:(Value.slice aU f.length cU).ownBlock=none\/(Value.slice aU f.length cU).ownBlock≠uR.ownBlock:=(oF.BZ (D:=w.heap.size+1+1) (by omega) (Cv w1 (w.heap.size+1+1) 0 (.slice aU f.length cU))).apart oR;have K2:=K1.trans k2;clear r0 r1 g0 g1 d1 S1 X1 K1 k1 k2 oF XD SC;obtain⟨aV,cV,rfl⟩:=oR.WC;obtain⟨r0,r1⟩:=S2.cells;have g0:=S2.free 0;have g1:=S2.free 1;have S3:=S2.set1 (.slice aV rows.length cV);have X3:KL w2 (w2.setCell ⟨w.heap.size+1+1,1,none⟩ (.slice aV rows.length cV)) (w.heap.size+1) Ac Ac->True:=fun _=>trivial
 have G3:=Cv w2 (w.heap.size+1+1) 1 (.slice aV rows.length cV);have X4:=GC X2 G3 (by simp);have S4:KL (w2.setCell ⟨w.heap.size+1+1,1,none⟩ (.slice aV rows.length cV)) (w2.setCell ⟨w.heap.size+1+1,1,none⟩ (.slice aV rows.length cV)) (w.heap.size+1) Ac Ac:=⟨X4,UM _ 0 _⟩;have hZ:=(S4.set0 (.slice aU f.length cU)).set1 (.slice aV rows.length cV);obtain⟨q0,q1⟩:=S4.cells;have q2:=S4.free 0;have q3:=S4.free 1;obtain⟨t0,t1⟩:=S3.cells;have lz:=X4;have HF:=Lib.hid ((oF2.BZ (D:=w.heap.size+1+1) (by omega) G3).BZ (D:=w.heap.size+1) (by omega) hZ.2);have HO:=Lib.hid ((oR.BZ (D:=w.heap.size+1+1) (by omega) G3).BZ (D:=w.heap.size+1) (by omega) hZ.2);have HK:=Lib.hid ((K2.grown G3 (by intro g hg;simp at hg;omega)).grown hZ.2 (by intro g hg;simp at hg;omega));have HZ:=Lib.hid hZ.1;have HZ1:=Lib.hid z1;clear hZ S4 S3 S2 X4 X3 X2 G3 oF2 oR K2 lz zc;go_wp2;refine bodyPost_ret (Aw (by rfl) _ _ (w.heap.size+1) _ _ (0,0) _ rfl HZ.out Tryz.underlying27 rfl (by kernel_rfl)) rfl ?_;exact⟨_,_,rfl,HF.out.BK (by have:=HC.out;omega),HO.out.BK (by have:=HC.out;have:=HZ1.out;omega),ap,HK.out⟩
end Go.Proofs.YtflehmepjhikcaaGreatDoor
