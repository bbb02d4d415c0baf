/- Gathered texts. -/
import Derived.Test.YtgakfkjjkobpiaaGreatML
import Derived.BigRegion
import Derived.RegionTactic
import Derived.Lib.Hide
import Derived.Outline
import Derived.Deep.QuietTactic
import Derived.BigQuiet
import Derived.Deep.Cut
set_option maxRecDepth 100000
set_option maxHeartbeats 8000000
namespace Go.Proofs.YtgakfkjjkobpiaaGreat
open Go.ChangeShapes Go.WideShapes Go.ChangeAt Go.RowKit
theorem Yw {AA:List (List Dd)}{es:List Ev}{g:Int}{c k:Nat}{b:Bd}(h:g=0\/Av (Ar AA es b c) c=(AA.getD c []).length\/Bi AA c (Av (Ar AA es b c) c)≠g):GC AA es g c (k+1) b=Ar AA es b c:=by rw[GC,if_pos h]
theorem Yv {AA:List (List Dd)}{es:List Ev}{g:Int}{c k:Nat}{b:Bd}(h:¬(g=0\/Av (Ar AA es b c) c=(AA.getD c []).length\/Bi AA c (Av (Ar AA es b c) c)≠g)):GC AA es g c (k+1) b=GC AA es g c k (Ar AA es b c):=by rw[GC,if_neg h]
theorem ZH {AA:List (List Dd)}{es:List Ev}{c k:Nat}{b:Bd}(hc:c<b.AL.length)(h:b.AL.getD c 0=(k:Int)):(Ar AA es b c).AL.getD c 0=((k+1:Nat):Int)/\Av (Ar AA es b c) c=k+1:=by
 have e:(Ar AA es b c).AL.getD c 0=((k+1:Nat):Int):=by
  show (b.AL.set c (b.AL.getD c 0+1)).getD c 0=_;rw[Ah _ _ _ _ hc,if_pos rfl,h];omega
 exact⟨e,by unfold Av;rw[e,Int.toNat_natCast]⟩
structure o7 (AA:List (List Dd))(es:List Ev)(g:Int)(c M n k0:Nat)(b:Bd)(q:Nat)(b':Bd):Prop where
 Xx:EF AA b' (n+q)
 nx:b'.AL.getD c 0=((k0+q:Nat):Int)
 lt:k0+q<M
 go:GC AA es g c M b=GC AA es g c (M-q) b'
theorem R8 (w:World)(m D:Nat)(v:BV)(nv rv:List Value)(bs N:Nat)(AA:List (List Dd))(b:Bd)(n c:Nat)(h:AR w m D v nv rv bs N AA b)(S:EF AA b n)(hn:n<=500)(hc:c<AA.length)(hx0:0<=b.AL.getD c 0)(hxl:Av b c<(AA.getD c []).length):
  Calls Tryz.prog 67 #[.pointer (some ⟨D,0,none⟩),.int .i64 (c:Int)] w fun e w'=>e = .returned (.tuple #[])/\∃nv' rv',AR w' m D v nv' rv' bs N AA (GC AA (AB AA) (Bi AA c (Av b c)) c (AA.getD c []).length b)/\Ak w w' (BG D v nv rv) (BG D v nv' rv'):=by
 have hd3:AA.length<=3:=(As S.work).1
 have hl5:(AA.getD c []).length<=5:=by
  have:=(As S.work).2 c hc;simp only[Ft,Bool.and_eq_true,decide_eq_true_eq] at this;exact this.2
 have hcx:c<b.AL.length:=by rw[S.AL];exact hc
 obtain⟨vW,vP,vL,vN,vX,vS,vF,vR⟩:=v;obtain⟨gx,cx,eX,-,-,-⟩:=h.oX.lit hcx;simp only at eX;subst eX;have mX:=h.ge .AL trivial gx rfl;have hbase:=h.base;obtain⟨k0,hk0⟩:=Int.eq_ofNat_of_zero_le hx0;have hN0:Av b c=k0:=by unfold Av;rw[hk0,Int.toNat_natCast]
 rw[hN0] at hxl ⊢;have CN:=Hj w _ AA b c h.rd ⟨hc,S.AL,hx0,by rw[hk0];omega,by omega⟩;have eD:RH AA b c=An AA c k0:=by unfold RH;rw[hN0,if_pos hxl]
 have eI:U5 AA b c=true:=by unfold U5;rw[hN0,decide_eq_true hxl]
 rw[eD,eI] at CN;obtain⟨y0,y1,y2,y3,hy⟩:∃y0 y1 y2 y3:Int,An AA c k0=(y0,y1,y2,y3):=⟨_,_,_,_,rfl⟩;have hg:Bi AA c k0=y3:=by show (An AA c k0).2.2.2=y3;rw[hy]
 rw[hy] at CN;rw[hg];have len':∃M,M=(AA.getD c []).length:=⟨_,rfl⟩;obtain⟨M,hM⟩:=len';rw[<-hM] at hxl hl5 ⊢;have HM:=Lib.hid hM;clear hM hg hy eD eI hN0;obtain⟨e0,e1,e2,e3,e4,e5,e6,e7⟩:=h.cells;simp only at e0 e1 e2 e3 e4 e5 e6 e7;have i1:(0:Int)<=(c:Int):=Int.natCast_nonneg _;have i2:(c:Int)<(b.AL.length:Int):=by omega
 have i3:¬((10:Int)<=(c:Int)):=by omega
 go_enter Tryz.func67,Tryz.ntmps67
 go_wp2_with fail
 refine CN.mono ?_;rintro e w1 ⟨rfl,k1⟩;clear e0 e1 e2 e3 e4 e5 e6 e7 CN;go_upto_region 6 with fail
 obtain⟨w2,hw2⟩:∃W:World,W=w1.alloc (.cells #[.int .i64 y0,.int .i64 y1,.int .i64 y2,.int .i64 y3] 51):=⟨_,rfl⟩;have kD:AC w1 w2:=by rw[hw2];exact (AC.refl w1).alloc _
 have lD:w1.heap.size<w2.heap.size:=by rw[hw2,AD];omega
 have BX:Hid (w2.cell? ⟨w1.heap.size,3,none⟩=some (.int .i64 y3)):=Lib.hid (by rw[hw2];exact AS (AC.refl _) 3);rw[<-hw2];clear hw2;have NB:¬BG D ⟨vW,vP,vL,vN,.slice (some ⟨gx,0,none⟩) b.AL.length cx,vS,vF,vR⟩ nv rv w1.heap.size:=fun hB=>by have:=(h.blk _ hB).2.1;have:=k1.size;omega
 have H2:=(h.keep k1).keep kD;have T2:=((Ak.refl w (BG D ⟨vW,vP,vL,vN,.slice (some ⟨gx,0,none⟩) b.AL.length cx,vS,vF,vR⟩ nv rv)).keep k1).keep kD;have I2:o7 AA (AB AA) y3 c M n k0 b 0 b:=⟨S,by rw[hk0];rfl,hxl,rfl⟩;have SL:Hid (∀b' q,o7 AA (AB AA) y3 c M n k0 b q b'->b'.AL.length=b.AL.length):=Lib.hid (fun b' q I=>by rw[I.Xx.AL,S.AL]);generalize w1.heap.size=BD at *;clear h S hx0 hk0 k1 kD;go_loopw [9] (fun _ wr=>∃(q:Nat) (b':Bd) (nv' rv':List Value),AR wr m D ⟨vW,vP,vL,vN,.slice (some ⟨gx,0,none⟩) b.AL.length cx,vS,vF,vR⟩ nv' rv' bs N AA b'/\o7 AA (AB AA) y3 c M n k0 b q b'/\Ak w2 wr (BG D ⟨vW,vP,vL,vN,.slice (some ⟨gx,0,none⟩) b.AL.length cx,vS,vF,vR⟩ nv rv) (BG D ⟨vW,vP,vL,vN,.slice (some ⟨gx,0,none⟩) b.AL.length cx,vS,vF,vR⟩ nv' rv')) (fun _ wr=>M-(intOf ((wr.cell? ⟨gx,c,none⟩).getD undef)).toNat)
 case atStart=>exact⟨0,b,nv,rv,H2,I2,Ak.refl _ _⟩
 case round=>
  obtain⟨q,b',nv',rv',H,I,T⟩:=hrel;clear I2;have hlq:=I.lt;have hbl:=SL.out b' q I;have hcx':c<b'.AL.length:=by rw[hbl];exact hcx
  obtain⟨gx',cx',kY,-,dX,-⟩:=H.oX.lit hcx';simp only[Value.slice.injEq,Option.some.injEq,Addr.mk.injEq,and_true] at kY;obtain⟨rfl,-,rfl⟩:=kY;have d0:=dX c hcx';rw[I.nx] at d0;obtain⟨kq,hkq⟩:∃kq,kq=k0+q:=⟨_,rfl⟩;rw[<-hkq] at d0 hlq;have qm:=Lib.hid hkq;have mH:b'.AL.getD c 0=(kq:Int):=by rw[I.nx,hkq]
  have CD:=QK wr m D _ nv' rv' bs N AA b' (n+q) c kq H I.Xx (by omega) hc (by rw[<-HM.out];exact hlq);have c4:wr.cell? ⟨D,4,none⟩=some (.slice (some ⟨gx,0,none⟩) b.AL.length cx):=H.cells.2.2.2.2.1;have M0:Hid (M-(intOf ((wr.cell? ⟨gx,c,none⟩).getD undef)).toNat=M-kq):=Lib.hid (by rw[d0];simp[intOf]);clear hkq dX;go_wp2_with fail
  refine CD.mono ?_;rintro e w3 ⟨rfl,nv3,rv3,H3,T3⟩;clear CD c4 d0;have hdn:(BM AA (AB AA) b' c kq).AL=b'.AL:=Li _ _ _ _ _;have hc3:c<(BM AA (AB AA) b' c kq).AL.length:=by rw[hdn];exact hcx'
  obtain⟨gx',cx',kY,lX,dX,fX⟩:=H3.oX.lit hc3;simp only[Value.slice.injEq,Option.some.injEq,Addr.mk.injEq,and_true] at kY;obtain⟨rfl,-,rfl⟩:=kY;have d3:=dX c hc3;rw[hdn,mH] at d3;have f3:=fX c;have c3:w3.cell? ⟨D,4,none⟩=some (.slice (some ⟨gx,0,none⟩) b.AL.length cx):=H3.cells.2.2.2.2.1;have jw:IntKind.i64.wrap ((kq:Int)+1)=(kq:Int)+1:=by rw[IntKind.wrap_i64];omega
  have yK:Hid (Ar AA (AB AA) b' c={ BM AA (AB AA) b' c kq with AL:=(BM AA (AB AA) b' c kq).AL.set c ((kq:Int)+1) }):=Lib.hid (by
   have e:Av b' c=kq:=by unfold Av;rw[mH,Int.toNat_natCast]
   rw[Ar,e,mH,hdn])
  have H4:=H3.drew.gM (k:=c) (x:=(kq:Int)+1) (by show Value.slice _ _ _ = .slice _ _ _;rw[hdn,hbl]);rw[<-yK.out] at H4;have T4:=(T3.keep (AC.refl w3).drew).grown (Ad w3.drew gx c (.int .i64 ((kq:Int)+1))) (fun g hg=>⟨.AL,trivial,hg⟩);obtain⟨on1,on2⟩:=ZH (AA:=AA) (es:=AB AA) hcx' mH;have S4:=I.Xx.one c;have CN:=Hj _ _ AA _ c H4.rd ⟨hc,S4.AL,by rw[on1];omega,by rw[on1,<-HM.out];omega,by rw[<-HM.out];omega⟩;have eI:U5 AA (Ar AA (AB AA) b' c) c=decide (kq+1<M):=by unfold U5;rw[on2,HM.out]
  have eD:kq+1<M->RH AA (Ar AA (AB AA) b' c) c=An AA c (kq+1):=fun hh=>by unfold RH;rw[on2,if_pos (by rw[<-HM.out];exact hh)]
  rw[eI] at CN;have HST:Hid (∀k,(y3=0\/kq+1=M\/Bi AA c (kq+1)≠y3)->GC AA (AB AA) y3 c (k+1) b'=Ar AA (AB AA) b' c):=Lib.hid (fun k hh=>Yw (by rw[on2,<-HM.out];exact hh));have zq:Hid (∀k,¬(y3=0\/kq+1=M\/Bi AA c (kq+1)≠y3)->GC AA (AB AA) y3 c (k+1) b'=GC AA (AB AA) y3 c k (Ar AA (AB AA) b' c)):=Lib.hid (fun k hh=>Yv (by rw[on2,<-HM.out];exact hh));have pE:Hid (GC AA (AB AA) y3 c M b=GC AA (AB AA) y3 c (M-q-1+1) b'):=Lib.hid (by rw[I.go];congr 1;have:=qm.out;omega);have NI:Hid (∀(hh:kq+1<M),(GC AA (AB AA) y3 c (M-q-1+1) b'=GC AA (AB AA) y3 c (M-q-1) (Ar AA (AB AA) b' c))->o7 AA (AB AA) y3 c M n k0 b (q+1) (Ar AA (AB AA) b' c)):=Lib.hid (fun hh e=>⟨S4,by rw[on1,qm.out];congr 1,by have:=qm.out;omega,by rw[pE.out,e];congr 1⟩);have DX:Hid (∀hh:kq+1<M,(RH AA (Ar AA (AB AA) b' c) c).2.2.2=Bi AA c (kq+1)):=Lib.hid (fun hh=>by rw[eD hh])
  have n4:Hid ((w3.drew.setCell ⟨gx,c,none⟩ (.int .i64 ((kq:Int)+1))).cell? ⟨gx,c,none⟩=some (.int .i64 ((kq:Int)+1))):=Lib.hid (by
   obtain⟨g',c',e',-,dd,-⟩:=H4.oX.lit (k:=c) (by show c<(b'.AL.set c _).length;simpa using hcx');simp only[Value.slice.injEq,Option.some.injEq,Addr.mk.injEq,and_true] at e';obtain⟨rfl,-,rfl⟩:=e';have:=dd c (by show c<(b'.AL.set c _).length;simpa using hcx')
   rw[this,on1];rfl)
  generalize Ar AA (AB AA) b' c=b2 at *;generalize RH AA b2 c=Y at *;clear eD eI dX fX H H3 S4 yK on1 on2 mH;go_upto_region 8 with (first|go_region|fail)
  obtain⟨w4,hw4⟩:∃W:World,W=(w3.setCell ⟨gx,c,none⟩ (.int .i64 ((kq:Int)+1))).drew:=⟨_,rfl⟩;have e4:w3.drew.setCell ⟨gx,c,none⟩ (.int .i64 ((kq:Int)+1))=w4:=by rw[hw4];rfl
  rw[e4] at H4 T4 CN n4;rw[<-hw4];clear hw4 e4 d3 f3 c3
  have NB':¬BG D ⟨vW,vP,vL,vN,.slice (some ⟨gx,0,none⟩) b.AL.length cx,vS,vF,vR⟩ nv' rv' BD:=fun hB=>by
   rcases T.news BD hB with h1|h1
   . exact NB h1
   . omega
  have g4:w4.cell? ⟨BD,3,none⟩=some (.int .i64 y3):=(T4.cell (Nat.lt_of_lt_of_le lD T.size) NB').trans ((T.cell lD NB).trans BX.out);have lB4:BD<w4.heap.size:=Nat.lt_of_lt_of_le lD (Nat.le_trans T.size T4.size);obtain⟨e0,e1,e2,e3,e4,e5,e6,e7⟩:=H4.cells;simp only at e0 e1 e2 e3 e4 e5 e6 e7;obtain⟨z0,z1,z2,z3⟩:=Y;simp only at DX;go_wp2_with fail
  refine CN.mono ?_;rintro e w5 ⟨rfl,k5⟩;have H6:=(H4.keep k5).keep ((AC.refl w5).alloc (.cells #[.int .i64 z0,.int .i64 z1,.int .i64 z2,.int .i64 z3] 51));have k6:=k5.trans ((AC.refl w5).alloc (.cells #[.int .i64 z0,.int .i64 z1,.int .i64 z2,.int .i64 z3] 51));have TF:=(T2.trans T).trans (T4.keep k6);have TL:=T.trans (T4.keep k6);have g5:=(k5.cell lB4).trans g4;have lB5:BD<w5.heap.size:=Nat.lt_of_lt_of_le lB4 k5.size;have g6:(w5.alloc (.cells #[.int .i64 z0,.int .i64 z1,.int .i64 z2,.int .i64 z3] 51)).cell? ⟨BD,3,none⟩=some (.int .i64 y3):=(((AC.refl w5).alloc _).cell lB5).trans g5;have lx4:gx<w4.heap.size:=block_lt_of_cell n4.out;have n6:=Lib.hid ((k6.cell (b:=gx) (o:=c) lx4).trans n4.out);clear e0 e1 e2 e3 e4 e5 e6 e7 CN H4 n4 g4 g5;by_cases hy0:y3=0
  ·
   have PW:y3=0\/kq+1=M\/Bi AA c (kq+1)≠y3:= .inl hy0;have b0:(y3==0)=true:=by simp[hy0]
   clear hy0;go_wp2
   (try simp only[Exit.inBlock,Exit.then])
   refine bodyPost_ret (results_none rfl _ _ _) rfl ?_;exact⟨rfl,nv3,rv3,by rw[pE.out,HST.out _ PW];exact H6,TF⟩
  ·
   have b0:(y3==0)=false:=by simp[hy0]
   by_cases hend:kq+1<M
   ·
    have bI:decide (kq+1<M)=true:=decide_eq_true hend;rw[bI];have hz:=DX.out hend;by_cases fJ:z3=y3
    ·
     have wJ:¬(y3=0\/kq+1=M\/Bi AA c (kq+1)≠y3):=by
      rintro (h1|h1|h1)
      . exact hy0 h1
      . omega
      . exact h1 (by rw[<-hz];exact fJ)
     have I':=NI.out hend (zq.out _ wJ);have bz:(z3 != y3)=false:=by simp[fJ]
     have ZZ:z3=y3:=fJ;clear hy0 hz bI fJ ZZ wJ;go_wp2;go_roundw;case rel=>exact⟨q+1,_,nv3,rv3,H6,I',TL⟩
     case measure=>
      rw[M0.out,n6.out];simp only[Option.getD_some,intOf];omega
    ·
     have PW:y3=0\/kq+1=M\/Bi AA c (kq+1)≠y3:= .inr (.inr (by rw[<-hz];exact fJ));have bz:(z3 != y3)=true:=by simpa using fJ
     clear hy0 hz bI fJ;go_wp2
     (try simp only[Exit.inBlock,Exit.then])
     refine bodyPost_ret (results_none rfl _ _ _) rfl ?_;exact⟨rfl,nv3,rv3,by rw[pE.out,HST.out _ PW];exact H6,TF⟩
   ·
    have PW:y3=0\/kq+1=M\/Bi AA c (kq+1)≠y3:= .inr (.inl (by omega));have bI:decide (kq+1<M)=false:=decide_eq_false hend;rw[bI];clear hy0 bI;go_wp2
    (try simp only[Exit.inBlock,Exit.then])
    refine bodyPost_ret (results_none rfl _ _ _) rfl ?_;exact⟨rfl,nv3,rv3,by rw[pE.out,HST.out _ PW];exact H6,TF⟩
theorem Rh {AA:List (List Dd)}{b:Bd}(h:Af AA b=true){c:Nat}(hc:c<AA.length){x:Nt}(hx:x∈b.AH.getD c []):0<=x.1/\x.1<=2:=by
 simp only[Af,Bool.and_eq_true] at h;have:=List.all_eq_true.1 h.2.2.2 c (List.mem_range.2 hc);simp only[Lg,Bool.and_eq_true,Kd,List.all_eq_true] at this;have:=this.2.2 x hx;simp only[SO,Bool.and_eq_true,decide_eq_true_eq] at this;exact this.1
theorem Ff (w:World)(m D:Nat)(v:BV)(nv rv:List Value)(bs N:Nat)(AA:List (List Dd))(b:Bd)(s:Int)(h:AR w m D v nv rv bs N AA b)(hb:Af AA b=true)(hs:Dx (Ae AA b) s=true):
  Calls Tryz.prog 67 #[.pointer (some ⟨D,0,none⟩),.int .i64 s] w fun e w'=>e = .returned (.tuple #[])/\∃nv' rv',AR w' m D v nv' rv' bs N AA (Aq AA (AB AA) b s)/\Ak w w' (BG D v nv rv) (BG D v nv' rv'):=by
 have S:=EF.of hb;have hd3:AA.length<=3:=(As S.work).1;have hm:=GX hs;unfold Ae at hm;rw[List.mem_append,List.mem_map,List.mem_map] at hm;rcases hm with ⟨c,hc,rfl⟩|⟨c,hc,rfl⟩
 ·
  rw[List.mem_filter,List.mem_range] at hc;have hcan:=hc.2;unfold C6 at hcan;simp only[Bool.and_eq_true,decide_eq_true_eq] at hcan
  have e:Aq AA (AB AA) b (c:Int)=GC AA (AB AA) (Bi AA c (Av b c)) c (AA.getD c []).length b:=by
   unfold Aq;rw[if_neg (by omega),Int.toNat_natCast]
  rw[e];exact R8 w m D v nv rv bs N AA b 20 c h S (by omega) hc.1 (EN hb hc.1).1 hcan.1
 ·
  rw[List.mem_filter,List.mem_range] at hc
  have e:Aq AA (AB AA) b (10+(c:Int))=Bs b c:=by
   unfold Aq;rw[if_pos (by omega),show (10+(c:Int)-10).toNat=c by omega]
  rw[e]
  cases hz:b.AH.getD c [] with
  |nil=>rw[hz] at hc;simp at hc
  |cons x r=>
   exact Mv w m D v nv rv bs N AA b 20 c x r h S (by omega) hc.1 hz (Rh hb hc.1 (by rw[hz];simp))
theorem Cp (w:World)(v:BV)(AA:List (List Dd))(b:Bd)(h:CJ w v AA b)(hp:VH AA b):
  Calls Tryz.prog 66 #[v.agg] w fun e w'=>∃v',e = .returned v'/\A8 w' w.heap.size v' (Ae AA b)/\AC w w':=by
 have C:=fun (W:World) (kW:AC w W) (c:Nat) (hc:c<AA.length)=>R7 W v AA b c (h.keep kW) hp hc
 obtain⟨i0,hi,hz0,hz1,hz2⟩:=info_parts Tryz.FL;have HN:=Lib.hid h.N;have hm:=hp.m;have hpn:=Lib.hid hp.n;obtain⟨aW,aP,aL,aN,aX,aS,aF,aR,cW,cP,cL,cN,cX,cS,cF,cR,rfl⟩:=h.shapes;clear h hp;go_enter Tryz.func66,Tryz.ntmps66
 go_upto_region 1 with fail
 obtain⟨wB,J9⟩:∃W:World,W=w.alloc (.cells #[.slice aW AA.length cW,.slice aP b.AM.length cP,.slice aL b.AQ.length cL,.slice aN b.AH.length cN,.slice aX b.AL.length cX,.slice aS b.sn.length cS,.slice aF b.fr.length cF,.slice aR b.rws.length cR] 30):=⟨_,rfl⟩;have kB:AC w wB:=by rw[J9];exact (AC.refl w).alloc _
 have sB:wB.heap.size=w.heap.size+1:=by rw[J9];exact AD _ _
 have BC:Hid (∀(W:World),AC wB W->W.cell? ⟨w.heap.size,0,none⟩=some (.slice aW AA.length cW)/\W.cell? ⟨w.heap.size,1,none⟩=some (.slice aP b.AM.length cP)/\W.cell? ⟨w.heap.size,2,none⟩=some (.slice aL b.AQ.length cL)/\W.cell? ⟨w.heap.size,3,none⟩=some (.slice aN b.AH.length cN)/\W.cell? ⟨w.heap.size,4,none⟩=some (.slice aX b.AL.length cX)/\W.cell? ⟨w.heap.size,5,none⟩=some (.slice aS b.sn.length cS)/\W.cell? ⟨w.heap.size,6,none⟩=some (.slice aF b.fr.length cF)/\W.cell? ⟨w.heap.size,7,none⟩=some (.slice aR b.rws.length cR)):=Lib.hid (by
  rw[J9]
  exact fun W k=>⟨AS k 0,AS k 1,AS k 2,AS k 3,AS k 4,AS k 5,AS k 6,AS k 7⟩)
 rw[<-J9];clear J9;have SB:=Lib.hid sB;have lB:w.heap.size<wB.heap.size:=by omega
 clear sB;have hown0:A8 (wB.alloc (.cells #[] 2)) wB.heap.size (.slice (some ⟨wB.heap.size,0,none⟩) 0 0) []:=World.ownsRow_lit wB #[] 0 (Nat.le_refl _) (by decide) rfl;go_wp2;go_loopw [3,4] (fun v0 i wr=>∃(k:Nat) (v:Value),v=v0/\k<=AA.length/\i = .int .i64 k/\A8 wr wB.heap.size v (GL AA b k)/\AC wB wr) (fun _ i _=>AA.length-(intOf i).toNat)
 case atStart=>exact⟨0,_,rfl,Nat.zero_le _,rfl,hown0,(AC.refl _).alloc _⟩
 case round=>
  obtain⟨k,v,rfl,hk,rfl,ho,hK⟩:=hrel;clear hown0;obtain⟨b0,b1,b2,b3,b4,b5,b6,b7⟩:=BC.out _ hK;by_cases hlt:k<AA.length
  ·
   have i1:(0:Int)<=(k:Int):=Int.natCast_nonneg _;have i2:(k:Int)<(AA.length:Int):=by omega
   go_wp2_with fail
   refine (C _ (kB.trans hK) k hlt).mono ?_;rintro e w2 ⟨rfl,k2⟩;have hK2:=hK.trans k2;have hml:(GL AA b k).length<=k:=FE _ _ _;have hsz:=hK2.size;replace ho:=ho.keep k2;clear b0 b1 b2 b3 b4 b5 b6 b7;cases hc:C6 AA b k
   ·
    have HM:Hid (GL AA b (k+1)=GL AA b k):=Lib.hid (Tw hc);go_wp2;go_roundw;case rel=>exact⟨k+1,_,rfl,by omega,by go_num,by rw[HM.out];exact ho,hK2⟩
    case measure=>simp[intOf];omega
   ·
    have HM:Hid (GL AA b (k+1)=GL AA b k++[(k:Int)]):=Lib.hid (Vq hc);go_wp2_with (at_builtin;refine wpList_append_own _ rfl _ _ 26 rfl wB.heap.size 2 i0 (.int .i64 0) 1 8 Tryz.underlying26 hi hz0 hz1 hz2 rfl (by decide) _ _ _ rfl (World.ownsRow.alloc ho _) ⟨_,0,none⟩ 1 1 [.int .i64 k] rfl rfl ?c1 ?c2 ?c3 ?c4 ?c5 ?_)
    case c1=>
     intro j u hj
     match j,hj with
     | 0,hj=>simp at hj;subst hj;simp[Addr.add]
    case c2=>intro u hu;simp at hu;subst hu;rfl
    case c3=>unfold maxLen;omega
    case c4=>omega
    case c5=>simp;omega
    intro v' w1 hown' hgrow _;have hK1:AC wB w1:=(hK2.alloc _).grown hgrow ho.ge;clear hgrow;go_wp2;go_roundw;case rel=>exact⟨k+1,_,rfl,by omega,by go_num,by rw[HM.out];exact Dp hown',hK1⟩
    case measure=>simp[intOf];omega
  ·
   obtain rfl:k=AA.length:=by omega
   have HP:Hid (GL AA b AA.length++Mo b AA.length=Ae AA b):=Lib.hid (Ew AA b);have hml:(GL AA b AA.length).length<=AA.length:=FE _ _ _;generalize GL AA b AA.length=CK at *;have ho0:A8 wr wB.heap.size v (CK++Mo b 0):=by rw[show Mo b 0=[] from rfl,List.append_nil];exact ho
   clear ho hk hlt;go_wp2;clear b0 b1 b2 b3 b4 b5 b6 b7;go_loopw [3,5] (fun v0 i wr=>∃(k:Nat) (v:Value),v=v0/\k<=AA.length/\i = .int .i64 k/\A8 wr wB.heap.size v (CK++Mo b k)/\AC wB wr) (fun _ i _=>AA.length-(intOf i).toNat)
   case atStart=>exact⟨0,_,rfl,Nat.zero_le _,rfl,ho0,hK⟩
   case round=>
    clear hK ho0;obtain⟨k,v,rfl,hk,rfl,ho,hK⟩:=hrel;obtain⟨b0,b1,b2,b3,b4,b5,b6,b7⟩:=BC.out _ hK;by_cases hlt:k<AA.length
    ·
     have i1:(0:Int)<=(k:Int):=Int.natCast_nonneg _;have i2:(k:Int)<(AA.length:Int):=by omega
     have hkn:k<b.AH.length:=by rw[hpn.out];exact hlt
     have i3:(k:Int)<(b.AH.length:Int):=by omega
     have hN:=HN.out.keep (kB.trans hK);obtain⟨a',c',he',hN⟩:=hN;simp only[Value.slice.injEq,true_and] at he';obtain⟨rfl,rfl⟩:=he';rcases hN with h0|⟨bn,on,rfl,hbn,hcn'⟩
     . exfalso;rw[h0] at hkn;simp at hkn
     obtain⟨vn,d3,r3⟩:=hcn' k hkn;obtain⟨an,cn,rfl,-⟩:=r3;have hml2:=IG b k;have hml3:(CK++Mo b k).length<=AA.length+k:=by rw[List.length_append];omega
     have hsz:=hK.size;have HH:0<(b.AH.getD k []).length->Hid (Mo b (k+1)=Mo b k++[10+(k:Int)]):=fun h=>Lib.hid (ZA h)
     have HZ:¬ 0<(b.AH.getD k []).length->Hid (Mo b (k+1)=Mo b k):=fun h=>Lib.hid (Wk h)
     generalize b.AH.getD k []=ns at *;have i4:IntKind.i64.wrap (10+(k:Int))=10+(k:Int):=by rw[IntKind.wrap_i64];omega
     clear hcn';by_cases hz:0<ns.length
     ·
      have HM:Hid (CK++Mo b (k+1)=(CK++Mo b k)++[10+(k:Int)]):=Lib.hid (by rw[(HH hz).out,List.append_assoc]);have i5:(0:Int)<(ns.length:Int):=by omega
      clear HH HZ;generalize CK++Mo b k=PK at *;go_wp2_with (at_builtin;refine wpList_append_own _ rfl _ _ 26 rfl wB.heap.size 2 i0 (.int .i64 0) 1 8 Tryz.underlying26 hi hz0 hz1 hz2 rfl (by decide) _ _ _ rfl (World.ownsRow.alloc ho _) ⟨_,0,none⟩ 1 1 [.int .i64 (10+(k:Int))] rfl rfl ?c1 ?c2 ?c3 ?c4 ?c5 ?_)
      case c1=>
       intro j u hj
       match j,hj with
       | 0,hj=>simp at hj;subst hj;simp[Addr.add]
      case c2=>intro u hu;simp at hu;subst hu;rfl
      case c3=>unfold maxLen;omega
      case c4=>omega
      case c5=>simp;omega
      intro v' w1 hown' hgrow _;have hK1:AC wB w1:=(hK.alloc _).grown hgrow ho.ge;clear hgrow b0 b1 b2 b3 b4 b5 b6 b7;go_wp2;go_roundw;case rel=>exact⟨k+1,_,rfl,by omega,by go_num,by rw[HM.out];exact Dp hown',hK1⟩
      case measure=>simp[intOf];omega
     ·
      have HM:=HZ hz;have i5:¬((0:Int)<(ns.length:Int)):=by omega
      clear HH HZ;go_wp2;clear b0 b1 b2 b3 b4 b5 b6 b7;go_roundw;case rel=>exact⟨k+1,_,rfl,by omega,by go_num,by rw[HM.out];exact ho,hK⟩
      case measure=>simp[intOf];omega
    ·
     obtain rfl:k=AA.length:=by omega
     go_wp2;go_ret;exact⟨_,rfl,by rw[<-HP.out];exact ho.BE (by have:=SB.out;omega),kB.trans hK⟩
theorem FM (w:World)(v:Value)(l:List Int)(lo hi:Int)(most:Nat)(h:Rd w v l)(hn:l.length<=1048576):
  Calls Tryz.prog 57 #[v,.int .i64 lo,.int .i64 hi,.int .i64 most] w fun e w'=>e = .returned (.bool (DW l lo hi most))/\w'=w:=by
 obtain⟨a,c,rfl,h⟩:=h;go_enter Tryz.func57,Tryz.ntmps57
 go_wp2;go_loop [9] (fun i=>∃k:Nat,k<=l.length/\i = .int .i64 k/\Hid (∀j,j<k->(decide (lo<=l.getD j 0)&&decide (l.getD j 0<=hi))=true)) (fun i=>l.length-(intOf i).toNat)
 case atStart=>exact⟨0,Nat.zero_le _,rfl,Lib.hid (fun j hj=>absurd hj (Nat.not_lt_zero _))⟩
 case round=>
  obtain⟨k,hk,rfl,hno⟩:=hrel;by_cases hlt:k<l.length
  ·
   rcases h with h|⟨b,o,rfl,hb,hc⟩
   . exfalso;rw[h] at hlt;simp at hlt
   have d1:=hc k hlt;have HF:=fun e=>Lib.hid (VR (most:=most) (lo:=lo) (hi:=hi) hlt e)
   have HT:(decide (lo<=l.getD k 0)&&decide (l.getD k 0<=hi))=true->Hid (∀j,j<k+1->(decide (lo<=l.getD j 0)&&decide (l.getD j 0<=hi))=true):=fun e=>Lib.hid (fun j hj=>by
    by_cases e':j=k
    . rw[e'];exact e
    . exact hno.out j (by omega))
   have HB:Hid (CX (l.getD k 0) lo hi=(decide (lo<=l.getD k 0)&&decide (l.getD k 0<=hi))):=Lib.hid (by unfold CX;rw[Bool.eq_iff_iff];simp);have CI:=Dj (l.getD k 0) lo hi w;rw[HB.out] at CI;clear hc HB;generalize l.getD k 0=p at d1 HF HT CI;generalize (decide (lo<=p)&&decide (p<=hi))=B at HF HT CI;have i1:(0:Int)<=(k:Int):=Int.natCast_nonneg _;have i2:(k:Int)<(l.length:Int):=by omega
   cases B
   ·
    have HE:=HF rfl;clear HF HT;go_wp2_with fail
    refine CI.mono ?_;rintro e w' ⟨rfl,rfl⟩;go_wp2;go_ret;exact⟨by rw[HE.out];rfl,rfl⟩
   ·
    have HE:=HT rfl;clear HF HT;go_wp2_with fail
    refine CI.mono ?_;rintro e w' ⟨rfl,rfl⟩;go_wp2;go_round
    case rel=>exact⟨k+1,by omega,by go_num,HE⟩
    case measure=>simp[intOf];omega
  ·
   obtain rfl:k=l.length:=by omega
   have HE:Hid (DW l lo hi most=decide (l.length<=most)):=Lib.hid (Tp hno.out);have HD:Hid (decide ((l.length:Int)<=(most:Int))=decide (l.length<=most)):=Lib.hid (by rw[decide_eq_decide];omega);go_wp2;go_ret;exact⟨by rw[HE.out,<-HD.out];rfl,rfl⟩
theorem N0 {α:Type}(l:List α)(k:Nat)(z:α)(h:k<l.length):l.take (k+1)=l.take k++[l.getD k z]:=by
 rw[List.take_add_one,List.getElem?_eq_getElem h,List.getD_eq_getElem?_getD,List.getElem?_eq_getElem h];rfl
theorem Pj {α:Type}{f:α->Bool}{l:List α}{k:Nat}(z:α)(h:k<l.length)(h1:(l.take k).all f=true)(h2:f (l.getD k z)=true):(l.take (k+1)).all f=true:=by
 rw[N0 l k z h,List.all_append,h1];rw[List.all_cons,h2];rfl
theorem Nl (d:List Dd):∀l:List (List Dd),Cy (l++[d])=Cy l+d.length
 | []=>by simp[Cy]
 |x::r=>by rw[List.cons_append,Cy,Cy,Nl d r];omega
theorem OG {AA:List (List Dd)}{k:Nat}(hk:k<AA.length)(h:Ft (AA.getD k [])=false):AW AA=false:=by
 rw[AW,ON [] k hk h];simp
theorem C4 (w:World)(v:Value)(AA:List (List Dd))(h:Ic w v AA)(hx:AA.length<=1048576)(hm:∀i,i<AA.length->(AA.getD i []).length<=1048576):
  Calls Tryz.prog 46 #[v] w fun e w'=>e = .returned (.bool (AW AA))/\AC w w':=by
 have RW:=h;obtain⟨a,c,rfl,h⟩:=h;cases hb:CX (AA.length:Int) 1 3
 ·
  have HE:Hid (AW AA=false):=by
   refine Lib.hid ?_;simp[CX] at hb;rw[AW,decide_eq_false (by omega)];rfl
  go_enter Tryz.func46,Tryz.ntmps46
  go_wp2_with (go_at_call 58;refine (Dj _ _ _ _).mono ?_;rintro e w' ⟨rfl,rfl⟩)
  go_ret;exact⟨by rw[HE.out];rfl,AC.refl _⟩
 ·
  have h13:1<=AA.length/\AA.length<=3:=by simp[CX] at hb;omega
  have zm:=Lib.hid h13;have h3:=h13.2;clear h13;go_enter Tryz.func46,Tryz.ntmps46
  go_wp2_with (go_at_call 58;refine (Dj _ _ _ _).mono ?_;rintro e w' ⟨rfl,rfl⟩)
  clear hb;go_loopw [3,4] (fun n i wr=>∃k m:Nat,k<=AA.length/\n = .int .i64 m/\i = .int .i64 k/\Hid (m=Cy (AA.take k)/\(AA.take k).all Ft=true)/\m<=5*k/\AC w' wr) (fun _ i _=>AA.length-(intOf i).toNat)
  case atStart=>exact⟨0,0,Nat.zero_le _,rfl,rfl,Lib.hid (by simp[Cy]),by omega,AC.refl _⟩
  case round=>
   obtain⟨k,m,hk,rfl,rfl,hM,m5,hK⟩:=hrel;by_cases hlt:k<AA.length
   ·
    rcases h with h|⟨b,o,rfl,hb,hc⟩
    . exfalso;rw[h] at hlt;simp at hlt
    obtain⟨u,e1,r1⟩:=hc k hlt;have hmk:=hm k hlt;clear hc hm RW;obtain⟨ds,hds⟩:∃ds,ds=AA.getD k []:=⟨_,rfl⟩;have KP:=Lib.hid hds;rw[<-hds] at r1 hmk;clear hds;obtain⟨ai,ci,rfl,r1⟩:=r1;have d1:=(hK.cell hb).trans e1;have i1:(0:Int)<=(k:Int):=Int.natCast_nonneg _;have i2:(k:Int)<(AA.length:Int):=by omega
    go_wp2;go_loopw [5] (fun i wq=>∃q:Nat,q<=ds.length/\i = .int .i64 q/\Hid ((ds.take q).all FZ=true)/\AC w' wq) (fun i _=>ds.length-(intOf i).toNat)
    case atStart=>exact⟨0,Nat.zero_le _,rfl,Lib.hid (by simp),hK⟩
    case round=>
     obtain⟨q,hq,rfl,hQ,hL⟩:=hrel;have d1:=(hL.cell hb).trans e1;by_cases hlq:q<ds.length
     ·
      rcases r1 with h|⟨b2,o2,rfl,hb2,hc2⟩
      . exfalso;rw[h] at hlq;simp at hlq
      have AT:=(hc2 q hlq).keep hb2 hL;clear hc2;have hbq:b<wr.heap.size:=Nat.lt_of_lt_of_le hb hL.size;have hb3:b2<wr.heap.size:=Nat.lt_of_lt_of_le hb2 hL.size;have j1:(0:Int)<=(q:Int):=Int.natCast_nonneg _;have j2:(q:Int)<(ds.length:Int):=by omega
      have HT:FZ (ds.getD q zD)=true->Hid ((ds.take (q+1)).all FZ=true):=fun e=>Lib.hid (Pj zD hlq hQ.out e)
      have HF:FZ (ds.getD q zD)=false->Hid (AW AA=false):=fun e=>Lib.hid (OG hlt (by rw[<-KP.out,Ft,ON zD q hlq e];rfl))
      clear hQ;obtain⟨d,hd⟩:∃d,d=ds.getD q zD:=⟨_,rfl⟩;rw[<-hd] at AT HT HF;clear hd;obtain⟨x0,x1,x2,x3⟩:=d;obtain⟨A0,A1,A2,A3⟩:=AT;simp only at A0 A1 A2 A3;unfold FZ at HT HF;simp only at HT HF;cases hd:Dy x0 x1 x2 x3
      ·
       have HE:=HF hd;clear HT HF;go_wp2_with fail
       refine (Hx _ _ _ _ _).mono ?_;rintro e wz ⟨rfl,kk⟩;go_wp2;go_ret;exact⟨by rw[HE.out];rfl,hL.trans kk⟩
      ·
       have HE:=HT hd;clear HT HF;go_wp2_with fail
       refine (Hx _ _ _ _ _).mono ?_;rintro e wz ⟨rfl,kk⟩;go_wp2;go_roundw;case rel=>exact⟨q+1,by omega,by go_num,HE,hL.trans kk⟩
       case measure=>simp[intOf];omega
     ·
      obtain rfl:q=ds.length:=by omega
      rw[List.take_length] at hQ;by_cases h5:ds.length<=5
      ·
       have HE:Hid (m+ds.length=Cy (AA.take (k+1))/\(AA.take (k+1)).all Ft=true):=by
        refine Lib.hid ⟨?_,Pj [] hlt hM.out.2 (by rw[<-KP.out,Ft,hQ.out];simp[h5])⟩;rw[N0 AA k [] hlt,Nl,<-KP.out,hM.out.1]
       go_wp2;go_roundw;case rel=>exact⟨k+1,m+ds.length,by omega,by go_num,by go_num,HE,by omega,hL⟩
       case measure=>simp[intOf];omega
      ·
       have HE:Hid (AW AA=false):=Lib.hid (OG hlt (by rw[<-KP.out,Ft];simp;omega));go_wp2;go_ret;exact⟨by rw[HE.out];rfl,hL⟩
   ·
    obtain rfl:k=AA.length:=by omega
    rw[List.take_length] at hM;have rH:∀i,i<AA.length->Ft (AA.getD i [])=true:=fun i hi=>BR [] hM.out.2 i hi
    have HW:Hid (AW AA=(decide (m<=12)&&decide (Pw AA AA.length<=6)&&JS AA)):=by
     refine Lib.hid ?_;rw[AW,decide_eq_true zm.out,hM.out.2,hM.out.1];rfl
    have rw1:=RW.keep hK;clear hM RW h hm;by_cases h12:m<=12
    ·
     have e12:decide ((m:Int)<=12)=true:=by simp;omega
     by_cases h6:Pw AA AA.length<=6
     ·
      have HE:Hid (AW AA=JS AA):=Lib.hid (by rw[HW.out];simp[h12,h6]);go_wp2_with fail
      refine (JV _ _ _ rw1 h3 rH).mono ?_;rintro e wz ⟨rfl,kk⟩;have rw2:=rw1.keep kk;go_wp2_with fail
      refine (Ok _ _ _ rw2 h3 rH).mono ?_;rintro e wy ⟨rfl,k2⟩;go_wp2;go_ret;exact⟨by rw[HE.out];rfl,(hK.trans kk).trans k2⟩
     ·
      have HE:Hid (AW AA=false):=Lib.hid (by rw[HW.out];simp[h6]);go_wp2_with fail
      refine (JV _ _ _ rw1 h3 rH).mono ?_;rintro e wz ⟨rfl,kk⟩;go_wp2;go_ret;exact⟨by rw[HE.out];rfl,hK.trans kk⟩
    ·
     have HE:Hid (AW AA=false):=Lib.hid (by rw[HW.out];simp[h12]);go_wp2;go_ret;exact⟨by rw[HE.out];rfl,hK⟩
theorem DP (w:World)(v:BV)(AA:List (List Dd))(b:Bd)(h:CJ w v AA b)(hz:Cg AA b):
  Calls Tryz.prog 20 #[v.agg] w fun e w'=>e = .returned (.bool (Af AA b))/\AC w w':=by
 obtain⟨aW,aP,aL,aN,aX,aS,aF,aR,cW,cP,cL,cN,cX,cS,cF,cR,rfl⟩:=h.shapes;have HZ:=Lib.hid hz;have HH:=Lib.hid h;have HB:Hid (Af AA b=(DF AA b&&(Ef ((AB AA).length:Int) (AX Aj (AB AA)).length b&&(EC ((AB AA).length:Int) b&&(List.range AA.length).all (fun i=>Lg AA ((AB AA).length:Int) b i))))):=Lib.hid rfl;have CW:=fun (W:World) (kW:AC w W)=>C4 W _ AA (h.W.keep kW) hz.w1 hz.w2
 clear h hz;go_enter Tryz.func20,Tryz.ntmps20
 go_wp2_with fail
 refine (CW _ ((AC.refl w).alloc _)).mono ?_;rintro e w1 ⟨rfl,k1⟩;have K1:=((AC.refl w).alloc _).trans k1;have c0:=AS k1 0;have c1:=AS k1 1;have c2:=AS k1 2;have c3:=AS k1 3;have c4:=AS k1 4;have c5:=AS k1 5;have c6:=AS k1 6;have c7:=AS k1 7;simp at c0 c1 c2 c3 c4 c5 c6 c7;have z1:=Fy k1;clear CW;cases hb:AW AA
 ·
  have HE:Hid (Af AA b=false):=Lib.hid (by rw[HB.out,DF,hb];rfl);go_wp2;go_ret;exact⟨by rw[HE.out];rfl,K1⟩
 by_cases qP:b.AM.length=3;rotate_left
 ·
  have HE:Hid (Af AA b=false):=Lib.hid (by rw[HB.out,DF,decide_eq_false qP];simp);have tP:((b.AM.length:Int) != (3:Int))=true:=by simp;omega
  clear qP;go_wp2;go_ret;exact⟨by rw[HE.out];rfl,K1⟩
 have tP:((b.AM.length:Int) != (3:Int))=false:=by simp[qP]
 have QP:=Lib.hid qP;clear qP;by_cases qL:b.AQ.length=3;rotate_left
 ·
  have HE:Hid (Af AA b=false):=Lib.hid (by rw[HB.out,DF,decide_eq_false qL];simp);have tL:((b.AQ.length:Int) != (3:Int))=true:=by simp;omega
  clear qL;go_wp2;go_ret;exact⟨by rw[HE.out];rfl,K1⟩
 have tL:((b.AQ.length:Int) != (3:Int))=false:=by simp[qL]
 have QL:=Lib.hid qL;clear qL;by_cases qR:b.rws.length=3;rotate_left
 ·
  have HE:Hid (Af AA b=false):=Lib.hid (by rw[HB.out,DF,decide_eq_false qR];simp);have tR:((b.rws.length:Int) != (3:Int))=true:=by simp;omega
  clear qR;go_wp2;go_ret;exact⟨by rw[HE.out];rfl,K1⟩
 have tR:((b.rws.length:Int) != (3:Int))=false:=by simp[qR]
 have QR:=Lib.hid qR;clear qR;by_cases qN:b.AH.length=AA.length;rotate_left
 ·
  have HE:Hid (Af AA b=false):=Lib.hid (by rw[HB.out,DF,decide_eq_false qN];simp);have tN:((b.AH.length:Int) != (AA.length:Int))=true:=by simp;omega
  clear qN;go_wp2;go_ret;exact⟨by rw[HE.out];rfl,K1⟩
 have tN:((b.AH.length:Int) != (AA.length:Int))=false:=by simp[qN]
 have QN:=Lib.hid qN;clear qN;by_cases qX:b.AL.length=AA.length;rotate_left
 ·
  have HE:Hid (Af AA b=false):=Lib.hid (by rw[HB.out,DF,decide_eq_false qX];simp);have tX:((b.AL.length:Int) != (AA.length:Int))=true:=by simp;omega
  clear qX;go_wp2;go_ret;exact⟨by rw[HE.out];rfl,K1⟩
 have tX:((b.AL.length:Int) != (AA.length:Int))=false:=by simp[qX]
 have QX:=Lib.hid qX;clear qX
 have HB2:Hid (Af AA b=(Ef ((Az AA AA.length).length:Int) (AX Aj (Az AA AA.length)).length b&&(EC ((Az AA AA.length).length:Int) b&&(List.range AA.length).all (fun i=>Lg AA ((Az AA AA.length).length:Int) b i)))):=Lib.hid (by
  have e1:AB AA=Az AA AA.length:=by rw[AB,if_pos hb]
  rw[HB.out,DF,hb,decide_eq_true QP.out,decide_eq_true QL.out,decide_eq_true QR.out,decide_eq_true QN.out,decide_eq_true QX.out,e1];rfl)
 obtain⟨u1,u2⟩:=As hb;have L9:=eY hb;clear HB;go_wp2_with fail
 refine (GZ _ _ AA (HH.out.W.keep K1) u1 u2).mono ?_;rintro e w2 ⟨ve,rfl,ae,k2⟩;have re:=ae.rd;generalize Az AA AA.length=es at *;obtain⟨aE,cE',rfl,-⟩:=id re;have K2:=K1.trans k2;go_wp2_with fail
 refine (Ec _ _ es re (by omega)).mono ?_;rintro e w3 ⟨vr,rfl,or3,k3⟩;have K3:=K2.trans k3
 have hrl:(AX Aj es).length<=12:=by
  unfold AX;rw[if_pos (by omega)];have:=Cw Aj es es.length;omega
 obtain⟨ar,cr,rfl,-⟩:=id or3.rd;generalize (AX Aj es).length=rn at *;have k13:=k2.trans k3;replace c0:=(k13.cell z1).trans c0;replace c1:=(k13.cell z1).trans c1;replace c2:=(k13.cell z1).trans c2;replace c3:=(k13.cell z1).trans c3;replace c4:=(k13.cell z1).trans c4;replace c5:=(k13.cell z1).trans c5;replace c6:=(k13.cell z1).trans c6;replace c7:=(k13.cell z1).trans c7;replace z1:=Nat.lt_of_lt_of_le z1 k13.size;clear k1 k2 k3 k13 K1 K2 ae re or3 tP tL tR tN tX;by_cases qS:b.sn.length=rn;rotate_left
 ·
  have HE:Hid (Af AA b=false):=Lib.hid (by rw[HB2.out,Ef,decide_eq_false qS];simp);have tS:((b.sn.length:Int) != (rn:Int))=true:=by simp;omega
  clear qS;go_wp2;go_ret;exact⟨by rw[HE.out];rfl,K3⟩
 have tS:((b.sn.length:Int) != (rn:Int))=false:=by simp[qS]
 have QS:=Lib.hid qS;clear qS;by_cases qF:b.fr.length=rn;rotate_left
 ·
  have HE:Hid (Af AA b=false):=Lib.hid (by rw[HB2.out,Ef,decide_eq_false qF];simp);have tF:((b.fr.length:Int) != (rn:Int))=true:=by simp;omega
  clear qF;go_wp2;go_ret;exact⟨by rw[HE.out];rfl,K3⟩
 have tF:((b.fr.length:Int) != (rn:Int))=false:=by simp[qF]
 have QF:=Lib.hid qF;clear qF;have i1:IntKind.i64.wrap ((es.length:Int)-1)=(es.length:Int)-1:=by rw[IntKind.wrap_i64];omega
 have CP:=FM _ _ b.AM 0 9 3 (HH.out.P.keep K3) HZ.out.AM;have CL:=FM _ _ b.AQ 0 ((es.length:Int)-1) 3 (HH.out.L.keep K3) HZ.out.AQ;have CS:=FM _ _ b.sn (-1) 9 12 (HH.out.S.keep K3) HZ.out.sn;have CF:=FM _ _ b.fr (-1) ((es.length:Int)-1) 12 (HH.out.F.keep K3) HZ.out.fr;cases qP:DW b.AM 0 9 3
 ·
  have HE:Hid (Af AA b=false):=Lib.hid (by rw[HB2.out,Ef,qP];simp);rw[qP] at CP;go_wp2_with fail
  refine CP.mono ?_;rintro e w4 ⟨rfl,rfl⟩;go_wp2;go_ret;exact⟨by rw[HE.out];rfl,K3⟩
 rw[qP] at CP;cases qL:DW b.AQ 0 ((es.length:Int)-1) 3
 ·
  have HE:Hid (Af AA b=false):=Lib.hid (by rw[HB2.out,Ef,qL];simp);rw[qL] at CL;go_wp2_with fail
  refine CP.mono ?_;rintro e w4 ⟨rfl,rfl⟩;go_wp2_with fail
  refine CL.mono ?_;rintro e w5 ⟨rfl,rfl⟩;go_wp2;go_ret;exact⟨by rw[HE.out];rfl,K3⟩
 rw[qL] at CL;cases qS:DW b.sn (-1) 9 12
 ·
  have HE:Hid (Af AA b=false):=Lib.hid (by rw[HB2.out,Ef,qS];simp);rw[qS] at CS;go_wp2_with fail
  refine CP.mono ?_;rintro e w4 ⟨rfl,rfl⟩;go_wp2_with fail
  refine CL.mono ?_;rintro e w5 ⟨rfl,rfl⟩;go_wp2_with fail
  refine CS.mono ?_;rintro e w6 ⟨rfl,rfl⟩;go_wp2;go_ret;exact⟨by rw[HE.out];rfl,K3⟩
 rw[qS] at CS;cases qF:DW b.fr (-1) ((es.length:Int)-1) 12
 ·
  have HE:Hid (Af AA b=false):=Lib.hid (by rw[HB2.out,Ef,qF];simp);rw[qF] at CF;go_wp2_with fail
  refine CP.mono ?_;rintro e w4 ⟨rfl,rfl⟩;go_wp2_with fail
  refine CL.mono ?_;rintro e w5 ⟨rfl,rfl⟩;go_wp2_with fail
  refine CS.mono ?_;rintro e w6 ⟨rfl,rfl⟩;go_wp2_with fail
  refine CF.mono ?_;rintro e w7 ⟨rfl,rfl⟩;go_wp2;go_ret;exact⟨by rw[HE.out];rfl,K3⟩
 rw[qF] at CF;have HB3:Hid (Af AA b=(EC (es.length:Int) b&&(List.range AA.length).all (fun i=>Lg AA (es.length:Int) b i))):=Lib.hid (by rw[HB2.out,Ef,decide_eq_true QS.out,decide_eq_true QF.out,qP,qL,qS,qF];rfl);clear HB2;go_wp2_with fail
 refine CP.mono ?_;rintro e w4 ⟨rfl,rfl⟩;go_wp2_with fail
 refine CL.mono ?_;rintro e w5 ⟨rfl,rfl⟩;go_wp2_with fail
 refine CS.mono ?_;rintro e w6 ⟨rfl,rfl⟩;go_wp2_with fail
 refine CF.mono ?_;rintro e w7 ⟨rfl,rfl⟩;clear CP CL CS CF qP qL qS qF tS tF;go_wp2;go_loop [6] (fun i=>∃k:Nat,k<=3/\i = .int .i64 k/\Hid (∀j,j<k->DW (b.rws.getD j []) 0 ((es.length:Int)-1) 20=true)) (fun i=>3-(intOf i).toNat)
 case atStart=>exact⟨0,Nat.zero_le _,rfl,Lib.hid (fun j hj=>absurd hj (Nat.not_lt_zero _))⟩
 case round=>
  obtain⟨k,hk,rfl,hno⟩:=hrel;by_cases hlt:k<3
  ·
   obtain⟨a',c',he',hR⟩:=HH.out.R.keep K3;simp only[Value.slice.injEq,true_and] at he';obtain⟨rfl,rfl⟩:=he';rcases hR with h0|⟨bb,o,rfl,hbb,hc⟩
   . exfalso;have:=QR.out;rw[h0] at this;simp at this
   obtain⟨vi,d1,r1⟩:=hc k (by rw[QR.out];exact hlt);have CA:=FM _ _ (b.rws.getD k []) 0 ((es.length:Int)-1) 20 r1 (HZ.out.r2 k (by rw[QR.out];exact hlt));obtain⟨ai,ci,qV,-⟩:=id r1;have j1:(0:Int)<=(k:Int):=Int.natCast_nonneg _;have j2:(k:Int)<3:=by omega
   have j3:(k:Int)<(b.rws.length:Int):=by have:=QR.out;omega
   clear hc r1;cases qA:DW (b.rws.getD k []) 0 ((es.length:Int)-1) 20
   ·
    have HE:Hid (Af AA b=false):=Lib.hid (by rw[HB3.out,EC,DI hlt qA];rfl);rw[qA] at CA;clear qA;generalize (b.rws.getD k []).length=nk at qV;subst qV;go_wp2_with fail
    refine CA.mono ?_;rintro e w4 ⟨rfl,rfl⟩;go_wp2;go_ret;exact⟨by rw[HE.out];rfl,K3⟩
   ·
    have HN:Hid (∀j,j<k+1->DW (b.rws.getD j []) 0 ((es.length:Int)-1) 20=true):=Lib.hid (fun j hj=>by
     by_cases e':j=k
     . rw[e'];exact qA
     . exact hno.out j (by omega))
    rw[qA] at CA;clear qA;generalize (b.rws.getD k []).length=nk at qV;subst qV;go_wp2_with fail
    refine CA.mono ?_;rintro e w4 ⟨rfl,rfl⟩;go_wp2;go_round
    case rel=>exact⟨k+1,by omega,by go_num,HN⟩
    case measure=>simp[intOf];omega
  ·
   obtain rfl:k=3:=by omega
   have HB4:Hid (Af AA b=(List.range AA.length).all (fun i=>Lg AA (es.length:Int) b i)):=Lib.hid (by
    have e:EC (es.length:Int) b=true:=Dc hno.out
    rw[HB3.out,e];rfl)
   clear HB3 hno hk hlt;have K0:=AC.refl w7;go_wp2;go_loopw [7] (fun i wr=>∃k:Nat,k<=AA.length/\i = .int .i64 k/\Hid (∀j,j<k->Lg AA (es.length:Int) b j=true)/\AC w7 wr) (fun i _=>AA.length-(intOf i).toNat)
   case atStart=>exact⟨0,Nat.zero_le _,rfl,Lib.hid (fun j hj=>absurd hj (Nat.not_lt_zero _)),K0⟩
   case round=>
    obtain⟨k,hk,rfl,hno,hK⟩:=hrel;clear K0;have e0:=(hK.cell z1).trans c0;have e3:=(hK.cell z1).trans c3;have e4:=(hK.cell z1).trans c4;have KR:=K3.trans hK;by_cases hlt:k<AA.length
    ·
     have lX:k<b.AL.length:=by rw[QX.out];exact hlt
     have lN:k<b.AH.length:=by rw[QN.out];exact hlt
     obtain⟨a',c',he',hX⟩:=HH.out.X.keep KR;simp only[Value.slice.injEq,true_and] at he';obtain⟨rfl,rfl⟩:=he';rcases hX with h0|⟨bx,ox,rfl,hbx,hcx⟩
     . exfalso;rw[h0] at lX;simp at lX
     obtain⟨a',c',he',hW⟩:=HH.out.W.keep KR;simp only[Value.slice.injEq,true_and] at he';obtain⟨rfl,rfl⟩:=he';rcases hW with h0|⟨bw,ow,rfl,hbw,hcw⟩
     . exfalso;rw[h0] at hlt;simp at hlt
     obtain⟨a',c',he',hN⟩:=HH.out.N.keep K3;simp only[Value.slice.injEq,true_and] at he';obtain⟨rfl,rfl⟩:=he';rcases hN with h0|⟨bn,on,rfl,hbn,hcn⟩
     . exfalso;rw[h0] at lN;simp at lN
     have d1:=hcx k lX;obtain⟨vw,d2,r2⟩:=hcw k hlt;obtain⟨vn,D3,r3⟩:=hcn k lN;have d3:=(hK.cell hbn (o:=on+k)).trans D3;have HF:Lg AA (es.length:Int) b k=false->Hid (Af AA b=false):=fun e=>Lib.hid (by rw[HB4.out,DI hlt e])
     have HT:Lg AA (es.length:Int) b k=true->Hid (∀j,j<k+1->Lg AA (es.length:Int) b j=true):=fun e=>Lib.hid (fun j hj=>by
      by_cases e':j=k
      . rw[e'];exact e
      . exact hno.out j (by omega))
     have HC:Hid (Lg AA (es.length:Int) b k=(CX (b.AL.getD k 0) 0 ((AA.getD k []).length:Int)&&(decide ((b.AH.getD k []).length<=8)&&Kd (es.length:Int) (b.AH.getD k [])))):=Lib.hid (by
      have:CX (b.AL.getD k 0) 0 ((AA.getD k []).length:Int)=(decide (0<=b.AL.getD k 0)&&decide (b.AL.getD k 0<=((AA.getD k []).length:Int))):=by unfold CX;rw[Bool.eq_iff_iff];simp
      rw[Lg,this])
     have nlen:=HZ.out.n2 k lN;have hwl:=HZ.out.w2 k hlt;obtain⟨aw,cw,rfl,-⟩:=r2;have RN:=Lib.hid r3;obtain⟨an,cn,rfl,r3⟩:=r3;generalize b.AL.getD k 0=x at d1 HC;generalize (AA.getD k []).length=wl at d2 HC hwl;generalize b.AH.getD k []=ns at *;have j1:(0:Int)<=(k:Int):=Int.natCast_nonneg _;have j2:(k:Int)<(AA.length:Int):=by omega
     have j3:(k:Int)<(b.AL.length:Int):=by omega
     have j4:(k:Int)<(b.AH.length:Int):=by omega
     clear hcx hcw hcn hno;cases qI:CX x 0 (wl:Int)
     ·
      have HE:=HF (by rw[HC.out,qI];rfl);clear HF HT HC;have CI:=fun W:World=>Dj x 0 (wl:Int) W
      rw[qI] at CI;go_wp2;go_quiet ((go_at_call 58;exact Calls.quiet_of_same (CI _)))
      go_wp2;go_ret;exact⟨by rw[HE.out];rfl,KR.drewN _⟩
     have CI:=fun W:World=>Dj x 0 (wl:Int) W
     rw[qI] at CI;by_cases q8:ns.length<=8;rotate_left
     ·
      have HE:=HF (by rw[HC.out,decide_eq_false q8];simp);have t8:(8:Int)<(ns.length:Int):=by omega
      clear HF HT HC q8;go_wp2;go_quiet ((go_at_call 58;exact Calls.quiet_of_same (CI _)))
      go_wp2;go_ret;exact⟨by rw[HE.out];rfl,KR.drewN _⟩
     have t8:decide ((8:Int)<(ns.length:Int))=false:=by simp;omega
     have HC2:Hid (Lg AA (es.length:Int) b k=Kd (es.length:Int) ns):=Lib.hid (by rw[HC.out,qI,decide_eq_true q8];rfl);clear HC;go_wp2;go_quiet ((go_at_call 58;exact Calls.quiet_of_same (CI _)))
     have KD:AC w7 (wr.drewN nq):=hK.drewN _;clear CI qI d1 d2 d3 e0 e3 e4 hK KR q8 t8;go_wp2;go_loopw [8] (fun i wz=>∃m:Nat,m<=ns.length/\i = .int .i64 m/\Hid (∀j,j<m->SO (es.length:Int) (ns.getD j (0,0,0))=true)/\AC w7 wz) (fun i _=>ns.length-(intOf i).toNat)
     case atStart=>exact⟨0,Nat.zero_le _,rfl,Lib.hid (fun j hj=>absurd hj (Nat.not_lt_zero _)),KD⟩
     case round=>
      clear KD;obtain⟨m,hm,rfl,hnt,hK2⟩:=hrel;have f3:=(hK2.cell z1).trans c3;have n3:=(hK2.cell hbn (o:=on+k)).trans D3;by_cases hml:m<ns.length
      ·
       obtain⟨a',c',he',hA⟩:=RN.out.keep hK2;simp only[Value.slice.injEq,Nat.add_left_cancel_iff,true_and] at he';obtain⟨rfl,rfl⟩:=he';rcases hA with h0|⟨bq,oq,rfl,hbq,hcq⟩
       . exfalso;rw[h0] at hml;simp at hml
       obtain⟨g0,g1,g2⟩:=VT (hcq m _ (Gh hml));have NF:SO (es.length:Int) (ns.getD m (0,0,0))=false->Hid (Af AA b=false):=fun e=>HF (by rw[HC2.out];exact SP hml e)
       have NT:SO (es.length:Int) (ns.getD m (0,0,0))=true->Hid (∀j,j<m+1->SO (es.length:Int) (ns.getD j (0,0,0))=true):=fun e=>Lib.hid (fun j hj=>by
        by_cases e':j=m
        . rw[e'];exact e
        . exact hnt.out j (by omega))
       have YB:Hid (∀y:Nt,SO (es.length:Int) y=(CX y.1 0 2&&(CX y.2.1 0 9&&CX y.2.2 0 ((es.length:Int)-1)))):=Lib.hid (fun y=>by
        unfold SO CX;rw[Bool.eq_iff_iff]
        simp[and_assoc])
       rw[YB.out] at NF NT;generalize ns.getD m (0,0,0)=y at g0 g1 g2 NF NT;obtain⟨y0,y1,y2⟩:=y;simp only at g0 g1 g2 NF NT;have I0:=fun W:World=>Dj y0 0 2 W
       have I1:=fun W:World=>Dj y1 0 9 W
       have I2:=fun W:World=>Dj y2 0 ((es.length:Int)-1) W
       have m1:(0:Int)<=(m:Int):=Int.natCast_nonneg _;have m2:(m:Int)<(ns.length:Int):=by omega
       have KZ:=(K3.trans hK2).alloc (.cells #[.int .i64 y0,.int .i64 y1,.int .i64 y2] 44);clear hcq YB hnt;cases t0:CX y0 0 2
       ·
        have HE:=NF (by rw[t0];rfl);rw[t0] at I0;clear NF NT I1 I2 t0;go_wp2_with fail
        refine (I0 _).mono ?_;rintro e w8 ⟨rfl,rfl⟩;go_wp2;go_ret;exact⟨by rw[HE.out];rfl,KZ⟩
       rw[t0] at I0;cases t1:CX y1 0 9
       ·
        have HE:=NF (by rw[t1];simp);rw[t1] at I1;clear NF NT I2 t0 t1;go_wp2_with fail
        refine (I0 _).mono ?_;rintro e w8 ⟨rfl,rfl⟩;go_wp2_with fail
        refine (I1 _).mono ?_;rintro e w8 ⟨rfl,rfl⟩;go_wp2;go_ret;exact⟨by rw[HE.out];rfl,KZ⟩
       rw[t1] at I1;cases t2:CX y2 0 ((es.length:Int)-1)
       ·
        have HE:=NF (by rw[t2];simp);rw[t2] at I2;clear NF NT t0 t1 t2;go_wp2_with fail
        refine (I0 _).mono ?_;rintro e w8 ⟨rfl,rfl⟩;go_wp2_with fail
        refine (I1 _).mono ?_;rintro e w8 ⟨rfl,rfl⟩;go_wp2_with fail
        refine (I2 _).mono ?_;rintro e w8 ⟨rfl,rfl⟩;go_wp2;go_ret;exact⟨by rw[HE.out];rfl,KZ⟩
       ·
        have HE:=NT (by rw[t0,t1,t2];rfl);rw[t2] at I2;clear NF NT t0 t1 t2;go_wp2_with fail
        refine (I0 _).mono ?_;rintro e w8 ⟨rfl,rfl⟩;go_wp2_with fail
        refine (I1 _).mono ?_;rintro e w8 ⟨rfl,rfl⟩;go_wp2_with fail
        refine (I2 _).mono ?_;rintro e w8 ⟨rfl,rfl⟩;go_wp2;go_roundw;case rel=>exact⟨m+1,by omega,by go_num,HE,hK2.alloc _⟩
        case measure=>simp[intOf];omega
      ·
       obtain rfl:m=ns.length:=by omega
       have HE:=HT (by rw[HC2.out];exact UV hnt.out);go_wp2;go_roundw;case rel=>exact⟨k+1,by omega,by go_num,HE,hK2⟩
       case measure=>simp[intOf];omega
    ·
     obtain rfl:k=AA.length:=by omega
     have HE:Hid (Af AA b=true):=Lib.hid (by rw[HB4.out];exact Dc hno.out);go_wp2;go_ret;exact⟨by rw[HE.out];rfl,KR⟩
theorem QM (w:World)(v:Value)(zs:List Int)(h:Rd w v zs)(hn:zs.length<=1048576)(n:Int):
  Calls Tryz.prog 65 #[v,.int .i64 n] w fun e w'=>e = .returned (.bool (Dx zs n))/\w'=w:=by
 obtain⟨a,c,rfl,h⟩:=h;go_enter Tryz.func65,Tryz.ntmps65
 go_wp2;go_loop [5] (fun i=>∃k:Nat,k<=zs.length/\i = .int .i64 k/\Hid (∀i,i<k->zs.getD i 0≠n)) (fun i=>zs.length-(intOf i).toNat)
 case atStart=>exact⟨0,Nat.zero_le _,rfl,Lib.hid (fun i hi=>absurd hi (Nat.not_lt_zero _))⟩
 case round=>
  obtain⟨k,hk,rfl,hno⟩:=hrel;by_cases hlt:k<zs.length
  ·
   rcases h with h|⟨b,o,rfl,hb,hc⟩
   . exfalso;rw[h] at hlt;simp at hlt
   have d1:=hc k hlt;obtain⟨p,hp⟩:∃p,p=zs.getD k 0:=⟨_,rfl⟩;have HP:=Lib.hid hp;rw[<-hp] at d1;clear hc hp;by_cases he:p=n
   ·
    have hb:(p==n)=true:=by simp[he]
    have HE:Hid (Dx zs n=true):=Lib.hid (fQ hlt (by rw[<-HP.out];exact he));clear he;go_wp2;go_ret;exact⟨by rw[HE.out];rfl,rfl⟩
   ·
    have hb:(p==n)=false:=by simp[he]
    have HE:Hid (∀i,i<k+1->zs.getD i 0≠n):=Lib.hid (fun i hi=>by
     by_cases e:i=k
     . subst e;rw[<-HP.out];exact he
     . exact hno.out i (by omega))
    clear he;go_wp2;go_round
    case rel=>exact⟨k+1,by omega,by go_num,HE⟩
    case measure=>simp[intOf];omega
  ·
   obtain rfl:k=zs.length:=by omega
   have HE:Hid (Dx zs n=false):=Lib.hid (WT hno.out);go_wp2;go_ret;exact⟨by rw[HE.out];rfl,rfl⟩
def EA (AA:List (List Dd))(b:Bd)(s:Int):Bd:=if Dx (Ae AA b) s=true then Aq AA (AB AA) b s else b
theorem Wv {AA:List (List Dd)}{b:Bd}(hb:Af AA b=true):(Ae AA b).length<=1048576:=by
 have PS:=Nr hb;rw[<-Ew,List.length_append];have:=FE AA b AA.length;have:=IG b AA.length;have:=PS.m;have:=(As (En hb).1).1;omega
theorem Jf (w:World)(bv:BV)(AA:List (List Dd))(b:Bd)(s:Int)(h:CJ w bv AA b)(hz:Cg AA b)(hb:Af AA b=true):
  Calls Tryz.prog 25 #[bv.agg,.int .i64 s] w fun e w'=>∃bv' nv rv bs N,e = .returned (.tuple #[BV.agg bv',.bool (Dx (Ae AA b) s)])/\BA w' w.heap.size bv' nv rv bs N AA (EA AA b s)/\w.heap.size<=bs/\AC w w':=by
 have C:=fun (W:World) (kW:AC w W)=>DP W bv AA b (h.keep kW) hz
 rw[hb] at C;have CC:=fun (W:World) (kW:AC w W)=>QI W bv AA b (h.keep kW) hb
 have CP:=fun (W:World) (kW:AC w W)=>Cp W bv AA b (h.keep kW) (Nr hb)
 have hpl:=Wv hb;obtain⟨aW,aP,aL,aN,aX,aT,aF,aR,cW,cP,cL,cQ,cX,cT,cF,cR,rfl⟩:=h.shapes;go_enter Tryz.func25,Tryz.ntmps25
 go_upto_region 1 with fail
 obtain⟨w1,hw1⟩:∃W:World,W=(w.alloc (.cells #[.slice aW AA.length cW,.slice aP b.AM.length cP,.slice aL b.AQ.length cL,.slice aN b.AH.length cQ,.slice aX b.AL.length cX,.slice aT b.sn.length cT,.slice aF b.fr.length cF,.slice aR b.rws.length cR] 30)).alloc (.cells #[AE,AE,AE,AE,AE,AE,AE,AE] 30):=⟨_,rfl⟩;have K1:AC w w1:=by rw[hw1];exact ((AC.refl w).alloc _).alloc _
 have s1:w1.heap.size=w.heap.size+1+1:=by rw[hw1,AD,AD]
 have hB1:w1.heap[w.heap.size]? = some (.cells #[.slice aW AA.length cW,.slice aP b.AM.length cP,.slice aL b.AQ.length cL,.slice aN b.AH.length cQ,.slice aX b.AL.length cX,.slice aT b.sn.length cT,.slice aF b.fr.length cF,.slice aR b.rws.length cR] 30 (0,0)):=by rw[hw1];exact Ce ((AC.refl _).alloc _)
 have hR1:w1.heap[w.heap.size+1]? = some (.cells #[AE,AE,AE,AE,AE,AE,AE,AE] 30 (0,0)):=by rw[hw1,<-AD w (.cells #[.slice aW AA.length cW,.slice aP b.AM.length cP,.slice aL b.AQ.length cL,.slice aN b.AH.length cQ,.slice aX b.AL.length cX,.slice aT b.sn.length cT,.slice aF b.fr.length cF,.slice aR b.rws.length cR] 30)];exact heap_alloc_new _ _
 rw[<-hw1];clear hw1;have s2:w.heap.size+1<w1.heap.size:=by omega
 clear s1;go_wp2_with (first|refine wpList_load_row rfl 30 _ rfl w.heap.size rfl 30 _ (0,0) _ hB1 Tryz.underlying30 rfl AF ?_|fail)
 refine (C _ K1).mono ?_;rintro e w3 ⟨rfl,k3⟩;have hB3:=(Below.block k3 w.heap.size (by omega)).trans hB1;have hR3:=(Below.block k3 (w.heap.size+1) s2).trans hR1;have K3:=K1.trans k3;have s3:=k3.size;clear C hB1 hR1 k3;go_wp2_with (first|refine wpList_load_row rfl 30 _ rfl w.heap.size rfl 30 _ (0,0) _ hB3 Tryz.underlying30 rfl AF ?_|fail)
 refine (CC _ K3).mono ?_;rintro e w4 ⟨bv2,nv,rv,bs,N,rfl,hV,hbs,k4⟩;have s4:=k4.size;obtain⟨LJ,LG,LD,LF,LM,LI,LC,LH,cW2,cP2,cL2,cQ2,cX2,cT2,cF2,cR2,rfl⟩:=(hV.box s4).rd.shapes;have H5:=hV.box s4;have hbs2:w.heap.size<=bs:=by omega
 have hB4:=(Below.block k4 w.heap.size (by omega)).trans hB3;have hR4:=(Below.block k4 (w.heap.size+1) (by omega)).trans hR3;clear hB3 hR3 CC;go_upto_region 4 with fail
 obtain⟨w5,hw5⟩:∃W:World,W=w4.alloc (.cells #[.slice LJ AA.length cW2,.slice LG b.AM.length cP2,.slice LD b.AQ.length cL2,.slice LF b.AH.length cQ2,.slice LM b.AL.length cX2,.slice LI b.sn.length cT2,.slice LC b.fr.length cF2,.slice LH b.rws.length cR2] 30):=⟨_,rfl⟩;have k5:AC w4 w5:=by rw[hw5];exact (AC.refl w4).alloc _
 replace H5:AR w5 w3.heap.size w4.heap.size ⟨.slice LJ AA.length cW2,.slice LG b.AM.length cP2,.slice LD b.AQ.length cL2,.slice LF b.AH.length cQ2,.slice LM b.AL.length cX2,.slice LI b.sn.length cT2,.slice LC b.fr.length cF2,.slice LH b.rws.length cR2⟩ nv rv bs N AA b:=by rw[hw5];exact H5
 rw[<-hw5];clear hw5 hV;have K5:=(K3.trans k4).trans k5;have hB5:=(Below.block k5 w.heap.size (by omega)).trans hB4;have hR5:=(Below.block k5 (w.heap.size+1) (by omega)).trans hR4;have m0:w.heap.size+1<w3.heap.size:=by omega
 have D0:w3.heap.size<=w4.heap.size:=s4;have s5:=k5.size;generalize w3.heap.size=m at *;generalize hD:w4.heap.size=D at *;clear hD hB4 hR4 k4 k5 K3 K1;go_wp2_with (first|refine wpList_load_row rfl 30 _ rfl w.heap.size rfl 30 _ (0,0) _ hB5 Tryz.underlying30 rfl AF ?_|fail)
 refine (CP _ K5).mono ?_;rintro e w6 ⟨vp,rfl,op,k6⟩;have H6:=H5.keep k6;have hR6:=(Below.block k6 (w.heap.size+1) (by omega)).trans hR5;have K6:=K5.trans k6;clear CP hB5 hR5 H5;obtain⟨ap,cp,rfl,-⟩:=id op.rd;go_wp2_with fail
 refine (QM _ _ _ op.rd hpl s).mono ?_;rintro e w7 ⟨rfl,rfl⟩;clear op;cases hp:Dx (Ae AA b) s
 ·
  have HS:Hid (EA AA b s=b):=Lib.hid (by unfold EA;rw[hp];simp);have HP:=Lib.hid hp;clear hp;have Bh:=H6.B6;have QB:=hR6;simp only[BV.arr] at Bh;have HG:=Lib.hid (AV w7 (w.heap.size+1) #[.slice LJ AA.length cW2,.slice LG b.AM.length cP2,.slice LD b.AQ.length cL2,.slice LF b.AH.length cQ2,.slice LM b.AL.length cX2,.slice LI b.sn.length cT2,.slice LC b.fr.length cF2,.slice LH b.rws.length cR2]);have HZ:=Lib.hid (setRow_heap w7 (w.heap.size+1) _ #[.slice LJ AA.length cW2,.slice LG b.AM.length cP2,.slice LD b.AQ.length cL2,.slice LF b.AH.length cQ2,.slice LM b.AL.length cX2,.slice LI b.sn.length cT2,.slice LC b.fr.length cF2,.slice LH b.rws.length cR2] _ _ QB);have Ru:∀q,some (w.heap.size+1)=some q->q<m/\(q<bs\/N<=q):=fun q hq=>by have:=Option.some.inj hq;omega
  have HO:=Lib.hid (((H6.far HG.out Ru).val).BE (show w.heap.size<=m by omega));have HKK:=Lib.hid ((K6:AC w w7).grown HG.out (fun q hq=>by have:=Option.some.inj hq;omega));go_wp2_with (first|refine wpList_load_row rfl 30 _ rfl D rfl 30 _ (0,0) _ Bh Tryz.underlying30 rfl AF ?_|refine wpList_store_row rfl 30 _ _ rfl (w.heap.size+1) _ rfl rfl 30 _ QB AF rfl (by simp[Value.oneCell']) ?_|fail)
  refine bodyPost_ret (AZ (by rfl) _ _ (w.heap.size+1) _ _ (0,0) _ (.bool false) rfl HZ.out rfl Tryz.underlying30 rfl AF) rfl ?_;exact⟨⟨.slice LJ AA.length cW2,.slice LG b.AM.length cP2,.slice LD b.AQ.length cL2,.slice LF b.AH.length cQ2,.slice LM b.AL.length cX2,.slice LI b.sn.length cT2,.slice LC b.fr.length cF2,.slice LH b.rws.length cR2⟩,_,_,bs,N,by rw[HP.out],by rw[HS.out];exact HO.out,hbs2,HKK.out⟩
 ·
  have HS:Hid (EA AA b s=Aq AA (AB AA) b s):=Lib.hid (by unfold EA;rw[if_pos hp]);have HP:=Lib.hid hp;go_wp2_with fail
  refine (Ff _ m D _ nv rv bs N AA b s H6 hb hp).mono ?_;rintro e w8 ⟨rfl,nv8,rv8,H8,T8⟩;have TL:=T8.low (m:=m) (by have:=H6.base;omega) (fun g hg=>(H6.blk g hg).1);have K8:AC w w8:=Below.trans K6 (Below.mono TL (by omega));have hR8:=(Below.block TL (w.heap.size+1) (by omega)).trans hR6;clear H6 T8 TL K6 hR6 hp;obtain⟨nb,hnb⟩:∃nb,nb=Aq AA (AB AA) b s:=⟨_,rfl⟩;rw[<-hnb] at H8;replace HS:Hid (EA AA b s=nb):=Lib.hid (by rw[HS.out,hnb]);clear hnb;have Bh:=H8.B6;have QB:=hR8;simp only[BV.arr] at Bh;have HG:=Lib.hid (AV w8 (w.heap.size+1) #[.slice LJ AA.length cW2,.slice LG b.AM.length cP2,.slice LD b.AQ.length cL2,.slice LF b.AH.length cQ2,.slice LM b.AL.length cX2,.slice LI b.sn.length cT2,.slice LC b.fr.length cF2,.slice LH b.rws.length cR2]);have HZ:=Lib.hid (setRow_heap w8 (w.heap.size+1) _ #[.slice LJ AA.length cW2,.slice LG b.AM.length cP2,.slice LD b.AQ.length cL2,.slice LF b.AH.length cQ2,.slice LM b.AL.length cX2,.slice LI b.sn.length cT2,.slice LC b.fr.length cF2,.slice LH b.rws.length cR2] _ _ QB);have Ru:∀q,some (w.heap.size+1)=some q->q<m/\(q<bs\/N<=q):=fun q hq=>by have:=Option.some.inj hq;omega
  have HO:=Lib.hid (((H8.far HG.out Ru).val).BE (show w.heap.size<=m by omega));have HKK:=Lib.hid ((K8:AC w w8).grown HG.out (fun q hq=>by have:=Option.some.inj hq;omega));go_wp2_with (first|refine wpList_load_row rfl 30 _ rfl D rfl 30 _ (0,0) _ Bh Tryz.underlying30 rfl AF ?_|refine wpList_store_row rfl 30 _ _ rfl (w.heap.size+1) _ rfl rfl 30 _ QB AF rfl (by simp[Value.oneCell']) ?_|fail)
  refine bodyPost_ret (AZ (by rfl) _ _ (w.heap.size+1) _ _ (0,0) _ (.bool true) rfl HZ.out rfl Tryz.underlying30 rfl AF) rfl ?_;exact⟨⟨.slice LJ AA.length cW2,.slice LG b.AM.length cP2,.slice LD b.AQ.length cL2,.slice LF b.AH.length cQ2,.slice LM b.AL.length cX2,.slice LI b.sn.length cT2,.slice LC b.fr.length cF2,.slice LH b.rws.length cR2⟩,_,_,bs,N,by rw[HP.out],by rw[HS.out];exact HO.out,hbs2,HKK.out⟩
def FT (AA:List (List Dd))(b:Bd):List (List Dd):=if Af AA b=true then AA else []
def Em (AA:List (List Dd))(b:Bd)(s:Int):Bd:=if Af AA b=true then EA AA b s else PR
def Gy (AA:List (List Dd))(b:Bd)(s:Int):Bool:=Af AA b&&Dx (Ae AA b) s
theorem Jg (w:World)(bv:BV)(AA:List (List Dd))(b:Bd)(s:Int)(h:CJ w bv AA b)(hz:Cg AA b)(hb:Af AA b=false):
  Calls Tryz.prog 25 #[bv.agg,.int .i64 s] w fun e w'=>e = .returned (.tuple #[BV.agg Ts,.bool false])/\AC w w':=by
 have C:=fun (W:World) (kW:AC w W)=>DP W bv AA b (h.keep kW) hz
 rw[hb] at C;obtain⟨aW,aP,aL,aN,aX,aT,aF,aR,cW,cP,cL,cQ,cX,cT,cF,cR,rfl⟩:=h.shapes;go_enter Tryz.func25,Tryz.ntmps25
 go_upto_region 1 with fail
 obtain⟨w1,hw1⟩:∃W:World,W=(w.alloc (.cells #[.slice aW AA.length cW,.slice aP b.AM.length cP,.slice aL b.AQ.length cL,.slice aN b.AH.length cQ,.slice aX b.AL.length cX,.slice aT b.sn.length cT,.slice aF b.fr.length cF,.slice aR b.rws.length cR] 30)).alloc (.cells #[AE,AE,AE,AE,AE,AE,AE,AE] 30):=⟨_,rfl⟩;have K1:AC w w1:=by rw[hw1];exact ((AC.refl w).alloc _).alloc _
 have s1:w1.heap.size=w.heap.size+1+1:=by rw[hw1,AD,AD]
 have hB1:w1.heap[w.heap.size]? = some (.cells #[.slice aW AA.length cW,.slice aP b.AM.length cP,.slice aL b.AQ.length cL,.slice aN b.AH.length cQ,.slice aX b.AL.length cX,.slice aT b.sn.length cT,.slice aF b.fr.length cF,.slice aR b.rws.length cR] 30 (0,0)):=by rw[hw1];exact Ce ((AC.refl _).alloc _)
 have hR1:w1.heap[w.heap.size+1]? = some (.cells #[AE,AE,AE,AE,AE,AE,AE,AE] 30 (0,0)):=by rw[hw1,<-AD w (.cells #[.slice aW AA.length cW,.slice aP b.AM.length cP,.slice aL b.AQ.length cL,.slice aN b.AH.length cQ,.slice aX b.AL.length cX,.slice aT b.sn.length cT,.slice aF b.fr.length cF,.slice aR b.rws.length cR] 30)];exact heap_alloc_new _ _
 rw[<-hw1];clear hw1;have s2:w.heap.size+1<w1.heap.size:=by omega
 clear s1;go_wp2_with (first|refine wpList_load_row rfl 30 _ rfl w.heap.size rfl 30 _ (0,0) _ hB1 Tryz.underlying30 rfl AF ?_|fail)
 refine (C _ K1).mono ?_;rintro e w3 ⟨rfl,k3⟩;have hB3:=(Below.block k3 w.heap.size (by omega)).trans hB1;have hR3:=(Below.block k3 (w.heap.size+1) s2).trans hR1;have K3:=K1.trans k3;have s3:=k3.size;have HG:=Lib.hid (AV w3 (w.heap.size+1) #[AE,AE,AE,AE,AE,AE,AE,AE]);have HZ:=Lib.hid (setRow_heap w3 (w.heap.size+1) _ #[AE,AE,AE,AE,AE,AE,AE,AE] _ _ hR3);have HK:=Lib.hid (K3.grown HG.out (fun q hq=>by have:=Option.some.inj hq;omega));clear C k3 K3 hB1 hR1 hB3;go_wp2_with (first|refine wpList_store_row rfl 30 _ _ rfl (w.heap.size+1) _ rfl rfl 30 _ hR3 AF rfl (by simp[Value.oneCell']) ?_|fail)
 refine bodyPost_ret (AZ (by rfl) _ _ (w.heap.size+1) _ _ (0,0) _ (.bool false) rfl HZ.out rfl Tryz.underlying30 rfl AF) rfl ?_;exact⟨rfl,HK.out⟩
theorem Kf (w:World)(bv:BV)(AA:List (List Dd))(b:Bd)(s:Int)(h:CJ w bv AA b)(hz:Cg AA b):
  Calls Tryz.prog 25 #[bv.agg,.int .i64 s] w fun e w'=>∃bv':BV,e = .returned (.tuple #[bv'.agg,.bool (Gy AA b s)])/\CJ w' bv' (FT AA b) (Em AA b s)/\AC w w':=by
 unfold FT Em Gy
 cases hb:Af AA b with
 |true=>
  refine (Jf w bv AA b s h hz hb).mono ?_;rintro e w' ⟨bv',nv,rv,bs,N,rfl,o,-,k⟩;exact⟨bv',rfl,by rw[if_pos rfl,if_pos rfl];exact o.rd0,k⟩
 |false=>
  refine (Jg w bv AA b s h hz hb).mono ?_;rintro e w' ⟨rfl,k⟩;exact⟨Ts,rfl,by rw[if_neg (by simp),if_neg (by simp)];exact Kw w',k⟩
def Dz (AA:List (List Dd))(b:Bd):List Int:=if Af AA b=true then Ae AA b else []
theorem GI (w:World)(v:BV)(AA:List (List Dd))(b:Bd)(h:CJ w v AA b)(hs:Cg AA b):
  Calls Tryz.prog 26 #[v.agg] w fun e w'=>∃v',e = .returned v'/\A8 w' w.heap.size v' (Dz AA b)/\AC w w':=by
 have C:=fun (W:World) (kW:AC w W)=>DP W v AA b (h.keep kW) hs
 have CP:=fun (W:World) (kW:AC w W) (hb:Af AA b=true)=>Cp W v AA b (h.keep kW) (Nr hb)
 obtain⟨aW,aP,aL,aN,aX,aS,aF,aR,cW,cP,cL,cN,cX,cS,cF,cR,rfl⟩:=h.shapes;have BC:Hid (∀(W:World),AC (w.alloc (.cells #[.slice aW AA.length cW,.slice aP b.AM.length cP,.slice aL b.AQ.length cL,.slice aN b.AH.length cN,.slice aX b.AL.length cX,.slice aS b.sn.length cS,.slice aF b.fr.length cF,.slice aR b.rws.length cR] 30)) W->W.cell? ⟨w.heap.size,0,none⟩=some (.slice aW AA.length cW)/\W.cell? ⟨w.heap.size,1,none⟩=some (.slice aP b.AM.length cP)/\W.cell? ⟨w.heap.size,2,none⟩=some (.slice aL b.AQ.length cL)/\W.cell? ⟨w.heap.size,3,none⟩=some (.slice aN b.AH.length cN)/\W.cell? ⟨w.heap.size,4,none⟩=some (.slice aX b.AL.length cX)/\W.cell? ⟨w.heap.size,5,none⟩=some (.slice aS b.sn.length cS)/\W.cell? ⟨w.heap.size,6,none⟩=some (.slice aF b.fr.length cF)/\W.cell? ⟨w.heap.size,7,none⟩=some (.slice aR b.rws.length cR)):=Lib.hid (fun W k=>⟨AS k 0,AS k 1,AS k 2,AS k 3,AS k 4,AS k 5,AS k 6,AS k 7⟩);cases hb:Af AA b
 ·
  have HE:Hid (Dz AA b=[]):=Lib.hid (by rw[Dz,hb];rfl);rw[hb] at C;clear CP;go_enter Tryz.func26,Tryz.ntmps26
  go_wp2_with fail
  refine (C _ ((AC.refl w).alloc _)).mono ?_;rintro e w1 ⟨rfl,k1⟩;have K1:=((AC.refl w).alloc _).trans k1;have s1:=K1.size;have o0:A8 (w1.alloc (.cells #[] 2)) w1.heap.size (.slice (some ⟨w1.heap.size,0,none⟩) 0 0) []:=World.ownsRow_lit w1 #[] 0 (Nat.le_refl _) (by decide) rfl;go_wp2;go_ret;exact⟨_,rfl,by rw[HE.out];exact o0.BE s1,K1.alloc _⟩
 ·
  have HE:Hid (Dz AA b=Ae AA b):=Lib.hid (by rw[Dz,if_pos hb]);have CP:=fun (W:World) (kW:AC w W)=>CP W kW hb
  rw[hb] at C;go_enter Tryz.func26,Tryz.ntmps26
  go_wp2_with fail
  refine (C _ ((AC.refl w).alloc _)).mono ?_;rintro e w1 ⟨rfl,k1⟩;have K1:=((AC.refl w).alloc _).trans k1;have s1:=K1.size;obtain⟨b0,b1,b2,b3,b4,b5,b6,b7⟩:=BC.out _ k1;clear BC C hb;go_wp2_with fail
  refine (CP _ K1).mono ?_;rintro e w2 ⟨v2,rfl,o2,k2⟩;go_wp2;go_ret;exact⟨_,rfl,by rw[HE.out];exact o2.BE s1,K1.trans k2⟩
theorem Jz (AA:List (List Dd))(b:Bd):(Dz AA b).length<=1048576:=by
 unfold Dz
 cases h:Af AA b with
 |false=>simp
 |true=>
  have h3:AA.length<=3:=(FV (En h).1).1;have e1:=FE AA b AA.length;have e2:=IG b AA.length;have:(Ae AA b).length=(GL AA b AA.length).length+(Mo b AA.length).length:=by rw[<-Ew,List.length_append]
  simp;omega
end Go.Proofs.YtgakfkjjkobpiaaGreat
