/- Gathered texts. -/
import Derived.Test.YtflehmepjhikcaaGreatDoorMK
import Derived.Outline
import Derived.RegionTactic
import Derived.Deep.QuietTactic
import Derived.BigQuiet
import Derived.Test.YtflehmepjhikcaaGreatDoorNB
import Derived.Deep.Cut
import Derived.Lib.Hide
import Derived.BigRegion
import Derived.Deep.RegionLaw
import Derived.Deep.AppendLies
import Derived.Maps.AppendAt
set_option maxRecDepth 100000
set_option maxHeartbeats 8000000
namespace Go.Proofs.YtflehmepjhikcaaGreatDoor
open Go.ChangeShapes Go.WideShapes Go.ChangeAt Go.RowKit
abbrev KBe:=@World.news_of_block
abbrev KC9:=@Nat.succ_le_of_lt
theorem PD (w:World)(v vR vV vo:Value)(AA:List (List Dd))(rs vs one:List Int)(h:Fw w v AA)(hr:Rd w vR rs)(hv:Rd w vV vs)(ho:Rd w vo one)(hx:AA.length<=1048576)(hm:∀i,i<AA.length->(AA.getD i []).length<=1048576)(lr:rs.length<=1048576)(lo:one.length<=1048576):
  Calls Tryz.prog 11 #[v,.agg #[vR,vV],vo] w fun e w'=>e = .returned (.bool (Cz AA rs vs one))/\AC w w':=by
 have CA:=fun (W:World) (kW:AC w W)=>GS W v vR vV AA rs vs (h.keep kW) (hr.keep kW) (hv.keep kW) hx hm lr
 have HH:=AI h;have H1:=AI hr;have H2:=AI hv;have H3:=AI ho;obtain⟨aR,cR,rfl,-⟩:=hr;obtain⟨aV,cV,rfl,-⟩:=hv;obtain⟨ao,co,rfl,-⟩:=ho;obtain⟨av,cv,rfl,-⟩:=h;clear hx hm;obtain⟨A,hA⟩:∃A,A=Db AA rs vs:=⟨_,rfl⟩;rw[<-hA] at CA;have XA:=AI hA;clear hA;go_enter Tryz.func11,Tryz.ntmps11
 go_wp2_with fail
 refine (CA _ ((AC.refl w).alloc _)).mono ?_;rintro e w1 ⟨rfl,k1⟩;have c0:=AO k1 0;have c1:=AO k1 1;simp at c0 c1;have K1:=((AC.refl w).alloc _).trans k1;have s1:w.heap.size<w1.heap.size:=by have:=k1.size;rw[AD] at this;omega
 clear CA;cases A
 ·
  go_wp2;go_ret;exact⟨by rw[Cz,<-XA.out];rfl,K1⟩
 ·
  have hb:=XA.out.symm;have hwb:AL AA=true:=by unfold Db at hb;rw[KAO] at hb;exact hb.1
  have hok:Q0 (Oc AA) rs vs=true:=by unfold Db at hb;rw[KAO] at hb;exact hb.2
  obtain⟨u1,u2⟩:=BM hwb;obtain⟨l6,hlv,hks⟩:=Q4 hok;have hq9:(BB AA AA.length).length<=1048576:=by have:=Zg hwb;omega
  have hnr:=GM AA;obtain⟨m,hme⟩:∃m,m=(AW Af (BB AA AA.length)).length:=⟨_,rfl⟩;have hnm:Oc AA=(m:Int):=by rw[hme];rfl
  have HE:Hid (Cz AA rs vs one=(decide ((one.length:Int)=(m:Int)+3)&&DF rs vs one)):=AI (by rw[Cz,hb,KBi,hnm]);rw[hnm] at hnr hks;have hw3:IntKind.i64.wrap ((m:Int)+3)=(m:Int)+3:=by rw[KAk];omega
  have CE:=EN w1 _ AA (HH.out.keep K1) u1 u2;have CR:=AI (fun (W:World) (u:Value) (a:Yu W u (BB AA AA.length))=>Cn W u _ a hq9);have XK:=AI hks;have XM:=AI hme;have XV:=AI hlv;clear hb hwb hok u1 u2 hq9 hnm hks hme hlv;go_wp2_with fail
  refine CE.mono ?_;rintro e w2 ⟨v2,rfl,a2,k2⟩;have CR2:=CR.out _ _ a2.rd;obtain⟨a4,c4,rfl,-⟩:=a2.rd;clear CE a2;replace c0:=(k2.cell s1).trans c0;replace c1:=(k2.cell s1).trans c1;have s2:=KAC s1 k2.size;have K2:=K1.trans k2;clear s1 k2 K1 k1;go_wp2_with fail
  refine CR2.mono ?_;rintro e w3 ⟨v3,rfl,o3,k3⟩;obtain⟨a3,c3,rfl,-⟩:=o3.rd;rw[<-XM.out];replace c0:=(k3.cell s2).trans c0;replace c1:=(k3.cell s2).trans c1;have K3:=K2.trans k3;clear CR2 o3 k3 K2 s2;by_cases hlen:(one.length:Int)=(m:Int)+3
  ·
   have CM:=Ko w3 _ _ _ rs vs one (H1.out.keep K3) (H2.out.keep K3) (H3.out.keep K3) l6 XV.out lo (fun i hi=>⟨UR (XK.out i hi).1 hnr.1 hnr.2,QS (XK.out i hi).1 hlen hnr.1 hnr.2⟩);have HF:Hid (Cz AA rs vs one=DF rs vs one):=AI (by rw[HE.out,KAl hlen,KBi]);have hdl:((one.length:Int)==(m:Int)+3)=true:=by rw[hlen];simp
   clear hlen;go_wp2_with fail
   refine CM.mono ?_;rintro e w4 ⟨rfl,k4⟩;clear CM;go_wp2;go_ret;exact⟨by rw[HF.out];rfl,K3.trans k4⟩
  ·
   have hdl:((one.length:Int)==(m:Int)+3)=false:=by simpa using hlen
   go_wp2;go_ret;exact⟨by rw[HE.out,KAi hlen];rfl,K3⟩
theorem PM {AA:List (List Dd)}{rs vs:List Int}(h:Db AA rs vs=true):AL AA=true:=by unfold Db at h;rw[KAO] at h;exact h.1
theorem Y7 {AA:List (List Dd)}(h:AL AA=true):Db AA [] []=true:=by unfold Db;rw[h];rfl
theorem Sq (l:List (List Int)):∀k,JV [] [] l k=k
 | 0=>rfl
 |k+1=>by
  show JV [] [] l k+(if DF [] [] (l.getD k [])=true then 1 else 0)=k+1;have e:DF [] [] (l.getD k [])=true:=rfl;rw[e,Sq l k];rfl
theorem Xm {AA:List (List Dd)}{rs vs:List Int}(ha:Db AA rs vs=true){l:List (List Int)}(h:DD AA false l){i:Nat}(hi:i<l.length):Cz AA rs vs (l.getD i [])=DF rs vs (l.getD i []):=by
 unfold Cz;rw[ha,KAl (h.same (PM ha) hi)];rfl
theorem Lu.nil {AA:List (List Dd)}{l:List (List Int)}(hb:AL AA=true)(h:DD AA false l){a b:Int}(hj:Lu AA [] [] a b):a=(l.length:Nat)/\b=(l.length:Nat):=by
 obtain⟨l',e',rfl,rfl⟩:=hj.is (Y7 hb);rw[e'.one h,Sq];exact⟨rfl,rfl⟩
theorem QR (a:Int):0<=bits .and .i64 a 255/\bits .and .i64 a 255<=255:=by
 have e:bits .and .i64 a 255=IntKind.i64.wrap (((BitVec.ofInt 64 a &&& BitVec.ofInt 64 255).toNat:Nat):Int):=rfl
 have h:(BitVec.ofInt 64 a &&& BitVec.ofInt 64 255).toNat<=255:=by
  rw[BitVec.toNat_and];exact Nat.and_le_right
 rw[e,KAk];omega
def Oi (w:World)(B:Nat)(a:Option Addr)(zs:List Int):Prop:=
 zs.length<=4096/\(zs=[]\/∃b off,a=some ⟨b,off,none⟩/\b<B/\b<w.heap.size/\∀i,i<zs.length->w.cell? ⟨b,off+i,none⟩=some (.int .u8 (zs.getD i 0))/\0<=zs.getD i 0/\zs.getD i 0<=255)
def Hu (w:World)(B g:Nat):Prop:=
 B<=g/\∃(a:Option Addr) (cap:Nat) (zs:List Int) (i:Nat) (h:Int),w.heap[g]? = some (.cells #[.slice a zs.length cap,.int .i64 i,.int .i64 h] 80 (0,0))/\i<=zs.length/\Oi w B a zs
theorem Oi.kept {w w':World}{B:Nat}{a:Option Addr}{zs:List Int}{row:Option Nat}(h:Oi w B a zs)(hg:w.grownBy w' row)(hr:∀k,row=some k->B<=k):Oi w' B a zs:=by
 refine⟨h.1,?_⟩;rcases h.2 with h|⟨b,off,ha,hb,hbs,hc⟩
 . exact .inl h
 ·
  refine .inr ⟨b,off,ha,hb,KAC hbs hg.size,fun i hi=>⟨?_,(hc i hi).2⟩⟩;rw[KAw (w:=w) (hg.block b hbs (fun e=>by have:=hr b e.symm;omega))];exact (hc i hi).1
theorem Oi.up {w w':World}{a:Option Addr}{zs:List Int}(h:Oi w w.heap.size a zs)(k:AC w w'):Oi w' w'.heap.size a zs:=by
 have h':=h.kept k.grownBy (by simp);refine⟨h'.1,?_⟩;rcases h'.2 with e|⟨b,off,ha,hb,hbs,hc⟩
 . exact .inl e
 . exact .inr ⟨b,off,ha,hbs,hbs,hc⟩
theorem Hu.lt {w:World}{B g:Nat}(h:Hu w B g):g<w.heap.size:=by
 obtain⟨_,a,cap,zs,i,x,hh,_⟩:=h;exact (KAm.1 hh).1
theorem Hu.kept {w w':World}{B g:Nat}{row:Option Nat}(h:Hu w B g)(hg:w.grownBy w' row)(hne:row≠some g)(hr:∀k,row=some k->B<=k):Hu w' B g:=by
 have hlt:=h.lt;obtain⟨hB,a,cap,zs,i,x,hh,hi,hb⟩:=h;exact⟨hB,a,cap,zs,i,x,by rw[hg.block g hlt (fun e=>hne e.symm)];exact hh,hi,hb.kept hg hr⟩
theorem Hu.keep {w w':World}{B g:Nat}(h:Hu w B g)(k:AC w w'):Hu w' B g:=h.kept k.grownBy (by simp) (by simp)
def MQ (w:World)(B g:Nat)(a:Option Addr)(cap:Nat)(zs:List Int)(i h:Int):Prop:=
 B<=g/\w.heap[g]? = some (.cells #[.slice a zs.length cap,.int .i64 i,.int .i64 h] 80 (0,0))/\Oi w B a zs
theorem MQ.cur {w:World}{B g:Nat}{a:Option Addr}{cap:Nat}{zs:List Int}{i h:Int}(c:MQ w B g a cap zs i h)(h0:0<=i)(hi:i<=zs.length):Hu w B g:=by
 obtain⟨n,rfl⟩:=KAn h0;exact⟨c.1,a,cap,zs,n,h,c.2.1,by omega,c.2.2⟩
theorem Au (w:World)(g j:Nat)(v:Value):w.grownBy (w.setCell ⟨g,j,none⟩ v) (some g):=
 ⟨rfl,rfl,rfl,by simp,fun k _ hk=>KBM w ⟨g,j,none⟩ k v (fun e=>hk (by simp[e]))⟩
theorem MQ.wV {w:World}{B g:Nat}{a:Option Addr}{cap:Nat}{zs:List Int}{i h:Int}(c:MQ w B g a cap zs i h)(y:Int):MQ (w.setCell ⟨g,2,none⟩ (.int .i64 y)) B g a cap zs i y:=
 ⟨c.1,by rw[KAt w g 2 _ _ _ c.2.1];rfl,c.2.2.kept (Au w g 2 _) (by intro k hk;simp at hk;subst hk;exact c.1)⟩
theorem MQ.seti {w:World}{B g:Nat}{a:Option Addr}{cap:Nat}{zs:List Int}{i h:Int}(c:MQ w B g a cap zs i h)(y:Int):MQ (w.setCell ⟨g,1,none⟩ (.int .i64 y)) B g a cap zs y h:=
 ⟨c.1,by rw[KAt w g 1 _ _ _ c.2.1];rfl,c.2.2.kept (Au w g 1 _) (by intro k hk;simp at hk;subst hk;exact c.1)⟩
theorem Du (w:World)(n:Nat)(row:Option Nat):w.grownBy (w.drewN n) row:=⟨rfl,rfl,rfl,KAM _,fun _ _ _=>rfl⟩
theorem MQ.drewN {w:World}{B g:Nat}{a:Option Addr}{cap:Nat}{zs:List Int}{i h:Int}(c:MQ w B g a cap zs i h)(n:Nat):MQ (w.drewN n) B g a cap zs i h:=
 ⟨c.1,c.2.1,c.2.2.kept (row:=none) (Du w n none) (by simp)⟩
theorem IM (w:World)(B g:Nat)(hc:Hu w B g):
  Calls Tryz.prog 50 #[.pointer (some ⟨g,0,none⟩)] w fun e w'=>∃x,e = .returned (.int .i64 x)/\0<=x/\x<=255/\Hu w' B g/\w.grownBy w' (some g):=by
 obtain⟨hB,a,cap,zs,i,x,hh,hi,hb⟩:=hc;have C:MQ w B g a cap zs i x:=⟨hB,hh,hb⟩;have c0:w.cell? ⟨g,0,none⟩=some (.slice a zs.length cap):=by rw[KAL w g 0 _ _ (0,0) hh];rfl
 have c1:w.cell? ⟨g,1,none⟩=some (.int .i64 i):=by rw[KAL w g 1 _ _ (0,0) hh];rfl
 have c2:w.cell? ⟨g,2,none⟩=some (.int .i64 x):=by rw[KAL w g 2 _ _ (0,0) hh];rfl
 have f1:w.frozen? ⟨g,1,none⟩=false:=KA1 w g 1 _ _ hh;have f2:w.frozen? ⟨g,2,none⟩=false:=KA1 w g 2 _ _ hh;clear hh;have hzl:=hb.1;by_cases hlt:i<zs.length
 ·
  rcases hb.2 with h|⟨b,off,rfl,hbB,hbs,hcc⟩
  . exfalso;rw[h] at hlt;simp at hlt
  obtain⟨d1,d2,d3⟩:=hcc i hlt;have hbg:b≠g:=by omega
  obtain⟨q,hq⟩:∃q,q=zs.getD i 0:=⟨_,rfl⟩;rw[<-hq] at d1 d2 d3;clear hcc hq hb;go_enter Tryz.func50,Tryz.ntmps50
  go_wp2;go_quiet (fail)
  go_wp2;go_quiet (fail)
  go_wp2;go_quiet (fail)
  go_wp2;go_ret;exact⟨_,rfl,(QR _).1,(QR _).2,(((C.wV _).drewN _).seti _).cur (by omega) (by omega),Ak (Ak (Au w g 2 _) (Du _ _ _)) (Au _ g 1 _)⟩
 ·
  clear hb;go_enter Tryz.func50,Tryz.ntmps50
  go_wp2;go_quiet (fail)
  go_wp2;go_quiet (fail)
  go_wp2;go_ret;exact⟨_,rfl,(QR _).1,(QR _).2,(((C.wV _).drewN _).drewN _).cur (by omega) (by omega),Ak (Ak (Au w g 2 _) (Du _ _ _)) (Du _ _ _)⟩
theorem Vm (w:World)(a:Option Addr)(cap:Nat)(zs:List Int)(hb:Oi w w.heap.size a zs):
  Calls Tryz.prog 23 #[.slice a zs.length cap] w fun e w'=>e = .returned (.pointer (some ⟨w.heap.size,0,none⟩))/\Hu w' w.heap.size w.heap.size/\AC w w':=by
 have hzl:=hb.1;go_enter Tryz.func23,Tryz.ntmps23
 go_wp2;go_loop [3,4] (fun x i=>∃(k:Nat) (h:Int),k<=zs.length/\i = .int .i64 k/\x = .int .i64 h) (fun _ i=>zs.length-(intOf i).toNat)
 case atStart=>exact⟨0,_,KAb _,rfl,rfl⟩
 case round=>
  obtain⟨k,h,hk,rfl,rfl⟩:=hrel;by_cases hlt:k<zs.length
  ·
   rcases hb.2 with h|⟨b,off,rfl,hbB,hbs,hcc⟩
   . exfalso;rw[h] at hlt;simp at hlt
   obtain⟨d1,d2,d3⟩:=hcc k hlt;obtain⟨q,hq⟩:∃q,q=zs.getD k 0:=⟨_,rfl⟩;rw[<-hq] at d1 d2 d3;clear hcc hq;go_wp2;go_round
   case rel=>exact⟨k+1,_,by omega,by go_num,rfl⟩
   case measure=>simp[intOf];omega
  ·
   go_wp2;go_ret;refine⟨rfl,⟨KAM _,a,cap,zs,0,h,KAX w _,KAb _,?_⟩,(AC.refl w).alloc _⟩;exact hb.kept (KBa w _ none) (by simp)
theorem Ka {x n:Int}(h1:1<=n):0<=x % n/\x % n<n:=⟨Int.emod_nonneg x (by omega),Int.emod_lt_of_pos x (by omega)⟩
theorem Al (w:World)(B g:Nat)(n:Int)(hc:Hu w B g)(h1:1<=n):
  Calls Tryz.prog 28 #[.pointer (some ⟨g,0,none⟩),.int .i64 n] w fun e w'=>∃x,e = .returned (.int .i64 x)/\0<=x/\x<n/\Hu w' B g/\w.grownBy w' (some g):=by
 by_cases h2:n<=256
 ·
  go_enter Tryz.func28,Tryz.ntmps28
  go_wp2_with fail
  refine (IM _ B g hc).mono ?_;rintro e w1 ⟨x,rfl,x0,x1,c1,g1⟩;go_wp2;go_ret;exact⟨_,rfl,(Ka h1).1,(Ka h1).2,c1,g1⟩
 ·
  go_enter Tryz.func28,Tryz.ntmps28
  go_wp2_with fail
  refine (IM _ B g hc).mono ?_;rintro e w1 ⟨x,rfl,x0,x1,c1,g1⟩;go_wp2_with fail
  refine (IM _ B g c1).mono ?_;rintro e w2 ⟨y,rfl,y0,y1,c2,g2⟩;go_wp2_with fail
  refine (IM _ B g c2).mono ?_;rintro e w3 ⟨z,rfl,z0,z1,c3,g3⟩;go_wp2_with fail
  refine (IM _ B g c3).mono ?_;rintro e w4 ⟨u,rfl,u0,u1,c4,g4⟩;go_wp2;go_ret;exact⟨_,rfl,(Ka h1).1,(Ka h1).2,c4,Ak (Ak (Ak g1 g2) g3) g4⟩
theorem EU (w:World)(B g:Nat)(n:Int)(hc:Hu w B g)(h1:1<=n):
  Calls Tryz.prog 29 #[.pointer (some ⟨g,0,none⟩),.int .i64 n] w fun e w'=>∃b:Bool,e = .returned (.bool b)/\Hu w' B g/\w.grownBy w' (some g):=by
 go_enter Tryz.func29,Tryz.ntmps29
 go_wp2_with fail
 refine (Al _ B g _ hc h1).mono ?_;rintro e w1 ⟨x,rfl,x0,x1,c1,g1⟩;go_wp2;go_ret;exact⟨_,rfl,c1,g1⟩
theorem Ks {w1 w2:World}{e:TypeId}{row:Option Nat}(l:List Int)(hg:(w1.alloc (.cells (l.map (Value.int .i64)).toArray e)).grownBy w2 row)(hne:row≠some w1.heap.size)(j:Nat)(hj:j<l.length):
  ∃y,w2.cell? ⟨w1.heap.size,j,none⟩=some (.int .i64 y):=by
 refine⟨l[j],?_⟩;have h1:=KAX w1 (.cells (l.map (Value.int .i64)).toArray e);rw[KAw (w:=w1.alloc (.cells (l.map (Value.int .i64)).toArray e)) (hg.block w1.heap.size (by simp) (fun e=>hne e.symm)),KAL _ _ j _ _ _ h1];simp[hj]
theorem Uj {w:World}{a:Option Addr}{len cap:Nat}{ys:List Int}(hlen:len<=4096)
  (h:(a=none/\len=0/\cap=0/\ys=[])\/∃x,a=some x/\len<=cap/\cap<=maxLen/\ys.length=cap/\(∀i,i<ys.length->w.cell? (x.add i)=some (.int .u8 (ys.getD i 0)))/\∀n∈ys,(Lit.int .u8 n).wf=true):
  ∃zs:List Int,zs.length=len/\Oi w w.heap.size a zs:=by
 rcases h with ⟨rfl,rfl,rfl,rfl⟩|⟨x,rfl,hl,hm,hy,hc,hw⟩
 . exact⟨[],rfl,by simp,.inl rfl⟩
 ·
  have hzl:(ys.take len).length=len:=by rw[KAz];omega
  refine⟨ys.take len,hzl,by omega,?_⟩;by_cases h0:len=0
  . left;subst h0;simp
  ·
   right;obtain⟨b,off,spot⟩:=x;have hc0:=hc 0 (by omega);have hspot:spot=none:=by simpa [Addr.add] using KDC hc0
   subst hspot
   have hcc:∀i,i<(ys.take len).length->w.cell? ⟨b,off+i,none⟩=some (.int .u8 ((ys.take len).getD i 0))/\0<=(ys.take len).getD i 0/\(ys.take len).getD i 0<=255:=by
    intro i hi;have hi':i<ys.length:=by omega
    have h1:=hc i hi';have e1:(⟨b,off,none⟩:Addr).add i=⟨b,off+i,none⟩:=by unfold Addr.add;split<;>simp_all
    rw[e1] at h1
    have e2:(ys.take len).getD i 0=ys.getD i 0:=by
     rw[IT,IT,KCK,KAP (by omega)]
    rw[e2];refine⟨h1,?_⟩;have hm:ys.getD i 0∈ys:=by rw[IT,KAH hi'];exact KBI hi'
    have:=bounds_u8 (hw _ hm);omega
   refine⟨b,off,rfl,?_,?_,hcc⟩
   all_goals
    have h2:=(hcc 0 (by omega)).1;apply KBA;intro hnb;have h3:w.heap[b]? = none:=by simp;omega
    simp[World.cell?,h3] at h2
def Dr (w wr:World)(B c:Nat):Prop:=Hu wr B c/\w.grownBy wr (some c)
theorem Dr.step {w wr wr':World}{B c:Nat}(h:Dr w wr B c)(hc:Hu wr' B c)(hg:wr.grownBy wr' (some c)):Dr w wr' B c:=⟨hc,Ak h.2 hg⟩
theorem Dr.alloc {w wr:World}{B c:Nat}(h:Dr w wr B c)(o:Obj):Dr w (wr.alloc o) B c:=
 ⟨h.1.keep ((AC.refl wr).alloc o),Ak h.2 (KBa wr o (some c))⟩
theorem Dr.set {w wr:World}{B c D:Nat}(h:Dr w wr B c)(hD:w.heap.size<=D)(hc:c<w.heap.size)(hB:B<=c)(j:Nat)(x:Value):Dr w (wr.setCell ⟨D,j,none⟩ x) B c:=by
 have hg:=Au wr D j x;refine⟨h.1.kept hg (by simp;omega) (by intro k hk;simp at hk;omega),?_⟩;exact⟨hg.os.trans h.2.os,hg.tape.trans h.2.tape,hg.output.trans h.2.output,KAU h.2.size hg.size,fun i hi hne=>(hg.block i (KAC hi h.2.size) (by simp;omega)).trans (h.2.block i hi hne)⟩
theorem Dr.refl {w:World}{B c:Nat}(h:Hu w B c):Dr w w B c:=⟨h,Du w 0 _⟩
theorem Zj (w:World)(B g:Nat)(lo hi:Int)(hc:Hu w B g)(h0:-1099511627776<=lo)(h1:lo<=hi)(h2:hi<=1099511627776):
  Calls Tryz.prog 86 #[.pointer (some ⟨g,0,none⟩),.int .i64 lo,.int .i64 hi] w fun e w'=>∃x,e = .returned (.int .i64 x)/\lo<=x/\x<=hi/\Hu w' B g/\w.grownBy w' (some g):=by
 go_enter Tryz.func86,Tryz.ntmps86
 go_wp2_with fail
 refine (Al _ B g _ hc (by omega)).mono ?_;rintro e w1 ⟨x,rfl,x0,x1,c1,g1⟩;go_wp2;go_ret;exact⟨_,rfl,by omega,by omega,c1,g1⟩
abbrev EG (k p v g:Int):Obj:= .cells #[.int .i64 k,.int .i64 p,.int .i64 v,.int .i64 g] 82
def Fx (w:World)(D:Nat)(k p v g:Int):Prop:=w.heap[D]? = some (EG k p v g)
theorem Fx.lt {w:World}{D:Nat}{k p v g:Int}(h:Fx w D k p v g):D<w.heap.size:=(KAm.1 h).1
theorem Fx.kept {w w':World}{D:Nat}{k p v g:Int}{row:Option Nat}(h:Fx w D k p v g)(hg:w.grownBy w' row)(hne:row≠some D):Fx w' D k p v g:=
 (hg.block D h.lt (fun e=>hne e.symm)).trans h
theorem Fx.cells {w:World}{D:Nat}{k p v g:Int}(h:Fx w D k p v g):
  w.cell? ⟨D,0,none⟩=some (.int .i64 k)/\w.cell? ⟨D,1,none⟩=some (.int .i64 p)/\w.cell? ⟨D,2,none⟩=some (.int .i64 v)/\w.cell? ⟨D,3,none⟩=some (.int .i64 g):=
 ⟨KAL w D 0 _ _ (0,0) h,KAL w D 1 _ _ (0,0) h,KAL w D 2 _ _ (0,0) h,KAL w D 3 _ _ (0,0) h⟩
theorem Fx.free {w:World}{D:Nat}{k p v g:Int}(h:Fx w D k p v g):w.frozen? ⟨D,0,none⟩=false/\w.frozen? ⟨D,1,none⟩=false/\w.frozen? ⟨D,2,none⟩=false/\w.frozen? ⟨D,3,none⟩=false:=
 ⟨KA1 w D 0 _ _ h,KA1 w D 1 _ _ h,KA1 w D 2 _ _ h,KA1 w D 3 _ _ h⟩
theorem Fx.set0 {w:World}{D:Nat}{k p v g:Int}(h:Fx w D k p v g)(x:Int):Fx (w.setCell ⟨D,0,none⟩ (.int .i64 x)) D x p v g:=by unfold Fx;rw[KAt w D 0 _ _ _ h];rfl
theorem Fx.set1 {w:World}{D:Nat}{k p v g:Int}(h:Fx w D k p v g)(x:Int):Fx (w.setCell ⟨D,1,none⟩ (.int .i64 x)) D k x v g:=by unfold Fx;rw[KAt w D 1 _ _ _ h];rfl
theorem Fx.set2 {w:World}{D:Nat}{k p v g:Int}(h:Fx w D k p v g)(x:Int):Fx (w.setCell ⟨D,2,none⟩ (.int .i64 x)) D k p x g:=by unfold Fx;rw[KAt w D 2 _ _ _ h];rfl
theorem Fx.set3 {w:World}{D:Nat}{k p v g:Int}(h:Fx w D k p v g)(x:Int):Fx (w.setCell ⟨D,3,none⟩ (.int .i64 x)) D k p v x:=by unfold Fx;rw[KAt w D 3 _ _ _ h];rfl
theorem Fx.new (w:World)(k p v g:Int):Fx (w.alloc (EG k p v g)) w.heap.size k p v g:=KAX w _
theorem Nj (w:World)(B c:Nat)(hc:Hu w B c):
  Calls Tryz.prog 85 #[.pointer (some ⟨c,0,none⟩)] w fun e w'=>∃k p v g,e = .returned (FL k p v g)/\Dr w w' B c/\1<=k/\k<=4:=by
 have hcl:=hc.lt;have hB:=hc.1;have R0:=Fx.new w 0 0 0 0;have D0:=(Dr.refl hc).alloc (EG 0 0 0 0);go_enter Tryz.func85,Tryz.ntmps85
 go_wp2_with fail
 refine (Al _ B c _ D0.1 (by omega)).mono ?_;rintro e w1 ⟨x,rfl,x0,x1,c1,g1⟩;have R1:=R0.kept g1 (by simp;omega);have D1:=D0.step c1 g1;clear R0 D0 c1 g1;go_wp2_with fail
 refine (Al _ B c _ D1.1 (by omega)).mono ?_;rintro e w2 ⟨y,rfl,y0,y1,c2,g2⟩;have R2:=R1.kept g2 (by simp;omega);have D2:=D1.step c2 g2;have S2:=D2.2.size;clear R1 D1 c2 g2;have X2:=Fx.new w2 (1+x) y 0 0;have R2':=R2.kept (KBa w2 (EG (1+x) y 0 0) none) (by simp);have D2':=D2.alloc (EG (1+x) y 0 0);have hRX:w.heap.size<w2.heap.size:=R2.lt;clear R2 D2;go_wp2_with fail
 refine (EU _ B c _ D2'.1 (by omega)).mono ?_;rintro e w3 ⟨b,rfl,c3,g3⟩;have X3:=X2.kept g3 (by simp;omega);have R3:=R2'.kept g3 (by simp;omega);have D3:=D2'.step c3 g3;clear X2 R2' D2' c3 g3;obtain⟨s0,s1,s2,s3⟩:=X3.cells;obtain⟨f0,f1,f2,f3⟩:=X3.free;have hX3:=X3.lt;go_upto_if 11 with fail
 go_cut [] from 4 (fun wx=>∃K,1<=K/\K<=4/\Fx wx w2.heap.size K y 0 0/\Fx wx w.heap.size 0 0 0 0/\Dr w wx B c)
 case first=>
  cases b
  ·
   go_wp2;go_meet;case rel=>exact⟨_,by omega,by omega,X3,R3,D3⟩
  ·
   go_wp2_with fail
   refine (Al _ B c _ D3.1 (by omega)).mono ?_;rintro e w4 ⟨z,rfl,z0,z1,c4,g4⟩;have X4:=X3.kept g4 (by simp;omega);have R4:=R3.kept g4 (by simp;omega);have D4:=D3.step c4 g4;obtain⟨t0,t1,t2,t3⟩:=X4.cells;obtain⟨h0,h1,h2,h3⟩:=X4.free;have hX4:=X4.lt;go_wp2;go_meet;case rel=>exact⟨_,by omega,by omega,X4.set0 _,R4.kept (Au w4 _ 0 _) (by simp;omega),D4.set (by omega) hcl hB 0 _⟩
 case rest=>
  obtain⟨K,k0,k1,X4,R4,D4⟩:=hcut;clear X3 R3 D3 s0 s1 s2 s3 f0 f1 f2 f3 hX3;obtain⟨t0,t1,t2,t3⟩:=X4.cells;obtain⟨h0,h1,h2,h3⟩:=X4.free;have hX4:=X4.lt;have hK:K=1\/K=2\/K=3\/K=4:=by omega
  rcases hK with rfl|rfl|rfl|rfl
  ·
   clear k0 k1;obtain⟨r0,r1,r2,r3⟩:=R4.cells;obtain⟨q0,q1,q2,q3⟩:=R4.free;go_wp2;have hZ:=(((R4.set0 1).set1 y).set2 0).set3 0;refine KA7 (Aw (by rfl) _ _ w.heap.size _ _ (0,0) _ rfl hZ Tryz.underlying82 rfl (by kernel_rfl)) rfl ?_;exact⟨_,_,_,_,rfl,(((D4.set (KAM _) hcl hB 0 _).set (KAM _) hcl hB 1 _).set (KAM _) hcl hB 2 _).set (KAM _) hcl hB 3 _,by decide,by decide⟩
  ·
   clear k0 k1;go_wp2_with fail
   refine (Al _ B c _ D4.1 (by omega)).mono ?_;rintro e w5 ⟨z,rfl,z0,z1,c5,g5⟩;have X5:=X4.kept g5 (by simp;omega);have R5:=R4.kept g5 (by simp;omega);have D5:=D4.step c5 g5;obtain⟨v0,v1,v2,v3⟩:=X5.cells;obtain⟨n0,n1,n2,n3⟩:=X5.free;have hX5:=X5.lt;have R6:=R5.kept (Au w5 w2.heap.size 2 (.int .i64 (1+z))) (by simp;omega);have D6:=D5.set (show w.heap.size<=w2.heap.size by omega) hcl hB 2 (.int .i64 (1+z));obtain⟨r0,r1,r2,r3⟩:=R6.cells;obtain⟨q0,q1,q2,q3⟩:=R6.free;go_wp2;have hZ:=(((R6.set0 2).set1 y).set2 (1+z)).set3 0;refine KA7 (Aw (by rfl) _ _ w.heap.size _ _ (0,0) _ rfl hZ Tryz.underlying82 rfl (by kernel_rfl)) rfl ?_;exact⟨_,_,_,_,rfl,(((D6.set (KAM _) hcl hB 0 _).set (KAM _) hcl hB 1 _).set (KAM _) hcl hB 2 _).set (KAM _) hcl hB 3 _,by decide,by decide⟩
  ·
   clear k0 k1;go_wp2_with fail
   refine (Al _ B c _ D4.1 (by omega)).mono ?_;rintro e w5 ⟨z,rfl,z0,z1,c5,g5⟩;have X5:=X4.kept g5 (by simp;omega);have R5:=R4.kept g5 (by simp;omega);have D5:=D4.step c5 g5;obtain⟨v0,v1,v2,v3⟩:=X5.cells;obtain⟨n0,n1,n2,n3⟩:=X5.free;have hX5:=X5.lt;have R6:=R5.kept (Au w5 w2.heap.size 2 (.int .i64 (1+z))) (by simp;omega);have D6:=D5.set (show w.heap.size<=w2.heap.size by omega) hcl hB 2 (.int .i64 (1+z));obtain⟨r0,r1,r2,r3⟩:=R6.cells;obtain⟨q0,q1,q2,q3⟩:=R6.free;go_wp2;have hZ:=(((R6.set0 3).set1 y).set2 (1+z)).set3 0;refine KA7 (Aw (by rfl) _ _ w.heap.size _ _ (0,0) _ rfl hZ Tryz.underlying82 rfl (by kernel_rfl)) rfl ?_;exact⟨_,_,_,_,rfl,(((D6.set (KAM _) hcl hB 0 _).set (KAM _) hcl hB 1 _).set (KAM _) hcl hB 2 _).set (KAM _) hcl hB 3 _,by decide,by decide⟩
  ·
   clear k0 k1;have R6:=R4.kept (Au wc w2.heap.size 1 (.int .i64 0)) (by simp;omega);have D6:=D4.set (show w.heap.size<=w2.heap.size by omega) hcl hB 1 (.int .i64 0);obtain⟨r0,r1,r2,r3⟩:=R6.cells;obtain⟨q0,q1,q2,q3⟩:=R6.free;go_wp2;have hZ:=(((R6.set0 4).set1 0).set2 0).set3 0;refine KA7 (Aw (by rfl) _ _ w.heap.size _ _ (0,0) _ rfl hZ Tryz.underlying82 rfl (by kernel_rfl)) rfl ?_;exact⟨_,_,_,_,rfl,(((D6.set (KAM _) hcl hB 0 _).set (KAM _) hcl hB 1 _).set (KAM _) hcl hB 2 _).set (KAM _) hcl hB 3 _,by decide,by decide⟩
theorem Ou (w:World)(B c:Nat)(hc:Hu w B c):
  Calls Tryz.prog 49 #[.pointer (some ⟨c,0,none⟩)] w fun e w'=>∃k p v g,e = .returned (FL k p v g)/\Dr w w' B c:=by
 have hcl:=hc.lt;have hB:=hc.1;have R0:=Fx.new w 0 0 0 0;have D0:=(Dr.refl hc).alloc (EG 0 0 0 0);go_enter Tryz.func49,Tryz.ntmps49
 go_wp2_with fail
 refine (Nj _ B c D0.1).mono ?_;rintro e w1 ⟨k,p,v,g,rfl,⟨c1,g1⟩,-,-⟩;have R1:=R0.kept g1 (by simp;omega);have D1:=D0.step c1 g1;clear R0 D0 c1 g1;have hRX:w.heap.size<w1.heap.size:=R1.lt;have X2:=Fx.new w1 k p v g;have R2:=R1.kept (KBa w1 (EG k p v g) none) (by simp);have D2:=D1.alloc (EG k p v g);clear R1 D1;obtain⟨W2,hW2⟩:∃W2,W2=w1.alloc (EG k p v g):=⟨_,rfl⟩;go_upto_region 2 with fail
 go_cut [12] from 4 (fun s12 wx=>∃b,s12 = .bool b/\Fx wx w1.heap.size k p v g/\Fx wx w.heap.size 0 0 0 0/\Dr w wx B c)
 case first=>
  clear hW2;by_cases hk:k<=2
  ·
   go_wp2_with fail
   refine (EU _ B c _ D2.1 (by omega)).mono ?_;rintro e w3 ⟨b,rfl,c3,g3⟩;go_wp2;go_meet;case rel=>exact⟨_,rfl,X2.kept g3 (by simp;omega),R2.kept g3 (by simp;omega),D2.step c3 g3⟩
  ·
   go_wp2;go_meet;case rel=>exact⟨_,rfl,X2,R2,D2⟩
 case rest=>
  obtain⟨b,rfl,X3,R3,D3⟩:=hcut;clear X2 R2 D2 hW2;go_upto_if 12 with fail
  go_cut [] from 4 (fun wx=>∃g,Fx wx w1.heap.size k p v g/\Fx wx w.heap.size 0 0 0 0/\Dr w wx B c)
  case first=>
   cases b
   ·
    go_wp2;go_meet;case rel=>exact⟨_,X3,R3,D3⟩
   ·
    go_wp2_with fail
    refine (Al _ B c _ D3.1 (by omega)).mono ?_;rintro e w4 ⟨z,rfl,z0,z1,c4,g4⟩;have X4:=X3.kept g4 (by simp;omega);have R4:=R3.kept g4 (by simp;omega);have D4:=D3.step c4 g4;obtain⟨t0,t1,t2,t3⟩:=X4.cells;obtain⟨h0,h1,h2,h3⟩:=X4.free;have hX4:=X4.lt;go_wp2;go_meet;case rel=>exact⟨_,X4.set3 _,R4.kept (Au w4 _ 3 _) (by simp;omega),D4.set (by omega) hcl hB 3 _⟩
  case rest=>
   clear X3 R3 D3;obtain⟨g,X3,R3,D3⟩:=hcut;go_wp2_with fail
   refine (EU _ B c _ D3.1 (by omega)).mono ?_;rintro e w4 ⟨b,rfl,c4,g4⟩;have X4:=X3.kept g4 (by simp;omega);have R4:=R3.kept g4 (by simp;omega);have D4:=D3.step c4 g4;clear X3 R3 D3 c4 g4;go_upto_if 18 with fail
   go_cut [] from 4 (fun wx=>∃k p v g,Fx wx w1.heap.size k p v g/\Fx wx w.heap.size 0 0 0 0/\Dr w wx B c)
   case first=>
    cases b
    ·
     go_wp2;go_meet;case rel=>exact⟨_,_,_,_,X4,R4,D4⟩
    go_wp2_with fail
    refine (Al _ B c _ D4.1 (by omega)).mono ?_;rintro e w5 ⟨q,rfl,q0,q1,c5,g5⟩;have X5:=X4.kept g5 (by simp;omega);have R5:=R4.kept g5 (by simp;omega);have D5:=D4.step c5 g5;have hX5:=X5.lt;clear X4 R4 D4 c5 g5;have hq:q=0\/q=1\/q=2\/q=3:=by omega
    clear q0 q1;rcases hq with rfl|rfl|rfl|rfl
    ·
     go_wp2_with fail
     refine (Zj _ B c _ _ D5.1 (by omega) (by omega) (by omega)).mono ?_;rintro e w6 ⟨z,rfl,z0,z1,c6,g6⟩;have X6:=X5.kept g6 (by simp;omega);have R6:=R5.kept g6 (by simp;omega);have D6:=D5.step c6 g6;obtain⟨v0,v1,v2,v3⟩:=X6.cells;obtain⟨n0,n1,n2,n3⟩:=X6.free;have hX6:=X6.lt;go_wp2;go_meet;case rel=>exact⟨_,_,_,_,X6.set0 _,R6.kept (Au w6 _ 0 _) (by simp;omega),D6.set (by omega) hcl hB 0 _⟩
    ·
     have DL:=D5.alloc (.cells #[.int .i64 (-1),.int .i64 2,.int .i64 3] 2);have XL:=X5.kept (KBa w5 (.cells #[.int .i64 (-1),.int .i64 2,.int .i64 3] 2) none) (by simp);have RL:=R5.kept (KBa w5 (.cells #[.int .i64 (-1),.int .i64 2,.int .i64 3] 2) none) (by simp);have hSz:=AD w5 (.cells #[.int .i64 (-1),.int .i64 2,.int .i64 3] 2);go_wp2_with fail
     refine (Al _ B c _ DL.1 (by omega)).mono ?_;rintro e w6 ⟨z,rfl,z0,z1,c6,g6⟩;obtain⟨zn,rfl⟩:=KAn z0;obtain⟨y,hy⟩:=Ks (w1:=w5) (e:=2) [-1,2,3] g6 (by simp;omega) zn (by simp;omega);have hS6:w5.heap.size<w6.heap.size:=by have:=g6.size;omega
     have X6:=XL.kept g6 (by simp;omega);have R6:=RL.kept g6 (by simp;omega);have D6:=DL.step c6 g6;clear DL XL RL hSz c6 g6;obtain⟨v0,v1,v2,v3⟩:=X6.cells;obtain⟨n0,n1,n2,n3⟩:=X6.free;have hX6:=X6.lt;go_wp2;go_meet;case rel=>exact⟨_,_,_,_,X6.set1 _,R6.kept (Au w6 _ 1 _) (by simp;omega),D6.set (by omega) hcl hB 1 _⟩
    ·
     have DL:=D5.alloc (.cells #[.int .i64 (-1),.int .i64 0,.int .i64 9,.int .i64 10] 2);have XL:=X5.kept (KBa w5 (.cells #[.int .i64 (-1),.int .i64 0,.int .i64 9,.int .i64 10] 2) none) (by simp);have RL:=R5.kept (KBa w5 (.cells #[.int .i64 (-1),.int .i64 0,.int .i64 9,.int .i64 10] 2) none) (by simp);have hSz:=AD w5 (.cells #[.int .i64 (-1),.int .i64 0,.int .i64 9,.int .i64 10] 2);go_wp2_with fail
     refine (Al _ B c _ DL.1 (by omega)).mono ?_;rintro e w6 ⟨z,rfl,z0,z1,c6,g6⟩;obtain⟨zn,rfl⟩:=KAn z0;obtain⟨y,hy⟩:=Ks (w1:=w5) (e:=2) [-1,0,9,10] g6 (by simp;omega) zn (by simp;omega);have hS6:w5.heap.size<w6.heap.size:=by have:=g6.size;omega
     have X6:=XL.kept g6 (by simp;omega);have R6:=RL.kept g6 (by simp;omega);have D6:=DL.step c6 g6;clear DL XL RL hSz c6 g6;obtain⟨v0,v1,v2,v3⟩:=X6.cells;obtain⟨n0,n1,n2,n3⟩:=X6.free;have hX6:=X6.lt;go_wp2;go_meet;case rel=>exact⟨_,_,_,_,X6.set2 _,R6.kept (Au w6 _ 2 _) (by simp;omega),D6.set (by omega) hcl hB 2 _⟩
    ·
     have DL:=D5.alloc (.cells #[.int .i64 (-1),.int .i64 9,.int .i64 10] 2);have XL:=X5.kept (KBa w5 (.cells #[.int .i64 (-1),.int .i64 9,.int .i64 10] 2) none) (by simp);have RL:=R5.kept (KBa w5 (.cells #[.int .i64 (-1),.int .i64 9,.int .i64 10] 2) none) (by simp);have hSz:=AD w5 (.cells #[.int .i64 (-1),.int .i64 9,.int .i64 10] 2);go_wp2_with fail
     refine (Al _ B c _ DL.1 (by omega)).mono ?_;rintro e w6 ⟨z,rfl,z0,z1,c6,g6⟩;obtain⟨zn,rfl⟩:=KAn z0;obtain⟨y,hy⟩:=Ks (w1:=w5) (e:=2) [-1,9,10] g6 (by simp;omega) zn (by simp;omega);have hS6:w5.heap.size<w6.heap.size:=by have:=g6.size;omega
     have X6:=XL.kept g6 (by simp;omega);have R6:=RL.kept g6 (by simp;omega);have D6:=DL.step c6 g6;clear DL XL RL hSz c6 g6;obtain⟨v0,v1,v2,v3⟩:=X6.cells;obtain⟨n0,n1,n2,n3⟩:=X6.free;have hX6:=X6.lt;go_wp2;go_meet;case rel=>exact⟨_,_,_,_,X6.set3 _,R6.kept (Au w6 _ 3 _) (by simp;omega),D6.set (by omega) hcl hB 3 _⟩
   case rest=>
    clear X4 R4 D4;obtain⟨k,p,v,g,X4,R4,D4⟩:=hcut;obtain⟨t0,t1,t2,t3⟩:=X4.cells;have hX4:=X4.lt;obtain⟨r0,r1,r2,r3⟩:=R4.cells;obtain⟨q0,q1,q2,q3⟩:=R4.free;go_wp2;have hZ:=(((R4.set0 k).set1 p).set2 v).set3 g;refine KA7 (Aw (by rfl) _ _ w.heap.size _ _ (0,0) _ rfl hZ Tryz.underlying82 rfl (by kernel_rfl)) rfl ?_;exact⟨_,_,_,_,rfl,(((D4.set (KAM _) hcl hB 0 _).set (KAM _) hcl hB 1 _).set (KAM _) hcl hB 2 _).set (KAM _) hcl hB 3 _⟩
theorem Bt (w:World)(cs:Array Value)(t:TypeId)(n i:Nat)(hn:n=w.heap.size):(w.alloc (.cells cs t)).cell? ⟨n,0+i,none⟩=cs[i]?:=by
 subst hn;rw[KBC,KAL _ w.heap.size i _ _ (0,0) (KAX w _)]
theorem Dr.grow {w wr w':World}{B c:Nat}{row:Option Nat}(h:Dr w wr B c)(hg:wr.grownBy w' row)(hr:∀k,row=some k->w.heap.size<=k)(hc:c<w.heap.size)(hB:B<=c):Dr w w' B c:=by
 refine⟨h.1.kept hg (fun e=>by have:=hr c e;omega) (fun k hk=>by have:=hr k hk;omega),?_⟩;exact⟨hg.os.trans h.2.os,hg.tape.trans h.2.tape,hg.output.trans h.2.output,KAU h.2.size hg.size,fun i hi hne=>(hg.block i (KAC hi h.2.size) (fun e=>by have:=hr i e.symm;omega)).trans (h.2.block i hi hne)⟩
theorem Dr.trans {a b d:World}{B c:Nat}(h:Dr a b B c)(k:Dr b d B c):Dr a d B c:=⟨k.1,Ak h.2 k.2⟩
theorem Bq.at {w:World}{base:Nat}{v:Value}{ds:List Dd}(h:Bq w base v ds)(hn:0<ds.length):
  ∃g c,v = .slice (some ⟨g,0,none⟩) ds.length c/\base<=g/\g<w.heap.size/\(∀i,i<ds.length->Tl w g (i*4) (ds.getD i zD))/\∀i,w.frozen? ⟨g,i,none⟩=false:=by
 obtain⟨a,c,rfl,r⟩:=h.S9;rcases r with r|⟨g,rfl,hb,hB,hA⟩
 . rw[r] at hn;simp at hn
 . exact⟨g,_,rfl,hb,hB.lt,hA,hB.free⟩
theorem Bq.cells {w:World}{base g n c:Nat}{ds:List Dd}(h:Bq w base (.slice (some ⟨g,0,none⟩) n c) ds){i:Nat}(hi:i<ds.length):Tl w g (i*4) (ds.getD i zD)/\w.frozen? ⟨g,i*4+3,none⟩=false/\g<w.heap.size:=by
 obtain⟨g',c',e,_,hg,hA,hF⟩:=h.at (by omega);simp only[KAT,KAg,KA6,KBX] at e;obtain⟨rfl,_,_⟩:=e;exact⟨hA i hi,hF _,hg⟩
theorem Cg.cellAt {w:World}{base N g n c:Nat}{V:Nat->Value}{AA:List (List Dd)}(h:Cg w base N (.slice (some ⟨g,0,none⟩) n c) V AA){i:Nat}(hi:i<AA.length):w.cell? ⟨g,i,none⟩=some (V i)/\g<w.heap.size:=by
 obtain⟨g',c',e,_,_,hg,_,hC,_⟩:=h.at (by omega);simp only[KAT,KAg,KA6,KBX] at e;obtain⟨rfl,_,_⟩:=e;exact⟨hC i hi,hg⟩
theorem aZ {AA:List (List Dd)}{L:List Dd}(h:∀i,i<AA.length->(AA.getD i []).length<=4)(hL:L.length<=4):∀i,i<(AA++[L]).length->((AA++[L]).getD i []).length<=4:=by
 intro i hi;by_cases e:i<AA.length
 . rw[JA AA [L] i [] e];exact h i e
 ·
  have:i=AA.length:=by simp at hi;omega
  subst this;rw[Pf];exact hL
theorem jX {n k:Nat}{Pb:List (List Dd)}{ds:List Dd}(hk:k<Pb.length)(h:∀i,i<n->(Pb.getD i []).length<=4)(hd:ds.length<=4):∀i,i<n->((Pb.set k ds).getD i []).length<=4:=by
 intro i hi;rw[Gg Pb k i ds [] hk];split
 . exact hd
 . exact h i hi
theorem Ts (w:World):Cg (w.alloc (.cells #[] 72)) w.heap.size (w.alloc (.cells #[] 72)).heap.size (.slice (some ⟨w.heap.size,0,none⟩) 0 0) (fun _=>vZ) []:=
 ⟨KAo w #[] 0 (KAM _) (by decide) rfl,fun k hk=>by simp[Value.ownBlock] at hk;rw[AD];omega,by simp,by simp,by simp,by simp⟩
theorem Rv (w:World):Bq (w.alloc (.cells #[] 82)) w.heap.size (.slice (some ⟨w.heap.size,0,none⟩) 0 0) []:=
 KAo w #[] 0 (KAM _) (by decide) rfl
theorem UX (w:World)(B c:Nat)(hc:Hu w B c):
  Calls Tryz.prog 47 #[.pointer (some ⟨c,0,none⟩)] w fun e w'=>∃v V AA,e = .returned v/\Cg w' w.heap.size w'.heap.size v V AA/\1<=AA.length/\AA.length<=3/\(∀i,i<AA.length->(AA.getD i []).length<=4)/\Dr w w' B c:=by
 have hcl:=hc.lt;have hB:=hc.1;obtain⟨i0,hi,hz0,hz1,hz2⟩:=KA3 Tryz.Z4;obtain⟨j0,hj,hy0,hy1,hy2⟩:=KA3 Tryz.UP;have a0:=Ts w;have D0:=(Dr.refl hc).alloc (.cells #[] 72);go_enter Tryz.func47,Tryz.ntmps47
 go_wp2_with fail
 refine (Al _ B c _ D0.1 (by omega)).mono ?_;rintro e w1 ⟨x,rfl,x0,x1,c1,g1⟩;have a1:=(a0.kept g1 hcl).up g1.size;have D1:=D0.step c1 g1;obtain⟨n0,rfl⟩:=KAn x0;clear a0 D0 c1 g1 x0;go_wp2;go_loopw [3,4,5,6] (fun x e4 e5 i wr=>∃(r de:Nat) (ev:Int) (V:Nat->Value) (AA:List (List Dd)),i = .int .i64 r/\e4 = .int .i64 ev/\e5 = .int .i64 de/\0<=ev/\ev<=6/\de<=12/\1<=AA.length+r/\AA.length+r<=3/\Cg wr w.heap.size wr.heap.size x V AA/\Hid (∀i,i<AA.length->(AA.getD i []).length<=4)/\Dr w wr B c) (fun _ _ _ i _=>(intOf i).toNat)
 case atStart=>exact⟨1+n0,0,0,_,[],by go_num,rfl,rfl,by omega,by omega,by omega,by simp,by simp;omega,a1,AI (by simp),D1⟩
 case round=>
  obtain⟨r,de,ev,V,AA,rfl,rfl,rfl,e0,e6,d12,r1,r3,hX,hL4,hD⟩:=hrel;clear a1 D1;by_cases hr0:r=0
  ·
   have hr:(r:Int)<=0:=by omega
   have hrd:decide (0<r)=false:=by simp[hr0]
   have n1:1<=AA.length:=by omega
   have n3:AA.length<=3:=by omega
   clear hr0 r1 r3;obtain⟨g,cx,rfl,hgb,hgN,hgw,hcx,hcell,-⟩:=hX.at (by omega);go_wp2;obtain⟨wo,hwo⟩:∃wo:World,wo=wr:=⟨_,rfl⟩;subst hwo;clear hcell;go_loopw [11] (fun i wr=>∃(k:Nat),k<=AA.length/\i = .int .i64 k/\Hid (∃ess:List (List Dd),ess.length<=AA.length/\AA.length<=ess.length/\Hid (∀i,i<AA.length->(ess.getD i []).length<=4)/\Cg wr w.heap.size wo.heap.size (.slice (some ⟨g,0,none⟩) AA.length cx) V ess/\wo.heap.size<=wr.heap.size/\Dr w wr B c)) (fun i _=>AA.length-(intOf i).toNat)
   case atStart=>exact⟨0,KAb _,rfl,AI ⟨AA,KAM _,KAM _,hL4,hX,KAM _,hD⟩⟩
   case round=>
    obtain⟨k,hk,rfl,hH⟩:=hrel;clear hD;obtain⟨ess,el1,el2,hE4,hY,hsz,hD⟩:=hH.out;clear hH;by_cases hlt:k<AA.length
    ·
     have hEk:=hE4.out k hlt;have hAk:=hY.each k (by omega);obtain⟨d1,hgw2⟩:=hY.cellAt (i:=k) (by omega);obtain⟨a5,c5,um⟩:=hAk.shape;have HLk:Hid (∀q,q=(ess.getD k []).length->(ess.getD k []).length=q):=AI (fun q h=>h.symm);obtain⟨lk,hlk⟩:∃lk,lk=(ess.getD k []).length:=⟨_,rfl⟩;have HL2:=AI hlk;rw[<-hlk] at um hEk;rw[um] at d1;clear hlk HLk;have i1:(0:Int)<=(k:Int):=KAK _;have i2:(k:Int)<(AA.length:Int):=by omega
     by_cases h1:1<lk
     ·
      obtain⟨gk,ck,e1,hgk,-⟩:=hAk.at (by rw[<-HL2.out];omega);rw[um] at e1;simp only[KAT] at e1;obtain⟨rfl,-,-⟩:=e1;have HV:=AI um;clear um hAk;have h1i:(1:Int)<(lk:Int):=by omega
      go_wp2_with fail
      refine (EU _ B c _ hD.1 (by omega)).mono ?_;rintro e w2 ⟨b,rfl,c2,g2⟩;have hY2:=hY.kept g2 hcl;have hD2:=hD.step c2 g2;have hsz2:=KAU hsz g2.size;clear hY hD hsz c2 g2 d1 hgw2;cases b
      ·
       go_wp2;go_roundw;case rel=>exact⟨k+1,by omega,by go_num,AI ⟨ess,el1,el2,hE4,hY2,hsz2,hD2⟩⟩
       case measure=>simp[intOf];omega
      ·
       have hw1:IntKind.i64.wrap ((lk:Int)-1)=(lk:Int)-1:=by rw[KAk];omega
       go_wp2_with fail
       refine (Al _ B c _ hD2.1 (by omega)).mono ?_;rintro e w3 ⟨x,rfl,x0,x2,c3,g3⟩;have hY3:=hY2.kept g3 hcl;have hD3:=hD2.step c3 g3;have hsz3:=KAU hsz2 g3.size;obtain⟨f,rfl⟩:=KAn x0;clear hY2 hD2 hsz2 c3 g3 x0;go_wp2;go_loopw [14] (fun i wq=>∃(q:Nat),q<=lk/\i = .int .i64 q/\Hid (∃Pb:List (List Dd),Pb.length<=AA.length/\AA.length<=Pb.length/\Hid (∀i,i<AA.length->(Pb.getD i []).length<=4)/\Hid ((Pb.getD k []).length=lk)/\Cg wq w.heap.size wo.heap.size (.slice (some ⟨g,0,none⟩) AA.length cx) V Pb/\wo.heap.size<=wq.heap.size/\Dr w wq B c)) (fun i _=>lk-(intOf i).toNat)
       case atStart=>exact⟨f,by omega,rfl,AI ⟨ess,el1,el2,hE4,AI HL2.out.symm,hY3,hsz3,hD3⟩⟩
       case round=>
        obtain⟨q,hq,rfl,hH⟩:=hrel;obtain⟨Pb,l1,l2,h4,hlk,hY,hsz,hD⟩:=hH.out;clear hY3 hD3 hsz3 hH;by_cases pR:q<lk
        ·
         go_wp2_with fail
         refine (Al _ B c _ hD.1 (by omega)).mono ?_;rintro e w4 ⟨z,rfl,z0,z2,c4,g4⟩;have hY:=hY.kept g4 hcl;have hD:=hD.step c4 g4;have hsz:=KAU hsz g4.size;clear c4 g4;by_cases hz:(q:Int)<(f:Int)+2+z
         ·
          obtain⟨d1,hgw2⟩:=hY.cellAt (i:=k) (by omega);have hAk:=hY.each k (by omega);rw[HV.out] at d1 hAk;obtain⟨AT,fr,hgk2⟩:=hAk.cells (i:=q) (by rw[hlk.out];exact pR);obtain⟨A0,-,-,A3⟩:=AT;generalize ((Pb.getD k []).getD q zD).1=x0 at A0;generalize ((Pb.getD k []).getD q zD).2.2.2=x3 at A3;have j1:(0:Int)<=(q:Int):=KAK _;have j2:(q:Int)<(lk:Int):=by omega
          by_cases hx:2<x0
          ·
           go_wp2;go_roundw;case rel=>exact⟨k+1,by omega,by go_num,AI ⟨Pb,l1,l2,h4,hY,hsz,hD⟩⟩
           case measure=>simp[intOf];omega
          ·
           have hx':x0<=2:=by omega
           obtain⟨es,he,hY5⟩:=hY.put (i:=k) (k:=q) (by omega) HV.out (by rw[hlk.out];exact pR) ((k:Int)+1);have hD5:=hD.set hgk hcl hB (q*4+3) (.int .i64 ((k:Int)+1));have H4:Hid (∀i,i<AA.length->((Pb.set k es).getD i []).length<=4):=AI (jX (by omega) h4.out (by rw[he];exact h4.out k hlt));have HK:Hid (((Pb.set k es).getD k []).length=lk):=AI (by rw[Gg Pb k k es [] (by omega),KAP rfl,he,hlk.out]);clear hx hAk;go_wp2;go_roundw;case rel=>exact⟨q+1,by omega,by go_num,AI ⟨Pb.set k es,by rw[KA4];exact l1,by rw[KA4];exact l2,H4,HK,hY5,by simpa using hsz,hD5⟩⟩
           case measure=>simp[intOf];omega
         ·
          have hz':(f:Int)+2+z<=(q:Int):=by omega
          go_wp2;go_roundw;case rel=>exact⟨k+1,by omega,by go_num,AI ⟨Pb,l1,l2,h4,hY,hsz,hD⟩⟩
          case measure=>simp[intOf];omega
        ·
         have hql':(lk:Int)<=(q:Int):=by omega
         go_wp2;go_roundw;case rel=>exact⟨k+1,by omega,by go_num,AI ⟨Pb,l1,l2,h4,hY,hsz,hD⟩⟩
         case measure=>simp[intOf];omega
     ·
      have h1i:(lk:Int)<=1:=by omega
      go_wp2;go_roundw;case rel=>exact⟨k+1,by omega,by go_num,AI ⟨ess,el1,el2,hE4,hY,hsz,hD⟩⟩
      case measure=>simp[intOf];omega
    ·
     obtain rfl:k=AA.length:=by omega
     go_wp2;go_ret;exact⟨_,_,ess,rfl,hY.up hsz,by omega,by omega,fun i hi=>hE4.out i (by omega),hD⟩
  ·
   obtain⟨r',rfl⟩:∃r':Nat,r=r'+1:=⟨r-1,by omega⟩;clear hr0;have ad0:=Rv wr;have hcw:c<wr.heap.size:=KAC hcl hD.2.size;have D2:=(Dr.refl hD.1).alloc (.cells #[] 82);go_wp2_with fail
   refine (Al _ B c _ D2.1 (by omega)).mono ?_;rintro e w2 ⟨y,rfl,y0,y1,c2,g2⟩;have ad2:=ad0.kept g2 (Fm ad0.ge hcw);have D3:=D2.step c2 g2;obtain⟨m0,rfl⟩:=KAn y0;clear ad0 D2 c2 g2 y0;go_wp2;obtain⟨wo,hwo⟩:∃wo:World,wo=wr:=⟨_,rfl⟩;subst hwo;go_loopw [4,5,7,8] (fun e4 e5 y i wq=>∃(m de:Nat) (ev:Int) (L:List Dd),i = .int .i64 m/\e4 = .int .i64 ev/\e5 = .int .i64 de/\0<=ev/\ev<=6/\de<=12/\L.length+m<=4/\Bq wq wo.heap.size y L/\Dr wo wq B c) (fun _ _ _ i _=>(intOf i).toNat)
   case atStart=>exact⟨m0,de,ev,[],rfl,rfl,rfl,e0,e6,d12,by simp;omega,ad2,D3⟩
   case round=>
    clear e0 e6 d12;obtain⟨m,de,ev,L,rfl,rfl,rfl,e0,e6,d12,lm,hA,hQ⟩:=hrel;clear ad2 D3;by_cases hm0:m=0
    ·
     have hm:(m:Int)<=0:=by omega
     have hmd:decide (0<m)=false:=by simp[hm0]
     clear hm0;have hX2:=hX.kept hQ.2 hcl;have hLL:=hL4.out;have hsz1:=hD.2.size;have hsz2:=hQ.2.size;have hL4':L.length<=4:=by omega
     obtain⟨a5,c5,rfl⟩:=hA.shape;have hX3:=hX2.keep ((AC.refl wr).alloc (.cells #[.slice a5 L.length c5] 72));have hA3:=hA.keep ((AC.refl wr).alloc (.cells #[.slice a5 L.length c5] 72));have hge:=fun k hk=>(KAY hX.row k hk).1
     have HP:=AI (aZ hLL hL4');clear hX2 hLL hA;go_wp2_with (at_builtin;refine KAe _ rfl _ _ 24 rfl w.heap.size 72 j0 (.slice none 0 0) 1 24 Tryz.underlying24 hj hy0 hy1 hy2 rfl (by decide) _ _ _ rfl hX3.row ⟨_,0,none⟩ 1 1 [.slice a5 L.length c5] rfl rfl ?b1 ?b2 ?b3 ?b4 ?b5 ?_)
     case b1=>
      intro j u hj
      match j,hj with
      | 0,hj=>simp at hj;subst hj;simp[Addr.add]
     case b2=>intro u hu;simp at hu;subst hu;rfl
     case b3=>unfold maxLen;first|omega|(simp;omega)
     case b4=>first|omega|(simp;omega)
     case b5=>first|omega|(simp;omega)
     intro v' w5 hown' hgrow _ hblk;have hP:=Cg.push hX3 hA3 hsz1 hown' hgrow (by rw[AD];exact hblk) (by rw[AD];omega);have D5:=((hD.trans hQ).alloc _).grow hgrow hge hcl hB;clear hgrow hown' hblk;go_wp2;go_roundw;case rel=>exact⟨r',de,ev,_,AA++[L],by go_num,rfl,rfl,e0,e6,d12,by simp;omega,by simp;omega,hP,HP,D5⟩
     case measure=>simp[intOf]
    ·
     obtain⟨m,rfl⟩:∃m':Nat,m=m'+1:=⟨m-1,by omega⟩;clear hm0;go_wp2_with fail
     refine (Nj _ B c hQ.1).mono ?_;rintro e w4 ⟨kk,p,v,g,rfl,D4',k1,k4⟩;have D4:=hQ.trans D4';have hA4:=hA.kept D4'.2 (Fm hA.ge hcw);have hge:=hA.ge;have hsz4:=D4.2.size;obtain⟨a5,c5,rfl⟩:=hA.shape;clear hA hQ D4';have hk:kk=1\/kk=2\/kk=3\/kk=4:=by omega
     clear k1 k4;rcases hk with rfl|rfl|rfl|rfl
     ·
      by_cases hx:6<ev+1
      ·
       go_wp2;go_roundw;case rel=>exact⟨m,de,ev,L,by go_num,rfl,rfl,by omega,by omega,by omega,by omega,hA4.keep (((AC.refl w4).alloc _).alloc _),(D4.alloc _).alloc _⟩
       case measure=>simp[intOf]
      ·
       have hx':ev+1<=6:=by omega
       by_cases hd:de=12
       ·
        have ed:((de:Int)==12)=true:=by simp;omega
        clear hd;go_wp2;go_roundw;case rel=>exact⟨m,de,ev,L,by go_num,rfl,rfl,by omega,by omega,by omega,by omega,hA4.keep (((AC.refl w4).alloc _).alloc _),(D4.alloc _).alloc _⟩
        case measure=>simp[intOf]
       ·
        have ed:((de:Int)==12)=false:=by simp;omega
        have de12:de<12:=by omega
        clear hd;go_wp2_with (at_builtin;refine KAe _ rfl _ _ 72 rfl wo.heap.size 82 i0 (.agg #[.int .i64 0,.int .i64 0,.int .i64 0,.int .i64 0]) 4 32 Tryz.underlying72 hi hz0 hz1 hz2 rfl (by decide) _ _ _ rfl (hA4.keep ((((AC.refl w4).alloc _).alloc _).alloc _)) ⟨_,0,none⟩ 1 1 (cD (1,p,v,g)) rfl rfl ?c1 ?c2 ?c3 ?c4 ?c5 ?_)
        case c1=>
         intro j u hj
         match j,hj with
         | 0,hj=>simp[cD] at hj;subst hj;rw[A7];exact Bt _ _ _ _ 0 (by rw[AD,AD])
         | 1,hj=>simp[cD] at hj;subst hj;rw[A7];exact Bt _ _ _ _ 1 (by rw[AD,AD])
         | 2,hj=>simp[cD] at hj;subst hj;rw[A7];exact Bt _ _ _ _ 2 (by rw[AD,AD])
         | 3,hj=>simp[cD] at hj;subst hj;rw[A7];exact Bt _ _ _ _ 3 (by rw[AD,AD])
         |n+4,hj=>simp[cD] at hj
        case c2=>intro u hu;simp[cD] at hu;rcases hu with rfl|rfl|rfl|rfl<;>rfl
        case c3=>unfold maxLen;first|(simp;done)|omega|(simp;omega)
        case c4=>first|(simp;done)|omega|(simp;omega)
        case c5=>first|(simp;done)|omega|(simp;omega)
        intro v' w5 hown' hgrow _ _;have hA5:Bq w5 wo.heap.size v' (L++[(1,p,v,g)]):=IE hown';have D5:=(((D4.alloc _).alloc _).alloc _).grow hgrow hge hcw hB;clear hgrow hown' hA4;go_wp2;go_roundw;case rel=>exact⟨m,de+1,ev+1,_,by go_num,by go_num,by go_num,by omega,by omega,by omega,by simp;omega,hA5,D5⟩
        case measure=>simp[intOf]
     ·
      by_cases hx:6<ev+1
      ·
       go_wp2;go_roundw;case rel=>exact⟨m,de,ev,L,by go_num,rfl,rfl,by omega,by omega,by omega,by omega,hA4.keep (((AC.refl w4).alloc _).alloc _),(D4.alloc _).alloc _⟩
       case measure=>simp[intOf]
      ·
       have hx':ev+1<=6:=by omega
       by_cases hd:de=12
       ·
        have ed:((de:Int)==12)=true:=by simp;omega
        clear hd;go_wp2;go_roundw;case rel=>exact⟨m,de,ev,L,by go_num,rfl,rfl,by omega,by omega,by omega,by omega,hA4.keep (((AC.refl w4).alloc _).alloc _),(D4.alloc _).alloc _⟩
        case measure=>simp[intOf]
       ·
        have ed:((de:Int)==12)=false:=by simp;omega
        have de12:de<12:=by omega
        clear hd;go_wp2_with (at_builtin;refine KAe _ rfl _ _ 72 rfl wo.heap.size 82 i0 (.agg #[.int .i64 0,.int .i64 0,.int .i64 0,.int .i64 0]) 4 32 Tryz.underlying72 hi hz0 hz1 hz2 rfl (by decide) _ _ _ rfl (hA4.keep ((((AC.refl w4).alloc _).alloc _).alloc _)) ⟨_,0,none⟩ 1 1 (cD (2,p,v,g)) rfl rfl ?c1 ?c2 ?c3 ?c4 ?c5 ?_)
        case c1=>
         intro j u hj
         match j,hj with
         | 0,hj=>simp[cD] at hj;subst hj;rw[A7];exact Bt _ _ _ _ 0 (by rw[AD,AD])
         | 1,hj=>simp[cD] at hj;subst hj;rw[A7];exact Bt _ _ _ _ 1 (by rw[AD,AD])
         | 2,hj=>simp[cD] at hj;subst hj;rw[A7];exact Bt _ _ _ _ 2 (by rw[AD,AD])
         | 3,hj=>simp[cD] at hj;subst hj;rw[A7];exact Bt _ _ _ _ 3 (by rw[AD,AD])
         |n+4,hj=>simp[cD] at hj
        case c2=>intro u hu;simp[cD] at hu;rcases hu with rfl|rfl|rfl|rfl<;>rfl
        case c3=>unfold maxLen;first|(simp;done)|omega|(simp;omega)
        case c4=>first|(simp;done)|omega|(simp;omega)
        case c5=>first|(simp;done)|omega|(simp;omega)
        intro v' w5 hown' hgrow _ _;have hA5:Bq w5 wo.heap.size v' (L++[(2,p,v,g)]):=IE hown';have D5:=(((D4.alloc _).alloc _).alloc _).grow hgrow hge hcw hB;clear hgrow hown' hA4;go_wp2;go_roundw;case rel=>exact⟨m,de+1,ev+1,_,by go_num,by go_num,by go_num,by omega,by omega,by omega,by simp;omega,hA5,D5⟩
        case measure=>simp[intOf]
     ·
      by_cases hx:6<ev+2
      ·
       go_wp2;go_roundw;case rel=>exact⟨m,de,ev,L,by go_num,rfl,rfl,by omega,by omega,by omega,by omega,hA4.keep (((AC.refl w4).alloc _).alloc _),(D4.alloc _).alloc _⟩
       case measure=>simp[intOf]
      ·
       have hx':ev+2<=6:=by omega
       by_cases hd:de=12
       ·
        have ed:((de:Int)==12)=true:=by simp;omega
        clear hd;go_wp2;go_roundw;case rel=>exact⟨m,de,ev,L,by go_num,rfl,rfl,by omega,by omega,by omega,by omega,hA4.keep (((AC.refl w4).alloc _).alloc _),(D4.alloc _).alloc _⟩
        case measure=>simp[intOf]
       ·
        have ed:((de:Int)==12)=false:=by simp;omega
        have de12:de<12:=by omega
        clear hd;go_wp2_with (at_builtin;refine KAe _ rfl _ _ 72 rfl wo.heap.size 82 i0 (.agg #[.int .i64 0,.int .i64 0,.int .i64 0,.int .i64 0]) 4 32 Tryz.underlying72 hi hz0 hz1 hz2 rfl (by decide) _ _ _ rfl (hA4.keep ((((AC.refl w4).alloc _).alloc _).alloc _)) ⟨_,0,none⟩ 1 1 (cD (3,p,v,g)) rfl rfl ?c1 ?c2 ?c3 ?c4 ?c5 ?_)
        case c1=>
         intro j u hj
         match j,hj with
         | 0,hj=>simp[cD] at hj;subst hj;rw[A7];exact Bt _ _ _ _ 0 (by rw[AD,AD])
         | 1,hj=>simp[cD] at hj;subst hj;rw[A7];exact Bt _ _ _ _ 1 (by rw[AD,AD])
         | 2,hj=>simp[cD] at hj;subst hj;rw[A7];exact Bt _ _ _ _ 2 (by rw[AD,AD])
         | 3,hj=>simp[cD] at hj;subst hj;rw[A7];exact Bt _ _ _ _ 3 (by rw[AD,AD])
         |n+4,hj=>simp[cD] at hj
        case c2=>intro u hu;simp[cD] at hu;rcases hu with rfl|rfl|rfl|rfl<;>rfl
        case c3=>unfold maxLen;first|(simp;done)|omega|(simp;omega)
        case c4=>first|(simp;done)|omega|(simp;omega)
        case c5=>first|(simp;done)|omega|(simp;omega)
        intro v' w5 hown' hgrow _ _;have hA5:Bq w5 wo.heap.size v' (L++[(3,p,v,g)]):=IE hown';have D5:=(((D4.alloc _).alloc _).alloc _).grow hgrow hge hcw hB;clear hgrow hown' hA4;go_wp2;go_roundw;case rel=>exact⟨m,de+1,ev+2,_,by go_num,by go_num,by go_num,by omega,by omega,by omega,by simp;omega,hA5,D5⟩
        case measure=>simp[intOf]
     ·
      by_cases hd:de=12
      ·
       have ed:((de:Int)==12)=true:=by simp;omega
       clear hd;go_wp2;go_roundw;case rel=>exact⟨m,de,ev,L,by go_num,rfl,rfl,by omega,by omega,by omega,by omega,hA4.keep (((AC.refl w4).alloc _).alloc _),(D4.alloc _).alloc _⟩
       case measure=>simp[intOf]
      ·
       have ed:((de:Int)==12)=false:=by simp;omega
       have de12:de<12:=by omega
       clear hd;go_wp2_with (at_builtin;refine KAe _ rfl _ _ 72 rfl wo.heap.size 82 i0 (.agg #[.int .i64 0,.int .i64 0,.int .i64 0,.int .i64 0]) 4 32 Tryz.underlying72 hi hz0 hz1 hz2 rfl (by decide) _ _ _ rfl (hA4.keep ((((AC.refl w4).alloc _).alloc _).alloc _)) ⟨_,0,none⟩ 1 1 (cD (4,p,v,g)) rfl rfl ?c1 ?c2 ?c3 ?c4 ?c5 ?_)
       case c1=>
        intro j u hj
        match j,hj with
        | 0,hj=>simp[cD] at hj;subst hj;rw[A7];exact Bt _ _ _ _ 0 (by rw[AD,AD])
        | 1,hj=>simp[cD] at hj;subst hj;rw[A7];exact Bt _ _ _ _ 1 (by rw[AD,AD])
        | 2,hj=>simp[cD] at hj;subst hj;rw[A7];exact Bt _ _ _ _ 2 (by rw[AD,AD])
        | 3,hj=>simp[cD] at hj;subst hj;rw[A7];exact Bt _ _ _ _ 3 (by rw[AD,AD])
        |n+4,hj=>simp[cD] at hj
       case c2=>intro u hu;simp[cD] at hu;rcases hu with rfl|rfl|rfl|rfl<;>rfl
       case c3=>unfold maxLen;first|(simp;done)|omega|(simp;omega)
       case c4=>first|(simp;done)|omega|(simp;omega)
       case c5=>first|(simp;done)|omega|(simp;omega)
       intro v' w5 hown' hgrow _ _;have hA5:Bq w5 wo.heap.size v' (L++[(4,p,v,g)]):=IE hown';have D5:=(((D4.alloc _).alloc _).alloc _).grow hgrow hge hcw hB;clear hgrow hown' hA4;go_wp2;go_roundw;case rel=>exact⟨m,de+1,ev,_,by go_num,by go_num,by go_num,by omega,by omega,by omega,by simp;omega,hA5,D5⟩
       case measure=>simp[intOf]
theorem Dr.jA {w wr w':World}{B c:Nat}{row:Option Nat}(h:Dr w wr B c)(hg:wr.grownBy w' row)(hl:∀k,row=some k->w.heap.size<=k)(hc:c<w.heap.size)(hB:B<=c):Dr w w' B c:=
  ⟨h.1.kept hg (fun e=>by have:=hl c e;omega) (fun k hk=>by have:=hl k hk;omega),
   hg.os.trans h.2.os,hg.tape.trans h.2.tape,hg.output.trans h.2.output,KAU h.2.size hg.size,fun k hk hne=>(hg.block k (KAC hk h.2.size) (fun e=>by have:=hl k e.symm;omega)).trans (h.2.block k hk hne)⟩
theorem Dr.Pj {w wr wr':World}{B c:Nat}(h:Dr w wr B c)(k:AC wr wr'):Dr w wr' B c:=⟨h.1.keep k,Ak h.2 ⟨Below.os k,Below.tape k,Below.output k,Below.size k,fun i hi _=>KAW k i hi⟩⟩
structure DK (w wr:World)(B c:Nat)(uR uV:Value)(rs vs:List Int):Prop where
 dr:Dr w wr B c
 res:wr.heap[w.heap.size]? = some (Cp Ac Ac)
 box:wr.heap[w.heap.size+1]? = some (Cp uR uV)
 R:A8 wr (w.heap.size+2) uR rs
 V:A8 wr (w.heap.size+2) uV vs
 ap:uR.ownBlock=none\/uR.ownBlock≠uV.ownBlock
 hc:c<w.heap.size
 hB:B<=c
theorem DK.lt {w wr:World}{B c:Nat}{uR uV:Value}{rs vs:List Int}(h:DK w wr B c uR uV rs vs):w.heap.size+1<wr.heap.size:=(KAm.1 h.box).1
theorem DK.start (w:World)(B c:Nat)(hc:Hu w B c):DK w ((w.alloc (Cp Ac Ac)).alloc (Cp Ac Ac)) B c Ac Ac [] [] where
 dr:=((Dr.refl hc).Pj ((AC.refl w).alloc _)).Pj ((AC.refl _).alloc _)
 res:=by
  have k:AC (w.alloc (Cp Ac Ac)) ((w.alloc (Cp Ac Ac)).alloc (Cp Ac Ac)):=(AC.refl _).alloc _;exact (KAW k _ (by rw[AD];omega)).trans (KAX w _)
 box:=by
  have:=KAX (w.alloc (Cp Ac Ac)) (Cp Ac Ac)
  rwa [AD] at this
 R:=World.ownsRow_nil _ _ _ _
 V:=World.ownsRow_nil _ _ _ _
 ap:= .inl rfl
 hc:=hc.lt
 hB:=hc.1
theorem DK.keep {w wr wr':World}{B c:Nat}{uR uV:Value}{rs vs:List Int}(h:DK w wr B c uR uV rs vs)(k:AC wr wr'):DK w wr' B c uR uV rs vs where
 dr:=h.dr.Pj k
 res:=(KAW k _ (by have:=h.lt;omega)).trans h.res
 box:=(KAW k _ h.lt).trans h.box
 R:=h.R.keep k
 V:=h.V.keep k
 ap:=h.ap
 hc:=h.hc
 hB:=h.hB
theorem DK.step {w wr wr':World}{B c:Nat}{uR uV:Value}{rs vs:List Int}(h:DK w wr B c uR uV rs vs)(cu:Hu wr' B c)(g:wr.grownBy wr' (some c)):DK w wr' B c uR uV rs vs where
 dr:=h.dr.step cu g
 res:=(g.block _ (by have:=h.lt;omega) (fun e=>by have:=KAI e;have:=h.hc;omega)).trans h.res
 box:=(g.block _ h.lt (fun e=>by have:=KAI e;have:=h.hc;omega)).trans h.box
 R:=h.R.BZ (by have:=h.hc;omega) g
 V:=h.V.BZ (by have:=h.hc;omega) g
 ap:=h.ap
 hc:=h.hc
 hB:=h.hB
theorem DK.cells {w wr:World}{B c:Nat}{uR uV:Value}{rs vs:List Int}(h:DK w wr B c uR uV rs vs):
  wr.cell? ⟨w.heap.size+1,0,none⟩=some uR/\wr.cell? ⟨w.heap.size+1,1,none⟩=some uV:=
 ⟨KAL wr _ 0 _ _ (0,0) h.box,KAL wr _ 1 _ _ (0,0) h.box⟩
theorem Mm {w:World}{base D:Nat}{v:Value}{zs:List Int}(h:A8 w base v zs)(hD:D<base):some D≠v.ownBlock:=fun e=>by have:=h.ge D e.symm;omega
theorem DK.NO {w wr wb:World}{B c:Nat}{uR uV:Value}{rs vs:List Int}(h:DK w wr B c uR uV rs vs)(g:wr.grownBy wb uR.ownBlock):wb.heap[w.heap.size+1]? = some (Cp uR uV):=(g.block _ h.lt (Mm h.R (by omega))).trans h.box
theorem DK.NP {w wr wb:World}{B c:Nat}{uR uV:Value}{rs vs:List Int}(h:DK w wr B c uR uV rs vs)(g:wr.grownBy wb uV.ownBlock):wb.heap[w.heap.size+1]? = some (Cp uR uV):=(g.block _ h.lt (Mm h.V (by omega))).trans h.box
theorem DK.LF {w wa wb:World}{B c:Nat}{uR uV u:Value}{rs vs:List Int}{x:Int}(h1:DK w wa B c uR uV rs vs)(o:A8 wb (w.heap.size+2) u (rs++[x]))(g:wa.grownBy wb uR.ownBlock)(hb:u.ownBlock=uR.ownBlock\/u.ownBlock=some wa.heap.size):
  DK w (wb.setCell ⟨w.heap.size+1,0,none⟩ u) B c u uV (rs++[x]) vs:=by
 have hl:=h1.lt;have hc:=h1.hc;have g3:=Cv wb (w.heap.size+1) 0 u
 have oV:A8 wb (w.heap.size+2) uV vs:=KAs h1.V g (by
  rcases h1.ap with e|e
  . rw[e];cases uV.ownBlock<;>simp
  . exact .inr (fun q=>e q.symm))
 refine⟨(h1.dr.jA g (fun q hq=>by have:=h1.R.ge q hq;omega) h1.hc h1.hB).set (by omega) h1.hc h1.hB 0 u,?_,?_,o.BZ (by omega) g3,oV.BZ (by omega) g3,?_,hc,h1.hB⟩
 . exact (g3.block _ (by have:=g.size;omega) (by simp)).trans ((g.block _ (by omega) (Mm h1.R (by omega))).trans h1.res)
 . rw[KAt wb _ 0 _ _ _ (h1.NO g)];rfl
 ·
  rcases hb with e|e
  . rw[e];exact h1.ap
  ·
   refine .inr (fun q=>?_);have:=(KAY h1.V _ (q.symm.trans e)).2;omega
theorem DK.Vz {w wa wb:World}{B c:Nat}{uR uV u:Value}{rs vs:List Int}{x:Int}(h1:DK w wa B c uR uV rs vs)(o:A8 wb (w.heap.size+2) u (vs++[x]))(g:wa.grownBy wb uV.ownBlock)(hb:u.ownBlock=uV.ownBlock\/u.ownBlock=some wa.heap.size):
  DK w (wb.setCell ⟨w.heap.size+1,1,none⟩ u) B c uR u rs (vs++[x]):=by
 have hl:=h1.lt;have hc:=h1.hc;have g3:=Cv wb (w.heap.size+1) 1 u;have oR:A8 wb (w.heap.size+2) uR rs:=KAs h1.R g h1.ap;refine⟨(h1.dr.jA g (fun q hq=>by have:=h1.V.ge q hq;omega) h1.hc h1.hB).set (by omega) h1.hc h1.hB 1 u,?_,?_,oR.BZ (by omega) g3,o.BZ (by omega) g3,?_,hc,h1.hB⟩
 . exact (g3.block _ (by have:=g.size;omega) (by simp)).trans ((g.block _ (by omega) (Mm h1.V (by omega))).trans h1.res)
 . rw[KAt wb _ 1 _ _ _ (h1.NP g)];rfl
 ·
  rcases hb with e|e
  . rw[e];exact h1.ap
  ·
   cases hu:uR.ownBlock with
   |none=>exact .inl rfl
   |some q=>exact .inr (fun q'=>by have:=(KAY h1.R _ hu).2;rw[e] at q';have:=KAI q';omega)
theorem Ve (l:List Int)(q:Nat)(h:q<l.length):∃y,(l.map (Value.int .i64))[q]? = some (.int .i64 y):=⟨l[q],by simp[h]⟩
theorem MH (w:World)(B c:Nat)(hc:Hu w B c)(reads:Int)(h0:0<=reads)(h1:reads<=12):
  Calls Tryz.prog 27 #[.pointer (some ⟨c,0,none⟩),.int .i64 reads] w fun e w'=>∃uR uV rs vs,e = .returned (.agg #[uR,uV])/\A8 w' (w.heap.size+2) uR rs/\A8 w' (w.heap.size+2) uV vs/\rs.length<=4/\vs.length<=4/\Dr w w' B c:=by
 have D0:=DK.start w B c hc;obtain⟨wA,Ho⟩:∃W:World,W=(w.alloc (Cp Ac Ac)).alloc (Cp Ac Ac):=⟨_,rfl⟩;rw[<-Ho] at D0;have zM:=AI D0;clear D0;obtain⟨i0,hi0,hz0,hz1,hz2⟩:=KA3 Tryz.FM;go_enter Tryz.func27,Tryz.ntmps27
 go_upto_region 2 with fail
 rw[show ((w.alloc (.cells #[.slice none 0 0,.slice none 0 0] 27)).alloc (.cells #[.slice none 0 0,.slice none 0 0] 27))=wA from Ho.symm];clear Ho;go_wp2_with fail
 refine (Al _ B c 4 zM.out.dr.1 (by omega)).mono ?_;rintro e w1 ⟨n0,rfl,n1,n2,yH,g1⟩;have D1:=AI (zM.out.step yH g1);obtain⟨m0,rfl⟩:=KAn n1;clear yH g1 zM;go_upto_region 3 with fail
 go_loopw [6,7] (fun s6 s7 wr=>∃(k:Nat) (uR uV:Value) (rs vs:List Int),s6 = .int .i64 k/\k<=m0/\(∃u,s7=u)/\rs.length+k<=3/\vs.length+k<=3/\Hid (DK w wr B c uR uV rs vs)) (fun s6 _ _=>(intOf s6).toNat)
 case atStart=>exact⟨m0,_,_,[],[],rfl,KAM _,⟨_,rfl⟩,by simp;omega,by simp;omega,D1⟩
 case round=>
  obtain⟨k,uR,uV,rs,vs,rfl,hk,⟨u7,rfl⟩,hrs,hvs,D⟩:=hrel;by_cases hk0:0<k
  ·
   have kp:(0:Int)<(k:Int):=by omega
   go_wp2_with fail
   refine (Al _ B c 3 D.out.dr.1 (by omega)).mono ?_;rintro e w2 ⟨x,rfl,x0,x1,yI,g2⟩;have D2:=AI (D.out.step yI g2);have hw1:IntKind.i64.wrap (100+x)=100+x:=by rw[KAk];omega
   clear yI g2 D;by_cases hr0:0<reads
   ·
    go_wp2_with fail
    refine (EU _ B c 2 D2.out.dr.1 (by omega)).mono ?_;rintro e w3 ⟨b,rfl,cu3,g3⟩;have D3:=AI (D2.out.step cu3 g3);clear cu3 g3 D2;cases b
    ·
     obtain⟨at_,hat⟩:∃q,q=100+x:=⟨_,rfl⟩;go_upto_region 8 with fail
     rw[<-hat];clear hat hw1;obtain⟨b0,b1⟩:=D3.out.cells;have hN:=KAX w3 (.cells #[.int .i64 at_] 2);obtain⟨wn,hwn⟩:∃W:World,W=w3.alloc (.cells #[.int .i64 at_] 2):=⟨_,rfl⟩;have kn:AC w3 wn:=by rw[hwn];exact (AC.refl _).alloc _
     rw[<-hwn] at hN;have sN:wn.heap.size=w3.heap.size+1:=by rw[hwn,AD]
     have DN:=AI (D3.out.keep kn);have hrow:wn.ownsRow (w.heap.size+2) 2 1 uR rs.length (rs.map (Value.int .i64)):=DN.out.R;have hbs:w.heap.size+2<=wn.heap.size:=by have:=DN.out.lt;omega
     go_wp2_with ((at_builtin;rw[<-hwn];refine KAe _ rfl _ _ 25 rfl (w.heap.size+2) 2 i0 (.int .i64 0) 1 8 Tryz.underlying25 hi0 hz0 hz1 hz2 rfl (by decide) _ _ _ rfl hrow ⟨w3.heap.size,0,none⟩ 1 1 [.int .i64 at_] rfl rfl (KBe (cs:=#[.int .i64 at_]) (t:=2) (fr:=(0,0)) hN) (by simp[Value.oneCell']) ?e3 ?e4 ?e5 ?_))
     case e3=>unfold maxLen;omega
     case e4=>omega
     case e5=>first|exact hbs|omega
     intro vA wB hown hgrow _ hblk;rw[<-hwn] at hgrow;have oA:=B8 hown;have Bx:=DN.out.NO hgrow;have qA:=KAL wB _ 0 _ _ (0,0) Bx;have fA:=KA1 wB _ 0 _ _ Bx;have DA:=AI (DN.out.LF oA hgrow (by rw[sN];exact hblk));obtain⟨aA,cA,vE,-⟩:=oA.rd;subst vE;obtain⟨mA,mQ⟩:∃m,m=(rs++[at_]).length:=⟨_,rfl⟩;rw[<-mQ] at DA ⊢;obtain⟨rs2,hrs2⟩:∃r,r=rs++[at_]:=⟨_,rfl⟩;have HR2:Hid (rs2.length=rs.length+1):=AI (by rw[hrs2];simp);rw[<-hrs2] at DA;clear sN hown hgrow hblk oA Bx hrow hN hwn kn b0 b1 hbs DN mQ hrs2;obtain⟨wC,Se⟩:∃W:World,W=wB.setCell ⟨w.heap.size+1,0,none⟩ (.slice aA mA cA):=⟨_,rfl⟩;rw[<-Se] at DA;go_upto_region 9 with fail
     rw[<-Se];clear Se qA fA;obtain⟨b0,b1⟩:=DA.out.cells;have CU:Hu wC.drew B c:=DA.out.dr.1.keep (AC.refl wC).drew;have e0:wC.drew.cell? ⟨w.heap.size+1,1,none⟩=some uV:=b1;clear b0;have kw:IntKind.i64.wrap ((k:Int)-1)=((k-1:Nat):Int):=by rw[KAk];omega
     go_wp2_with fail
     go_region_law ((first
      | (go_simp;refine (Al _ B c 3 CU (by omega)).mono ?_;rintro e wq ⟨y,rfl,y0,y1,cq,gq⟩;have DQ:=AI ((DA.out.keep (AC.refl wC).drew).step cq gq);have e1:wq.cell? ⟨w.heap.size+1,1,none⟩=some uV:=DQ.out.cells.2;have e2:(wq.alloc (.cells #[.int .i64 y] 2)).cell? ⟨w.heap.size+1,1,none⟩=some uV:=(DQ.out.keep ((AC.refl wq).alloc _)).cells.2;have oQ:(wq.alloc (.cells #[.int .i64 y] 2)).ownsRow (w.heap.size+2) 2 1 uV vs.length (vs.map (Value.int .i64)):=(DQ.out.keep ((AC.refl wq).alloc _)).V;have sQ:w.heap.size+2<=(wq.alloc (.cells #[.int .i64 y] 2)).heap.size:=by have:=DQ.out.lt;rw[AD];omega)
      | (refine Bf rfl (.tmp 34) (.tmp 37) 25 rfl (w.heap.size+2) 2 i0 (.int .i64 0) 1 8 Tryz.underlying25 hi0 hz0 hz1 hz2 rfl (by decide) uV vs.length (vs.map (Value.int .i64)) rfl oQ ⟨_,0,none⟩ 1 1 [.int .i64 y] rfl rfl (fun j u hj=>by match j,hj with|0,hj=>simp at hj;subst hj;simp[Addr.add]) (fun u hu=>by simp at hu;subst hu;rfl) (by unfold maxLen;omega) (by omega) sQ ?_;intro vB wE hown hgrow hblk;have oB:=B8 hown;have Bx:=(DQ.out.keep ((AC.refl wq).alloc _)).NP hgrow;have qB:=KAL wE _ 1 _ _ (0,0) Bx;have fB:=KA1 wE _ 1 _ _ Bx;have DB:=AI ((DQ.out.keep ((AC.refl wq).alloc _)).Vz oB hgrow hblk);obtain⟨aB,cB,hvB,-⟩:=oB.rd;rw[KAJ,KA5] at hvB;subst hvB;clear hown hgrow hblk oB Bx)))
     all_goals
      go_wp2;go_roundw;case rel=>exact⟨k-1,_,_,rs2,vs++[y],by go_num,by omega,⟨_,rfl⟩,by rw[HR2.out];omega,by simp;omega,DB⟩
      case measure=>simp[intOf];omega
    ·
     go_wp2_with fail
     refine (Al _ B c reads D3.out.dr.1 (by omega)).mono ?_;rintro e w4 ⟨at_,rfl,a0,a1,cu4,g4⟩;have D4:=AI (D3.out.step cu4 g4);clear cu4 g4 D3 hw1 a0 a1;obtain⟨b0,b1⟩:=D4.out.cells;have hN:=KAX w4 (.cells #[.int .i64 at_] 2);obtain⟨wn,hwn⟩:∃W:World,W=w4.alloc (.cells #[.int .i64 at_] 2):=⟨_,rfl⟩;have kn:AC w4 wn:=by rw[hwn];exact (AC.refl _).alloc _
     rw[<-hwn] at hN;have sN:wn.heap.size=w4.heap.size+1:=by rw[hwn,AD]
     have DN:=AI (D4.out.keep kn);have hrow:wn.ownsRow (w.heap.size+2) 2 1 uR rs.length (rs.map (Value.int .i64)):=DN.out.R;have hbs:w.heap.size+2<=wn.heap.size:=by have:=DN.out.lt;omega
     go_wp2_with ((at_builtin;rw[<-hwn];refine KAe _ rfl _ _ 25 rfl (w.heap.size+2) 2 i0 (.int .i64 0) 1 8 Tryz.underlying25 hi0 hz0 hz1 hz2 rfl (by decide) _ _ _ rfl hrow ⟨w4.heap.size,0,none⟩ 1 1 [.int .i64 at_] rfl rfl (KBe (cs:=#[.int .i64 at_]) (t:=2) (fr:=(0,0)) hN) (by simp[Value.oneCell']) ?e3 ?e4 ?e5 ?_))
     case e3=>unfold maxLen;omega
     case e4=>omega
     case e5=>first|exact hbs|omega
     intro vA wB hown hgrow _ hblk;rw[<-hwn] at hgrow;have oA:=B8 hown;have Bx:=DN.out.NO hgrow;have qA:=KAL wB _ 0 _ _ (0,0) Bx;have fA:=KA1 wB _ 0 _ _ Bx;have DA:=AI (DN.out.LF oA hgrow (by rw[sN];exact hblk));obtain⟨aA,cA,vE,-⟩:=oA.rd;subst vE;obtain⟨mA,mQ⟩:∃m,m=(rs++[at_]).length:=⟨_,rfl⟩;rw[<-mQ] at DA ⊢;obtain⟨rs2,hrs2⟩:∃r,r=rs++[at_]:=⟨_,rfl⟩;have HR2:Hid (rs2.length=rs.length+1):=AI (by rw[hrs2];simp);rw[<-hrs2] at DA;clear sN hown hgrow hblk oA Bx hrow hN hwn kn b0 b1 hbs DN mQ hrs2;obtain⟨wC,Se⟩:∃W:World,W=wB.setCell ⟨w.heap.size+1,0,none⟩ (.slice aA mA cA):=⟨_,rfl⟩;rw[<-Se] at DA;go_upto_region 9 with fail
     rw[<-Se];clear Se qA fA;obtain⟨b0,b1⟩:=DA.out.cells;have CU:Hu wC.drew B c:=DA.out.dr.1.keep (AC.refl wC).drew;have e0:wC.drew.cell? ⟨w.heap.size+1,1,none⟩=some uV:=b1;clear b0;have kw:IntKind.i64.wrap ((k:Int)-1)=((k-1:Nat):Int):=by rw[KAk];omega
     go_wp2_with fail
     go_region_law ((first
      | (go_simp;refine (Al _ B c 3 CU (by omega)).mono ?_;rintro e wq ⟨y,rfl,y0,y1,cq,gq⟩;have DQ:=AI ((DA.out.keep (AC.refl wC).drew).step cq gq);have e1:wq.cell? ⟨w.heap.size+1,1,none⟩=some uV:=DQ.out.cells.2;have e2:(wq.alloc (.cells #[.int .i64 y] 2)).cell? ⟨w.heap.size+1,1,none⟩=some uV:=(DQ.out.keep ((AC.refl wq).alloc _)).cells.2;have oQ:(wq.alloc (.cells #[.int .i64 y] 2)).ownsRow (w.heap.size+2) 2 1 uV vs.length (vs.map (Value.int .i64)):=(DQ.out.keep ((AC.refl wq).alloc _)).V;have sQ:w.heap.size+2<=(wq.alloc (.cells #[.int .i64 y] 2)).heap.size:=by have:=DQ.out.lt;rw[AD];omega)
      | (refine Bf rfl (.tmp 34) (.tmp 37) 25 rfl (w.heap.size+2) 2 i0 (.int .i64 0) 1 8 Tryz.underlying25 hi0 hz0 hz1 hz2 rfl (by decide) uV vs.length (vs.map (Value.int .i64)) rfl oQ ⟨_,0,none⟩ 1 1 [.int .i64 y] rfl rfl (fun j u hj=>by match j,hj with|0,hj=>simp at hj;subst hj;simp[Addr.add]) (fun u hu=>by simp at hu;subst hu;rfl) (by unfold maxLen;omega) (by omega) sQ ?_;intro vB wE hown hgrow hblk;have oB:=B8 hown;have Bx:=(DQ.out.keep ((AC.refl wq).alloc _)).NP hgrow;have qB:=KAL wE _ 1 _ _ (0,0) Bx;have fB:=KA1 wE _ 1 _ _ Bx;have DB:=AI ((DQ.out.keep ((AC.refl wq).alloc _)).Vz oB hgrow hblk);obtain⟨aB,cB,hvB,-⟩:=oB.rd;rw[KAJ,KA5] at hvB;subst hvB;clear hown hgrow hblk oB Bx)))
     all_goals
      go_wp2;go_roundw;case rel=>exact⟨k-1,_,_,rs2,vs++[y],by go_num,by omega,⟨_,rfl⟩,by rw[HR2.out];omega,by simp;omega,DB⟩
      case measure=>simp[intOf];omega
   ·
    obtain⟨at_,hat⟩:∃q,q=100+x:=⟨_,rfl⟩;go_upto_region 8 with fail
    rw[<-hat];clear hat hw1;obtain⟨b0,b1⟩:=D2.out.cells;have hN:=KAX w2 (.cells #[.int .i64 at_] 2);obtain⟨wn,hwn⟩:∃W:World,W=w2.alloc (.cells #[.int .i64 at_] 2):=⟨_,rfl⟩;have kn:AC w2 wn:=by rw[hwn];exact (AC.refl _).alloc _
    rw[<-hwn] at hN;have sN:wn.heap.size=w2.heap.size+1:=by rw[hwn,AD]
    have DN:=AI (D2.out.keep kn);have hrow:wn.ownsRow (w.heap.size+2) 2 1 uR rs.length (rs.map (Value.int .i64)):=DN.out.R;have hbs:w.heap.size+2<=wn.heap.size:=by have:=DN.out.lt;omega
    go_wp2_with ((at_builtin;rw[<-hwn];refine KAe _ rfl _ _ 25 rfl (w.heap.size+2) 2 i0 (.int .i64 0) 1 8 Tryz.underlying25 hi0 hz0 hz1 hz2 rfl (by decide) _ _ _ rfl hrow ⟨w2.heap.size,0,none⟩ 1 1 [.int .i64 at_] rfl rfl (KBe (cs:=#[.int .i64 at_]) (t:=2) (fr:=(0,0)) hN) (by simp[Value.oneCell']) ?e3 ?e4 ?e5 ?_))
    case e3=>unfold maxLen;omega
    case e4=>omega
    case e5=>first|exact hbs|omega
    intro vA wB hown hgrow _ hblk;rw[<-hwn] at hgrow;have oA:=B8 hown;have Bx:=DN.out.NO hgrow;have qA:=KAL wB _ 0 _ _ (0,0) Bx;have fA:=KA1 wB _ 0 _ _ Bx;have DA:=AI (DN.out.LF oA hgrow (by rw[sN];exact hblk));obtain⟨aA,cA,vE,-⟩:=oA.rd;subst vE;obtain⟨mA,mQ⟩:∃m,m=(rs++[at_]).length:=⟨_,rfl⟩;rw[<-mQ] at DA ⊢;obtain⟨rs2,hrs2⟩:∃r,r=rs++[at_]:=⟨_,rfl⟩;have HR2:Hid (rs2.length=rs.length+1):=AI (by rw[hrs2];simp);rw[<-hrs2] at DA;clear sN hown hgrow hblk oA Bx hrow hN hwn kn b0 b1 hbs DN mQ hrs2;obtain⟨wC,Se⟩:∃W:World,W=wB.setCell ⟨w.heap.size+1,0,none⟩ (.slice aA mA cA):=⟨_,rfl⟩;rw[<-Se] at DA;go_upto_region 9 with fail
    rw[<-Se];clear Se qA fA;obtain⟨b0,b1⟩:=DA.out.cells;have CU:Hu wC.drew B c:=DA.out.dr.1.keep (AC.refl wC).drew;have e0:wC.drew.cell? ⟨w.heap.size+1,1,none⟩=some uV:=b1;clear b0;have kw:IntKind.i64.wrap ((k:Int)-1)=((k-1:Nat):Int):=by rw[KAk];omega
    go_wp2_with fail
    go_region_law ((first
     | (go_simp;refine (Al _ B c 3 CU (by omega)).mono ?_;rintro e wq ⟨y,rfl,y0,y1,cq,gq⟩;have DQ:=AI ((DA.out.keep (AC.refl wC).drew).step cq gq);have e1:wq.cell? ⟨w.heap.size+1,1,none⟩=some uV:=DQ.out.cells.2;have e2:(wq.alloc (.cells #[.int .i64 y] 2)).cell? ⟨w.heap.size+1,1,none⟩=some uV:=(DQ.out.keep ((AC.refl wq).alloc _)).cells.2;have oQ:(wq.alloc (.cells #[.int .i64 y] 2)).ownsRow (w.heap.size+2) 2 1 uV vs.length (vs.map (Value.int .i64)):=(DQ.out.keep ((AC.refl wq).alloc _)).V;have sQ:w.heap.size+2<=(wq.alloc (.cells #[.int .i64 y] 2)).heap.size:=by have:=DQ.out.lt;rw[AD];omega)
     | (refine Bf rfl (.tmp 34) (.tmp 37) 25 rfl (w.heap.size+2) 2 i0 (.int .i64 0) 1 8 Tryz.underlying25 hi0 hz0 hz1 hz2 rfl (by decide) uV vs.length (vs.map (Value.int .i64)) rfl oQ ⟨_,0,none⟩ 1 1 [.int .i64 y] rfl rfl (fun j u hj=>by match j,hj with|0,hj=>simp at hj;subst hj;simp[Addr.add]) (fun u hu=>by simp at hu;subst hu;rfl) (by unfold maxLen;omega) (by omega) sQ ?_;intro vB wE hown hgrow hblk;have oB:=B8 hown;have Bx:=(DQ.out.keep ((AC.refl wq).alloc _)).NP hgrow;have qB:=KAL wE _ 1 _ _ (0,0) Bx;have fB:=KA1 wE _ 1 _ _ Bx;have DB:=AI ((DQ.out.keep ((AC.refl wq).alloc _)).Vz oB hgrow hblk);obtain⟨aB,cB,hvB,-⟩:=oB.rd;rw[KAJ,KA5] at hvB;subst hvB;clear hown hgrow hblk oB Bx)))
    all_goals
     go_wp2;go_roundw;case rel=>exact⟨k-1,_,_,rs2,vs++[y],by go_num,by omega,⟨_,rfl⟩,by rw[HR2.out];omega,by simp;omega,DB⟩
     case measure=>simp[intOf];omega
  ·
   have kp:¬(0:Int)<(k:Int):=by omega
   go_wp2_with fail
   refine (EU _ B c 12 D.out.dr.1 (by omega)).mono ?_;rintro e w5 ⟨b,rfl,cu5,g5⟩;have D5:=AI (D.out.step cu5 g5);clear cu5 g5 D D1;cases b
   ·
    have SR:KL w5 w5 w.heap.size Ac Ac:=⟨D5.out.res,KBW _ _⟩;obtain⟨r0,r1⟩:=SR.cells;have g0:=SR.free 0;have g1:=SR.free 1;obtain⟨b0,b1⟩:=D5.out.cells;obtain⟨aR,cR,hR,-⟩:=D5.out.R.rd;obtain⟨aV,cV,hV,-⟩:=D5.out.V.rd;obtain⟨nR,hnR⟩:∃m,m=(rs).length:=⟨_,rfl⟩;obtain⟨nV,uz⟩:∃m,m=(vs).length:=⟨_,rfl⟩;rw[<-hnR] at hR;rw[<-uz] at hV;rw[hR,hV] at D5;rw[hR] at b0;rw[hV] at b1;have zT:Hid ((rs).length<=4):=AI (by omega);have zU:Hid ((vs).length<=4):=AI (by omega);clear hnR uz hR hV;go_wp2;have hZ:=(SR.set0 (.slice aR nR cR)).set1 (.slice aV nV cV);refine KA7 (Aw (by rfl) _ _ w.heap.size _ _ (0,0) _ rfl hZ.1 Tryz.underlying27 rfl (by kernel_rfl)) rfl ?_;exact⟨_,_,rs,vs,rfl,D5.out.R.BZ (by omega) hZ.2,D5.out.V.BZ (by omega) hZ.2,zT.out,zU.out,(D5.out.dr.set (KAM _) D5.out.hc D5.out.hB 0 _).set (KAM _) D5.out.hc D5.out.hB 1 _⟩
   ·
    go_upto_region 11 with fail
    go_cut [7] from 42 (fun s7 wx=>(∃u,s7=u)/\∃(u:Value) (y:Int),Hid (DK w wx B c u uV (rs++[y]) vs))
    case first=>
     have CA:Hu (w5.alloc (.cells #[.int .i64 (-1),.int .i64 6,.int .i64 99,.int .i64 103] 2)).drew B c:=D5.out.dr.1.keep (((AC.refl w5).alloc _).drew);have C0:Hu w5.drew B c:=D5.out.dr.1.keep (AC.refl w5).drew;have e0:w5.drew.cell? ⟨w.heap.size+1,0,none⟩=some uR:=D5.out.cells.1;have eA:(w5.alloc (.cells #[.int .i64 (-1),.int .i64 6,.int .i64 99,.int .i64 103] 2)).drew.cell? ⟨w.heap.size+1,0,none⟩=some uR:=(D5.out.keep (((AC.refl w5).alloc _).drew)).cells.1;have hcw:c<w5.heap.size:=by have:=D5.out.lt;have:=D5.out.hc;omega
     go_wp2_with fail
     go_region_law ((first
       | (go_simp;refine (Al _ B c 4 CA (by omega)).mono ?_;rintro e wq ⟨z,rfl,z0,z1,cq,gq⟩;have g7:=Ak (G6 (w5.alloc (.cells #[.int .i64 (-1),.int .i64 6,.int .i64 99,.int .i64 103] 2)) (some c)) gq;obtain⟨q,rfl⟩:=KAn z0;obtain⟨y,hy⟩:=Ks (w1:=w5) (e:=2) [-1,6,99,103] g7 (by simp;omega) q (by simp;omega);have DL:=AI ((D5.out.keep (((AC.refl w5).alloc (.cells #[.int .i64 (-1),.int .i64 6,.int .i64 99,.int .i64 103] 2)).drew)).step cq gq);have e1:=DL.out.cells.1;have DZ:=AI (DL.out.keep ((AC.refl _).alloc (.cells #[.int .i64 y] 2)));have eZ:=DZ.out.cells.1;have oQ:=DZ.out.R;have sQ:w.heap.size+2<=_:=KC9 DZ.out.lt)
       | (go_simp;refine (Al _ B c 4 C0 (by omega)).mono ?_;rintro e wq ⟨z,rfl,z0,z1,cq,gq⟩;obtain⟨q,rfl⟩:=KAn z0;obtain⟨y,hy0⟩:=Ve [-1,6,99,103] q (by simp;omega);have hy:([.int .i64 (-1),.int .i64 6,.int .i64 99,.int .i64 103]:List Value)[q]? = some (.int .i64 y):=hy0;have DQ:=AI ((D5.out.keep (AC.refl w5).drew).step cq gq);have e1:=DQ.out.cells.1;have DL:=AI (DQ.out.keep ((AC.refl wq).alloc (.cells #[.int .i64 (-1),.int .i64 6,.int .i64 99,.int .i64 103] 2)));have e2:=DL.out.cells.1;have DZ:=AI (DL.out.keep ((AC.refl _).alloc (.cells #[.int .i64 y] 2)));have eZ:=DZ.out.cells.1;have oQ:=DZ.out.R;have sQ:w.heap.size+2<=_:=KC9 DZ.out.lt)
       | (refine Bf rfl (.tmp 43) (.tmp 49) 25 rfl (w.heap.size+2) 2 i0 (.int .i64 0) 1 8 Tryz.underlying25 hi0 hz0 hz1 hz2 rfl (by decide) uR (rs).length ((rs).map (Value.int .i64)) rfl oQ ⟨_,0,none⟩ 1 1 [.int .i64 y] rfl rfl (fun j u hj=>by match j,hj with|0,hj=>simp at hj;subst hj;simp[Addr.add]) (fun u hu=>by simp at hu;subst hu;rfl) (by unfold maxLen;omega) (by omega) sQ ?_;intro vB wE hown hgrow hblk;have oB:=B8 hown;have Bx:=DZ.out.NO hgrow;have qB:=KAL wE _ 0 _ _ (0,0) Bx;have fB:=KA1 wE _ 0 _ _ Bx;have DB:=AI (DZ.out.LF oB hgrow hblk);obtain⟨aB,cB,hvB,-⟩:=oB.rd;rw[KAJ,KA5] at hvB;subst hvB;clear hown hgrow hblk oB Bx)))
     all_goals
      go_wp2;go_meet;case rel=>exact⟨⟨_,rfl⟩,_,y,DB⟩
    case rest=>
     obtain⟨⟨u8,rfl⟩,u2,y1,D6⟩:=hcut;obtain⟨w6,hw6⟩:∃W:World,W=wc:=⟨_,rfl⟩;rw[<-hw6] at D6 ⊢;clear hw6 D5;have CA:Hu (w6.alloc (.cells #[.int .i64 0,.int .i64 9,.int .i64 10] 2)).drew B c:=D6.out.dr.1.keep (((AC.refl w6).alloc _).drew);have C0:Hu w6.drew B c:=D6.out.dr.1.keep (AC.refl w6).drew;have e0:w6.drew.cell? ⟨w.heap.size+1,1,none⟩=some uV:=D6.out.cells.2;have eA:(w6.alloc (.cells #[.int .i64 0,.int .i64 9,.int .i64 10] 2)).drew.cell? ⟨w.heap.size+1,1,none⟩=some uV:=(D6.out.keep (((AC.refl w6).alloc _).drew)).cells.2;have hcw:c<w6.heap.size:=by have:=D6.out.lt;have:=D6.out.hc;omega
     go_wp2_with fail
     go_region_law ((first
       | (go_simp;refine (Al _ B c 3 CA (by omega)).mono ?_;rintro e wq ⟨z,rfl,z0,z1,cq,gq⟩;have g7:=Ak (G6 (w6.alloc (.cells #[.int .i64 0,.int .i64 9,.int .i64 10] 2)) (some c)) gq;obtain⟨q,rfl⟩:=KAn z0;obtain⟨y,hy⟩:=Ks (w1:=w6) (e:=2) [0,9,10] g7 (by simp;omega) q (by simp;omega);have DL:=AI ((D6.out.keep (((AC.refl w6).alloc (.cells #[.int .i64 0,.int .i64 9,.int .i64 10] 2)).drew)).step cq gq);have e1:=DL.out.cells.2;have DZ:=AI (DL.out.keep ((AC.refl _).alloc (.cells #[.int .i64 y] 2)));have eZ:=DZ.out.cells.2;have oQ:=DZ.out.V;have sQ:w.heap.size+2<=_:=KC9 DZ.out.lt)
       | (go_simp;refine (Al _ B c 3 C0 (by omega)).mono ?_;rintro e wq ⟨z,rfl,z0,z1,cq,gq⟩;obtain⟨q,rfl⟩:=KAn z0;obtain⟨y,hy0⟩:=Ve [0,9,10] q (by simp;omega);have hy:([.int .i64 0,.int .i64 9,.int .i64 10]:List Value)[q]? = some (.int .i64 y):=hy0;have DQ:=AI ((D6.out.keep (AC.refl w6).drew).step cq gq);have e1:=DQ.out.cells.2;have DL:=AI (DQ.out.keep ((AC.refl wq).alloc (.cells #[.int .i64 0,.int .i64 9,.int .i64 10] 2)));have e2:=DL.out.cells.2;have DZ:=AI (DL.out.keep ((AC.refl _).alloc (.cells #[.int .i64 y] 2)));have eZ:=DZ.out.cells.2;have oQ:=DZ.out.V;have sQ:w.heap.size+2<=_:=KC9 DZ.out.lt)
       | (refine Bf rfl (.tmp 53) (.tmp 59) 25 rfl (w.heap.size+2) 2 i0 (.int .i64 0) 1 8 Tryz.underlying25 hi0 hz0 hz1 hz2 rfl (by decide) uV (vs).length ((vs).map (Value.int .i64)) rfl oQ ⟨_,0,none⟩ 1 1 [.int .i64 y] rfl rfl (fun j u hj=>by match j,hj with|0,hj=>simp at hj;subst hj;simp[Addr.add]) (fun u hu=>by simp at hu;subst hu;rfl) (by unfold maxLen;omega) (by omega) sQ ?_;intro vB wE hown hgrow hblk;have oB:=B8 hown;have Bx:=DZ.out.NP hgrow;have qB:=KAL wE _ 1 _ _ (0,0) Bx;have fB:=KA1 wE _ 1 _ _ Bx;have DB:=AI (DZ.out.Vz oB hgrow hblk);obtain⟨aB,cB,hvB,-⟩:=oB.rd;rw[KAJ,KA5] at hvB;subst hvB;clear hown hgrow hblk oB Bx)))
     all_goals
      obtain⟨wF,hwF⟩:∃W:World,W=wE.setCell ⟨w.heap.size+1,1,none⟩ (.slice aB (vs.length+1) cB):=⟨_,rfl⟩;rw[<-hwF] at DB;go_upto_region 13 with fail
      rw[<-hwF];clear hwF;have SR:KL wF wF w.heap.size Ac Ac:=⟨DB.out.res,KBW _ _⟩;obtain⟨r0,r1⟩:=SR.cells;have g0:=SR.free 0;have g1:=SR.free 1;obtain⟨b0,b1⟩:=DB.out.cells;obtain⟨aR,cR,hR,-⟩:=DB.out.R.rd;obtain⟨aV,cV,hV,-⟩:=DB.out.V.rd;obtain⟨nR,hnR⟩:∃m,m=(rs++[y1]).length:=⟨_,rfl⟩;obtain⟨nV,uz⟩:∃m,m=(vs++[y]).length:=⟨_,rfl⟩;rw[<-hnR] at hR;rw[<-uz] at hV;rw[hR,hV] at DB;rw[hR] at b0;rw[hV] at b1;have zT:Hid ((rs++[y1]).length<=4):=AI (by simp;omega);have zU:Hid ((vs++[y]).length<=4):=AI (by simp;omega);clear hnR uz hR hV;go_wp2;have hZ:=(SR.set0 (.slice aR nR cR)).set1 (.slice aV nV cV);refine KA7 (Aw (by rfl) _ _ w.heap.size _ _ (0,0) _ rfl hZ.1 Tryz.underlying27 rfl (by kernel_rfl)) rfl ?_;exact⟨_,_,rs++[y1],vs++[y],rfl,DB.out.R.BZ (by omega) hZ.2,DB.out.V.BZ (by omega) hZ.2,zT.out,zU.out,(DB.out.dr.set (KAM _) DB.out.hc DB.out.hB 0 _).set (KAM _) DB.out.hc DB.out.hB 1 _⟩
end Go.Proofs.YtflehmepjhikcaaGreatDoor
