/- Gathered texts. -/
import Derived.Test.YtkmjmnljkidobaaGreatML
import Derived.Lib.Hide
import Derived.Lib.SmallJoins
import Derived.Outline
import Derived.RegionTactic
import Derived.OwnWalk
import Derived.Deep.RegionHeld3
import Derived.Deep.QuietTactic
import Derived.BigQuiet
set_option maxRecDepth 100000
set_option maxHeartbeats 8000000
namespace Go.Proofs.YtkmjmnljkidobaaGreat
open Go.ChangeShapes Go.WideShapes Go.ChangeAt Go.RowKit
theorem markI_row (w:World)(a:Option Addr)(n cap:Nat)(k:Int)(hs:n=0∨∃b o,a=some ⟨b,o,none⟩)(hw:∀x,rowS (.slice a n cap) (n) x→Wb w x)(hn:n≤1048576)(h0:1≤k)(h1:k≤16777216):
  Calls Tryz.prog 60 #[.slice a n cap,.int .i64 k] w fun e w'=>e = .returned (.int .i64 (k+n))∧Wrt (rowS (.slice a n cap) (n)) w w'∧Mkd w' (.slice a n cap) (n) k:=by
 by_cases hz:n=0
 ·
  subst hz;clear hs hw;go_enter Tryz.func60,Tryz.ntmps60
  go_wp2;refine wp_loop_rounds 1 ?_;rw[rounds_succ];go_wp2;go_ret;exact⟨by simp,Wrt.refl _ _,fun b o l c i _ hi=>absurd hi (by omega)⟩
 ·
  obtain⟨b,o,rfl⟩:∃b o,a=some ⟨b,o,none⟩:=by
   rcases hs with h|h
   · exact absurd h hz
   · exact h
  have HS:=Lib.hid (fun (i:Nat) (hi:i<n)=>(show rowS (.slice (some ⟨b,o,none⟩) n cap) (n) ⟨b,o+i,none⟩ from ⟨b,o,n,cap,i,rfl,hi,rfl⟩));have HW:=Lib.hid hw;clear hs hw;generalize hS:rowS (.slice (some ⟨b,o,none⟩) n cap) (n)=S at HS HW ⊢;go_enter Tryz.func60,Tryz.ntmps60
  go_wp2;go_loopw [1,5] (fun q i wr=>∃j:Nat,j≤n∧i = .int .i64 j∧q = .int .i64 (k+(j:Int))∧Wrt S w wr∧Hid (∀i,i<j→wr.cell? ⟨b,o+i,none⟩=some (.int .i64 (k+(i:Int))))) (fun _ i _=>n-(intOf i).toNat)
  case atStart=>exact⟨0,Nat.zero_le _,rfl,by simp,Wrt.refl _ _,Lib.hid (fun i hi=>absurd hi (by omega))⟩
  case round=>
   obtain⟨j,hj,rfl,rfl,hG,hA⟩:=hrel;by_cases hlt:j<n
   ·
    have s0:S ⟨b,o+j,none⟩:=by have:=HS.out (j) (by omega);rw[show o+(j)=o+j by omega] at this;exact this
    have b0:=(HW.out _ s0).kept hG;obtain⟨u0,c0⟩:=b0.cell;have f0:=b0.free;have G:Wrt S w (wr.setCell ⟨b,o+j,none⟩ (.int .i64 (k+(j:Int)))):=(hG.set _ b0 s0)
    have HC:Hid (∀i,i<j+1→(wr.setCell ⟨b,o+j,none⟩ (.int .i64 (k+(j:Int)))).cell? ⟨b,o+i,none⟩=some (.int .i64 (k+(i:Int)))):=Lib.hid (fun i hi=>by
     by_cases e:i<j
     · rw[set_other _ (by omega)];exact hA.out i e
     ·
      obtain rfl:i=j:=by omega
      exact set_cell _ b0)
    clear hA hG b0 s0;have i1:(0:Int)≤(j:Int):=Int.natCast_nonneg _;have i2:(j:Int)<(n:Int):=by omega
    go_wp2;go_roundw;case rel=>exact⟨j+1,by omega,by go_num,by go_num,G,HC⟩
    case measure=>simp[intOf];omega
   ·
    have:j=n:=by omega
    subst this;go_wp2;go_ret;refine⟨rfl,hG,fun b' o' l c i e hi=>?_⟩;simp only[Value.slice.injEq,Option.some.injEq,Addr.mk.injEq,and_true] at e;obtain⟨⟨rfl,rfl⟩,rfl,rfl⟩:=e;exact hA.out i hi
theorem markII_rows (w:World)(v:Value)(V:Nat→Value)(ln:Nat→Nat)(n:Nat)(k:Int)(hv:∃a c,v = .slice a n c∧(n=0∨∃b o,a=some ⟨b,o,none⟩∧b<w.heap.size∧∀i,i<n→w.cell? ⟨b,o+i,none⟩=some (V i)∧¬rowsS (rowsV 1 V ln n) ⟨b,o+i,none⟩))
  (hV:∀i,i<n→SlV (V i) (ln i)) (hL:Loose w (rowsV 1 V ln n)) (hn:n≤1048576) (hl:∀i,i<n→ln i≤1048576) (h0:1≤k) (h1:k+totR (rowsV 1 V ln n)≤16777216):
  Calls Tryz.prog 30 #[v,.int .i64 k] w fun e w'=>e = .returned (.int .i64 (k+totR (rowsV 1 V ln n)))∧Wrt (rowsS (rowsV 1 V ln n)) w w'∧mkR w' k (rowsV 1 V ln n):=by
 obtain⟨a,cap,rfl,hv⟩:=hv;have HL:=Lib.hid hL;have HV:=Lib.hid hV;have HN:=Lib.hid hl;have HT:Hid (∀j,j≤n→k+totR (rowsV 1 V ln j)≤16777216):=Lib.hid (fun j hj=>by have:=rowsV_mono 1 V ln n j hj;omega);clear hL hV hl h1;go_enter Tryz.func30,Tryz.ntmps30
 go_wp2;go_loopw [1,5] (fun q i wr=>∃j m:Nat,j≤n∧i = .int .i64 j∧q = .int .i64 (k+(m:Int))∧Hid (m=totR (rowsV 1 V ln j))∧Wrt (rowsS (rowsV 1 V ln j)) w wr∧Hid (mkR wr k (rowsV 1 V ln j))) (fun _ i _=>n-(intOf i).toNat)
 case atStart=>exact⟨0,0,Nat.zero_le _,rfl,by simp,Lib.hid rfl,Wrt.refl _ _,Lib.hid trivial⟩
 case round=>
  obtain⟨j,m,hj,rfl,rfl,hm,hG,hM⟩:=hrel;by_cases hlt:j<n
  ·
   rcases hv with hv|⟨b,o,rfl,hb,hc⟩
   · exfalso;omega
   obtain⟨hc1,hc2⟩:=hc j hlt;have hS:∀x,rowsS (rowsV 1 V ln j) x→rowsS (rowsV 1 V ln n) x:=fun x ⟨r,hr,hx⟩=>⟨r,(rowsV_sub 1 V ln n j hj).subset hr,hx⟩
   have d1:=(hG.cell _ hb (fun h=>hc2 (hS _ h))).trans hc1;have hLj:=HL.out.sub (rowsV_sub 1 V ln n (j+1) hlt);obtain⟨a2,c2,eV,hs2⟩:=HV.out j hlt;have hlj:=HN.out j hlt;have hk:=HT.out j hj;rw[←hm.out] at hk;have HM2:Hid (m+ln j=totR (rowsV 1 V ln (j+1))):=Lib.hid (by rw[rowsV_tot,hm.out];simp);have C:=markI_row wr a2 (ln j) c2 (k+(m:Int)) hs2 (fun x hx=>(hLj.wb x (by rw[rowsV];exact rowsS_append.2 (.inr ⟨_,List.mem_singleton.2 rfl,by rw[eV];simpa using hx⟩))).kept hG) hlj (by omega) (by omega)
   have NX:∀wz:World,Wrt (rowS (.slice a2 (ln j) c2) (ln j)) wr wz→Mkd wz (.slice a2 (ln j) c2) (ln j) (k+(m:Int))→Wrt (rowsS (rowsV 1 V ln (j+1))) w wz∧mkR wz k (rowsV 1 V ln (j+1)):=by
    intro wz g1 g2;rw[rowsV] at hLj ⊢;refine mk_then hLj hG hM.out (g1.more (fun x hx=>⟨_,List.mem_singleton.2 rfl,by rw[eV];simpa using hx⟩)) ⟨?_,trivial⟩;rw[←hm.out];show Mkd wz (V j) (1*ln j) _;rw[eV]
    simpa using g2
   rw[show k+(m:Int)+(ln j:Int)=k+((m+ln j:Nat):Int) by omega] at C;rw[eV] at d1;clear hc hLj hS hG hM hm eV hc1 hc2;have i1:(0:Int)≤(j:Int):=Int.natCast_nonneg _;have i2:(j:Int)<(n:Int):=by omega
   go_wp2_with fail
   refine C.mono ?_;rintro e wz ⟨rfl,g1,g2⟩;obtain⟨G,M⟩:=NX wz g1 g2;have HMM:=Lib.hid M;clear NX C g1 g2 d1 M;go_wp2;go_roundw;case rel=>exact⟨j+1,_,by omega,by go_num,rfl,HM2,G,HMM⟩
   case measure=>simp[intOf];omega
  ·
   obtain rfl:j=n:=by omega
   go_wp2;go_ret;exact⟨by rw[hm.out];rfl,hG,hM.out⟩
theorem heldI_row (w:World)(a:Option Addr)(n cap:Nat)(k:Int)(hs:n=0∨∃b o,a=some ⟨b,o,none⟩)(hw:∀x,rowS (.slice a n cap) (n) x→x.block<w.heap.size)(hM:Mkd w (.slice a n cap) (n) k)(hn:n≤1048576)(h0:1≤k)(h1:k≤16777216):
  Calls Tryz.prog 61 #[.slice a n cap,.int .i64 k] w fun e w'=>e = .returned (.int .i64 (k+n))∧Keep w w':=by
 go_enter Tryz.func61,Tryz.ntmps61
 go_wp2;go_loopw [1,5] (fun q i wr=>∃j:Nat,j≤n∧i = .int .i64 j∧q = .int .i64 (k+(j:Int))∧Keep w wr) (fun _ i _=>n-(intOf i).toNat)
 case atStart=>exact⟨0,Nat.zero_le _,rfl,by simp,Keep.refl _⟩
 case round=>
  obtain⟨j,hj,rfl,rfl,hK⟩:=hrel;by_cases hlt:j<n
  ·
   obtain⟨b,o,rfl⟩:∃b o,a=some ⟨b,o,none⟩:=by
    rcases hs with h|h
    · exfalso;omega
    · exact h
   have hb:b<w.heap.size:=hw ⟨b,o+0,none⟩ ⟨b,o,n,cap,0,rfl,by omega,rfl⟩;have d0:=(hK.cell hb).trans (hM b o n cap (j) rfl (by omega));have e0:(k+(j:Int) != k+(j:Int))=false:=by simp
   have i1:(0:Int)≤(j:Int):=Int.natCast_nonneg _;have i2:(j:Int)<(n:Int):=by omega
   go_wp2;go_roundw;case rel=>exact⟨j+1,by omega,by go_num,by go_num,hK⟩
   case measure=>simp[intOf];omega
  ·
   have:j=n:=by omega
   subst this;go_wp2;go_ret;exact⟨rfl,hK⟩
theorem heldII_rows (w:World)(v:Value)(V:Nat→Value)(ln:Nat→Nat)(n:Nat)(k:Int)(hv:∃a c,v = .slice a n c∧(n=0∨∃b o,a=some ⟨b,o,none⟩∧b<w.heap.size∧∀i,i<n→w.cell? ⟨b,o+i,none⟩=some (V i)))
  (hV:∀i,i<n→SlV (V i) (ln i)) (hw:∀x,rowsS (rowsV 1 V ln n) x→x.block<w.heap.size) (hM:mkR w k (rowsV 1 V ln n)) (hn:n≤1048576) (hl:∀i,i<n→ln i≤1048576) (h0:1≤k) (h1:k+totR (rowsV 1 V ln n)≤16777216):
  Calls Tryz.prog 31 #[v,.int .i64 k] w fun e w'=>e = .returned (.int .i64 (k+totR (rowsV 1 V ln n)))∧Keep w w':=by
 obtain⟨a,cap,rfl,hv⟩:=hv;have HW:=Lib.hid hw;have HR:=Lib.hid (fun j (hj:j<n)=>rowsV_mk 1 V ln n hM j hj);have HV:=Lib.hid hV;have HN:=Lib.hid hl;have HT:Hid (∀j,j≤n→k+totR (rowsV 1 V ln j)≤16777216):=Lib.hid (fun j hj=>by have:=rowsV_mono 1 V ln n j hj;omega);clear hM hV hl h1 hw;go_enter Tryz.func31,Tryz.ntmps31
 go_wp2;go_loopw [1,5] (fun q i wr=>∃j m:Nat,j≤n∧i = .int .i64 j∧q = .int .i64 (k+(m:Int))∧Hid (m=totR (rowsV 1 V ln j))∧Keep w wr) (fun _ i _=>n-(intOf i).toNat)
 case atStart=>exact⟨0,0,Nat.zero_le _,rfl,by simp,Lib.hid rfl,Keep.refl _⟩
 case round=>
  obtain⟨j,m,hj,rfl,rfl,hm,hK⟩:=hrel;by_cases hlt:j<n
  ·
   rcases hv with hv|⟨b,o,rfl,hb,hc⟩
   · exfalso;omega
   have d1:=(hK.cell hb).trans (hc j hlt);obtain⟨a2,c2,eV,hs2⟩:=HV.out j hlt;have hlj:=HN.out j hlt;have hk:=HT.out j hj;have hD:=HR.out j hlt;have hX:∀x,rowS (V j) (1*ln j) x→x.block<w.heap.size:=fun x hx=>HW.out x ⟨_,(rowsV_mem 1 V ln n _).2 ⟨j,hlt,rfl⟩,hx⟩
   rw[←hm.out] at hk hD;rw[eV] at hD d1 hX;have HM2:Hid (m+ln j=totR (rowsV 1 V ln (j+1))):=Lib.hid (by rw[rowsV_tot,hm.out];simp);have C:=heldI_row wr a2 (ln j) c2 (k+(m:Int)) hs2 (fun x hx=>Nat.lt_of_lt_of_le (hX x (by simpa using hx)) hK.size) (by have:=hD.keep hK hX;simpa using this) hlj (by omega) (by omega);rw[show k+(m:Int)+(ln j:Int)=k+((m+ln j:Nat):Int) by omega] at C;clear hc hm eV hD hX;have i1:(0:Int)≤(j:Int):=Int.natCast_nonneg _;have i2:(j:Int)<(n:Int):=by omega
   have i3:¬(k+((m+ln j:Nat):Int)<0):=by omega
   go_wp2_with fail
   refine C.mono ?_;rintro e wz ⟨rfl,k1⟩;have K1:=hK.trans k1;clear C d1 hK k1;generalize m+ln j=m2 at *;go_wp2;go_roundw;case rel=>exact⟨j+1,_,by omega,by go_num,rfl,HM2,K1⟩
   case measure=>simp[intOf];omega
  ·
   obtain rfl:j=n:=by omega
   go_wp2;go_ret;exact⟨by rw[hm.out];rfl,hK⟩
def MarkedL (w:World)(v:Value)(zss:List (List Int))(n:Nat):Prop:=
 ∃V:Nat→Value,(∃a c,v = .slice a zss.length c∧(zss.length=0∨∃b o,a=some ⟨b,o,none⟩∧b<w.heap.size∧∀i,i<zss.length→w.cell? ⟨b,o+i,none⟩=some (V i)))∧(∀i,i<zss.length→SlV (V i) (lnL zss i))∧n=totR (rwsL V zss)∧(∀x,rowsS (rwsL V zss) x→x.block<w.heap.size)∧mkR w 1 (rwsL V zss)
theorem MarkedL.keep {w w':World}{v:Value}{zss:List (List Int)}{n:Nat}(h:MarkedL w v zss n)(k:Keep w w'):MarkedL w' v zss n:=by
 obtain⟨V,⟨a,c,e,H⟩,h1,h2,h3,h4⟩:=h;refine⟨V,⟨a,c,e,?_⟩,h1,h2,fun x hx=>Nat.lt_of_lt_of_le (h3 x hx) k.size,mkR_kept (k.wrt (fun _=>False)) _ _ h4 (fun _ _ h=>h) h3⟩;rcases H with H|⟨b,o,ea,hb,hc⟩
 · exact .inl H
 · exact .inr ⟨b,o,ea,Nat.lt_of_lt_of_le hb k.size,fun i hi=>(k.cell hb).trans (hc i hi)⟩
theorem markL_any (w:World)(m M:Nat)(v:Value)(zss:List (List Int))(h:FreeL w m M v zss)(hn:zss.length≤78125)(hm:∀i,i<zss.length→(zss.getD i []).length≤15):
  Calls Tryz.prog 30 #[v,.int .i64 1] w fun e w'=>∃n:Nat,e = .returned (.int .i64 (1+(n:Int)))∧n≤1171875∧MarkedL w' v zss n∧Only m M w w':=by
 obtain⟨V,H,hV,L,G⟩:=h.ex;have ht:=tot_lists V zss 15 hm zss.length (Nat.le_refl _);refine (markII_rows w v V (lnL zss) zss.length 1 H hV L (by omega) (fun i hi=>by have:=hm i hi;show (zss.getD i []).length≤_;omega) (by omega) (by omega)).mono ?_;rintro e w' ⟨rfl,g,mk⟩;refine⟨_,rfl,by omega,⟨V,?_,hV,rfl,fun x hx=>((L.wb x hx).kept g).lt,mk⟩,g.os,g.tape,g.output,g.size,fun q hq hm=>g.block q hq (fun x hx e=>?_)⟩
 ·
  obtain⟨a,c,e,H⟩:=H;refine⟨a,c,e,?_⟩;rcases H with H|⟨b,o,ea,hb,hc⟩
  · exact .inl H
  · exact .inr ⟨b,o,ea,Nat.lt_of_lt_of_le hb g.size,fun i hi=>(g.cell _ hb (hc i hi).2).trans (hc i hi).1⟩
 ·
  have:=G x hx;rw[e] at this;omega
theorem heldL_any (w:World)(v:Value)(zss:List (List Int))(n:Nat)(h:MarkedL w v zss n)(hn:zss.length≤78125)(hm:∀i,i<zss.length→(zss.getD i []).length≤15):
  Calls Tryz.prog 31 #[v,.int .i64 1] w fun e w'=>e = .returned (.int .i64 (1+(n:Int)))∧Keep w w':=by
 obtain⟨V,H,hV,rfl,G,mk⟩:=h;have ht:=tot_lists V zss 15 hm zss.length (Nat.le_refl _);exact heldII_rows w v V (lnL zss) zss.length 1 H hV G mk (by omega) (fun i hi=>by have:=hm i hi;show (zss.getD i []).length≤_;omega) (by omega) (by omega)
theorem toDeed_any (k p v g:Int)(w:World):
  Calls Tryz.prog 132 #[deedV k p v g] w fun e w'=>e = .returned (deedV k p v g)∧Keep w w':=by
 go_enter Tryz.func132,Tryz.ntmps132
 go_wp2;refine bodyPost_ret (results_row (by rfl) _ _ (w.heap.size+1) _ _ _ _ rfl (by simp only[heap_at,heap_size];repeat (first|exact if_pos rfl|exact if_pos trivial|rw[if_neg (by omega)])) Tryz.underlying64 rfl (by kernel_rfl)) rfl ?_;exact⟨rfl,(((Keep.refl w).alloc _).alloc _).alloc _⟩
theorem szD_any (w:World)(v:Value)(ds:List Dd)(h:RdD w v ds)(left:Int)(h0:0≤left)(h1:left≤1048576)(hn:ds.length≤maxLen):
  Calls Tryz.prog 55 #[v,.int .i64 left] w fun e w'=>e = .returned (.int .i64 (if (ds.length:Int)≤left then left-ds.length else -1))∧w'=w:=by
 obtain⟨a,cap,rfl,_⟩:=h;have hm:maxLen=9223372036854775807:=rfl;by_cases hl:(ds.length:Int)≤left
 ·
  rw[if_pos hl];go_enter Tryz.func55,Tryz.ntmps55
  go_wp2;go_ret;exact⟨rfl,rfl⟩
 ·
  rw[if_neg hl];go_enter Tryz.func55,Tryz.ntmps55
  go_wp2;go_ret;exact⟨rfl,rfl⟩
theorem toD_any (w:World)(v:Value)(ds:List Dd)(h:RdD w v ds)(hn:ds.length≤1048576):
  Calls Tryz.prog 56 #[v] w fun e w'=>∃v',e = .returned v'∧OwnD w' w.heap.size v' ds∧Keep w w':=by
 obtain⟨a,c,rfl,h⟩:=h;obtain⟨i0,hi,hz0,hz1,hz2⟩:=info_parts Tryz.infoD;go_enter Tryz.func56,Tryz.ntmps56
 go_wp2_with (at_make;refine wpList_make_full _ rfl _ _ 61 rfl w.heap.size 64 i0 (.agg #[.int .i64 0,.int .i64 0,.int .i64 0,.int .i64 0]) 4 Tryz.underlying61 hi hz0 hz1 .i64 .i64 _ _ ds.length rfl rfl rfl rfl (by rw[hz2];omega) (by unfold maxLen;omega) (Nat.le_refl _) ?_;intro w1 hown hgrow)
 have hk1:Keep w w1:=(Keep.refl w).grown hgrow (by simp);have B1:=Blk.ofOwn hown;clear hown hgrow hi hz0 hz1 hz2;go_loopw [4] (fun i wr=>∃j:Nat,j≤ds.length∧i = .int .i64 j∧Blk wr w.heap.size (ds.length*4)∧(∀i,i<j→AtD wr w.heap.size (i*4) (ds.getD i zD))∧Keep w wr) (fun i _=>ds.length-(intOf i).toNat)
 case atStart=>exact⟨0,Nat.zero_le _,rfl,B1,fun i hi=>absurd hi (Nat.not_lt_zero _),hk1⟩
 case round=>
  obtain⟨j,hj,rfl,hB,hA,hK⟩:=hrel;clear B1 hk1;by_cases hlt:j<ds.length
  ·
   rcases h with h|⟨b,o,rfl,hb,hc⟩
   · exfalso;rw[h] at hlt;simp at hlt
   obtain⟨d0,d1,d2,d3⟩:=(hc j hlt).keep hb hK;obtain⟨d,hd⟩:∃d,d=ds.getD j zD:=⟨_,rfl⟩;have HD:=Lib.hid hd;rw[←hd] at d0 d1 d2 d3;have hbs:b<wr.heap.size:=Nat.lt_of_lt_of_le hb hK.size;clear hc hd;go_wp2_with fail
   refine (toDeed_any _ _ _ _ _).mono ?_;rintro e w2 ⟨rfl,k2⟩;have B2:=hB.kept k2.grownBy (by simp);obtain⟨u0,e0⟩:=B2.cell (show j*4<ds.length*4 by omega);obtain⟨u1,e1⟩:=B2.cell (show j*4+1<ds.length*4 by omega);obtain⟨u2,e2⟩:=B2.cell (show j*4+2<ds.length*4 by omega);obtain⟨u3,e3⟩:=B2.cell (show j*4+3<ds.length*4 by omega);have f0:=B2.free (j*4);have f1:=B2.free (j*4+1);have f2:=B2.free (j*4+2);have f3:=B2.free (j*4+3);go_wp2;go_roundw
   case rel=>
    refine⟨j+1,by omega,by go_num,(((B2.set _ _).set _ _).set _ _).set _ _,fun i hi=>?_,((((hK.trans k2).set (Nat.le_refl _) _ _).set (Nat.le_refl _) _ _).set (Nat.le_refl _) _ _).set (Nat.le_refl _) _ _⟩;by_cases hij:i=j
    ·
     subst hij;rw[←HD.out];exact putD_same B2 (by omega)
    · exact putD ((hA i (by omega)).keep hB.lt k2) (by omega)
   case measure=>simp[intOf];omega
  ·
   obtain rfl:j=ds.length:=by omega
   go_wp2;go_ret;exact⟨_,rfl,⟨_,0,rfl,.inr ⟨_,rfl,Nat.le_refl _,hB,hA⟩⟩,hK⟩
theorem toW_any (w:World)(v:Value)(dss:List (List Dd))(h:RdW w v dss)(hn:dss.length≤1048576)(hm:∀i,i<dss.length→(dss.getD i []).length≤1048576):
  Calls Tryz.prog 26 #[v] w fun e w'=>∃v',e = .returned v'∧OwnW w' w.heap.size v' dss∧Keep w w':=by
 obtain⟨a,c,rfl,h⟩:=h;obtain⟨i0,hi,hz0,hz1,hz2⟩:=info_parts Tryz.infoDS;go_enter Tryz.func26,Tryz.ntmps26
 go_wp2_with (at_make;refine wpList_make_full _ rfl _ _ 24 rfl w.heap.size 61 i0 (.slice none 0 0) 1 Tryz.underlying24 hi hz0 hz1 .i64 .i64 _ _ dss.length rfl rfl rfl rfl (by rw[hz2];omega) (by unfold maxLen;omega) (Nat.le_refl _) ?_;intro w1 hown hgrow)
 have hk1:Keep w w1:=(Keep.refl w).grown hgrow (by simp);have B1:=Blk.ofOwn hown;rw[Nat.mul_one] at B1;clear hown hgrow hi hz0 hz1 hz2;go_loopw [4] (fun i wr=>∃(j:Nat) (V:Nat→Value),j≤dss.length∧i = .int .i64 j∧Blk wr w.heap.size dss.length∧(∀i,i<j→wr.cell? ⟨w.heap.size,i,none⟩=some (V i)∧OwnD wr (w.heap.size+1) (V i) (dss.getD i []))∧Apart w.heap.size j V (fun i=>dss.getD i [])∧Keep w wr) (fun i _=>dss.length-(intOf i).toNat)
 case atStart=>exact⟨0,fun _ => .nilIface,Nat.zero_le _,rfl,B1,fun i hi=>absurd hi (Nat.not_lt_zero _),⟨fun i hi=>absurd hi (Nat.not_lt_zero _),fun i j _ hj=>absurd hj (Nat.not_lt_zero _)⟩,hk1⟩
 case round=>
  obtain⟨j,V,hj,rfl,hB,hV,hA,hK⟩:=hrel;clear B1 hk1;by_cases hlt:j<dss.length
  ·
   rcases h with h|⟨b,o,rfl,hb,hc⟩
   · exfalso;rw[h] at hlt;simp at hlt
   obtain⟨u,e0,r0⟩:=hc j hlt;have e1:=(hK.cell hb).trans e0;have r1:=r0.keep hK;have hbs:b<wr.heap.size:=Nat.lt_of_lt_of_le hb hK.size;have hmj:=hm j hlt;clear hc e0 r0;go_wp2_with fail
   refine (toD_any _ _ _ r1 hmj).mono ?_;rintro e w2 ⟨v',rfl,o2,k2⟩
   obtain⟨a',cap',hv'⟩:∃a' cap',v' = .slice a' (dss.getD j []).length cap':=by
    obtain⟨a',cap',h,_⟩:=o2;exact⟨a',_,h⟩
   generalize hlen':(dss.getD j []).length=len' at hv';clear hlen';subst hv';have B2:=hB.kept k2.grownBy (by simp);obtain⟨u0,q0⟩:=B2.cell hlt;have f0:=B2.free j;have hBl:=hB.lt;go_wp2;go_roundw
   case rel=>
    refine⟨j+1,fun i=>if i=j then .slice a' len' cap' else V i,by omega,by go_num,B2.set _ _,fun i hi=>?_,⟨fun i hi hne=>?_,fun i i' hii hi' hne hne'=>?_⟩,(hK.trans k2).set (Nat.le_refl _) _ _⟩
    ·
     by_cases hij:i=j
     ·
      subst hij;refine⟨by simp[World.cell?_setCell_same _ _ _ q0],?_⟩;simp only[if_pos];refine (o2.kept (grown_put w2 w.heap.size i _) ?_).mono (by omega);by_cases h0:dss.getD i []=[]
      · exact .inl h0
      ·
       obtain⟨g,hg,hgb,_⟩:=o2.block h0;refine .inr (fun e=>?_);rw[hg] at e;simp at e;omega
     ·
      simp only[if_neg hij];obtain⟨c1,c2⟩:=hV i (by omega);refine⟨?_,?_⟩
      ·
       rw[World.cell?_setCell_other _ _ _ _ (by intro e;apply hij;injection e with _ e2;exact e2.symm),k2.cell hBl];exact c1
      ·
       refine (c2.keep k2).kept (grown_put w2 w.heap.size j _) ?_;by_cases h0:dss.getD i []=[]
       · exact .inl h0
       · exact .inr (hA.1 i (by omega) h0)
    ·
     by_cases hij:i=j
     ·
      subst hij;simp only[if_pos];obtain⟨g,hg,hgb,_⟩:=o2.block hne;intro e;rw[hg] at e;simp at e;omega
     ·
      simp only[if_neg hij];exact hA.1 i (by omega) hne
    ·
     have hi0:¬i=j:=by omega
     simp only[if_neg hi0];by_cases hij:i'=j
     ·
      subst hij;simp only[if_pos];obtain⟨g,hg,_,hgs⟩:=(hV i (by omega)).2.block hne;obtain⟨g',hg',hgb',_⟩:=o2.block hne';rw[hg,hg'];simp;omega
     ·
      simp only[if_neg hij];exact hA.2 i i' hii (by omega) hne hne'
   case measure=>simp[intOf];omega
  ·
   obtain rfl:j=dss.length:=by omega
   go_wp2;go_ret;exact⟨_,rfl,⟨_,_,rfl,.inr ⟨_,V,rfl,Nat.le_refl _,hB,fun i hi=>⟨(hV i hi).1,(hV i hi).2.mono (by omega)⟩,hA⟩⟩,hK⟩
theorem lenW_snoc (d:List Dd):∀l:List (List Dd),lenW (l++[d])=lenW l+d.length
 | []=>by simp[lenW]
 |x::r=>by rw[List.cons_append,lenW,lenW,lenW_snoc d r];omega
theorem take_snocD {α:Type}(l:List α)(k:Nat)(z:α)(h:k<l.length):l.take (k+1)=l.take k++[l.getD k z]:=by
 rw[List.take_add_one,List.getElem?_eq_getElem h,List.getD_eq_getElem?_getD,List.getElem?_eq_getElem h];rfl
theorem lenW_take (l:List (List Dd))(k:Nat)(h:k<l.length):lenW (l.take (k+1))=lenW (l.take k)+(l.getD k []).length:=by
 rw[take_snocD l k [] h,lenW_snoc]
theorem lenW_get (l:List (List Dd))(k:Nat)(h:k<l.length):(l.getD k []).length≤lenW l:=by
 have h1:=lenW_take l k h;have h2:=lenW_take_le l (k+1) h;omega
theorem szW_any (w:World)(v:Value)(dss:List (List Dd))(h:RdW w v dss)(left:Int)(h0:0≤left)(h1:left≤1048576)(hn:dss.length≤maxLen)(hm:∀i,i<dss.length→(dss.getD i []).length≤maxLen):
  Calls Tryz.prog 25 #[v,.int .i64 left] w fun e w'=>∃r:Int,e = .returned (.int .i64 r)∧w'=w∧(r<0∨(dss.length+lenW dss:Int)≤left):=by
 have hM:maxLen=9223372036854775807:=rfl;obtain⟨a,c,rfl,h⟩:=h;by_cases hl:(dss.length:Int)≤left
 ·
  go_enter Tryz.func25,Tryz.ntmps25
  go_wp2;go_loop [1,5] (fun l i=>∃(k:Nat) (x:Int),k≤dss.length∧i = .int .i64 k∧l = .int .i64 x∧0≤x∧x=left-dss.length-lenW (dss.take k)) (fun _ i=>dss.length-(intOf i).toNat)
  case atStart=>exact⟨0,_,Nat.zero_le _,rfl,rfl,by omega,by simp[lenW]⟩
  case round=>
   obtain⟨k,x,hk,rfl,rfl,x0,hx⟩:=hrel;by_cases hlt:k<dss.length
   ·
    rcases h with h|⟨b,o,rfl,hb,hc⟩
    · exfalso;rw[h] at hlt;simp at hlt
    obtain⟨u,e0,r0⟩:=hc k hlt;have HS:=Lib.hid (lenW_take dss k hlt);have HX:=Lib.hid hx;have hmk:=hm k hlt;have hxl:x≤1048576:=by omega
    clear hc hx;by_cases hf:((dss.getD k []).length:Int)≤x
    ·
     go_wp2_with fail
     refine (szD_any _ _ _ r0 x x0 hxl hmk).mono ?_;rw[if_pos hf];rintro e w' ⟨rfl,rfl⟩;generalize hq:x-((dss.getD k []).length:Int)=q;have HQ:=Lib.hid hq;have hq0:0≤q:=by omega
     clear hq;go_wp2;go_round
     case rel=>exact⟨k+1,q,by omega,by go_num,rfl,hq0,by have:=HS.out;have:=HX.out;have:=HQ.out;omega⟩
     case measure=>simp[intOf];omega
    ·
     go_wp2_with fail
     refine (szD_any _ _ _ r0 x x0 hxl hmk).mono ?_;rw[if_neg (by omega)];rintro e w' ⟨rfl,rfl⟩;go_wp2;go_ret;exact⟨_,rfl,rfl,.inl (by omega)⟩
   ·
    obtain rfl:k=dss.length:=by omega
    have HX:=Lib.hid hx;clear hx;go_wp2;go_ret;refine⟨_,rfl,rfl,.inr ?_⟩;have:=HX.out;rw[List.take_length] at this;omega
 ·
  go_enter Tryz.func25,Tryz.ntmps25
  go_wp2;go_ret;exact⟨_,rfl,rfl,.inl (by omega)⟩
def eqB (d d':Dd):Bool:=decide (d=d')
theorem eqDeed_any (d d':Dd)(w:World):
  Calls Tryz.prog 133 #[dV d,dV d'] w fun e w'=>e = .returned (.bool (eqB d d'))∧Keep w w':=by
 obtain⟨k,p,v,g⟩:=d;obtain⟨k',p',v',g'⟩:=d';by_cases h1:k=k'
 ·
  subst h1;by_cases h2:p=p'
  ·
   subst h2;by_cases h3:v=v'
   ·
    subst h3;by_cases h4:g=g'
    ·
     subst h4;go_enter Tryz.func133,Tryz.ntmps133
     go_wp2;go_ret;exact⟨ret_bool (by simp[eqB]),((Keep.refl w).alloc _).alloc _⟩
    ·
     have hb:(g != g')=true:=by simpa using h4
     go_enter Tryz.func133,Tryz.ntmps133
     go_wp2;go_ret;exact⟨ret_bool (by simp[eqB,h4]),((Keep.refl w).alloc _).alloc _⟩
   ·
    have hb:(v != v')=true:=by simpa using h3
    go_enter Tryz.func133,Tryz.ntmps133
    go_wp2;go_ret;exact⟨ret_bool (by simp[eqB,h3]),((Keep.refl w).alloc _).alloc _⟩
  ·
   have hb:(p != p')=true:=by simpa using h2
   go_enter Tryz.func133,Tryz.ntmps133
   go_wp2;go_ret;exact⟨ret_bool (by simp[eqB,h2]),((Keep.refl w).alloc _).alloc _⟩
 ·
  have hb:(k != k')=true:=by simpa using h1
  go_enter Tryz.func133,Tryz.ntmps133
  go_wp2;go_ret;exact⟨ret_bool (by simp[eqB,h1]),((Keep.refl w).alloc _).alloc _⟩
theorem take_eq_more {α:Type}{xs ys:List α}{k:Nat}(z:α)(hx:k<xs.length)(hy:k<ys.length)(h:xs.take k=ys.take k)(e:xs.getD k z=ys.getD k z):xs.take (k+1)=ys.take (k+1):=by
 rw[take_snocD xs k z hx,take_snocD ys k z hy,h,e]
theorem ne_at {α:Type}{xs ys:List α}{k:Nat}{z:α}(h:xs.getD k z≠ys.getD k z):xs≠ys:=by
 intro e;subst e;exact h rfl
def likeD (xs ys:List Dd):Bool:=decide (xs=ys)
theorem eqD_any (w:World)(v1 v2:Value)(xs ys:List Dd)(h1:RdD w v1 xs)(h2:RdD w v2 ys)(hx:xs.length≤1048576):
  Calls Tryz.prog 58 #[v1,v2] w fun e w'=>e = .returned (.bool (likeD xs ys))∧Keep w w':=by
 obtain⟨a1,c1,rfl,h1⟩:=h1;obtain⟨a2,c2,rfl,h2⟩:=h2;by_cases hl:xs.length=ys.length
 ·
  have hlb:((xs.length:Int) != (ys.length:Int))=false:=by simp[hl]
  have hl1:xs.length≤ys.length:=by omega
  have hl2:ys.length≤xs.length:=by omega
  clear hl;go_enter Tryz.func58,Tryz.ntmps58
  go_wp2;go_loopw [5] (fun i wr=>∃k:Nat,k≤xs.length∧i = .int .i64 k∧xs.take k=ys.take k∧Keep w wr) (fun i _=>xs.length-(intOf i).toNat)
  case atStart=>exact⟨0,Nat.zero_le _,rfl,by simp,Keep.refl _⟩
  case round=>
   obtain⟨k,hk,rfl,ht,hK⟩:=hrel;by_cases hlt:k<xs.length
   ·
    rcases h1 with h|⟨b1,o1,rfl,hb1,hc1⟩
    · exfalso;rw[h] at hlt;simp at hlt
    rcases h2 with h|⟨b2,o2,rfl,hb2,hc2⟩
    · exfalso;rw[h] at hl1;simp only[List.length_nil] at hl1;omega
    have hy2:k<ys.length:=by omega
    obtain⟨d0,d1,d2,d3⟩:=(hc1 k hlt).keep hb1 hK;obtain⟨e0,e1,e2,e3⟩:=(hc2 k hy2).keep hb2 hK;have HT:=Lib.hid ht;obtain⟨p,hp⟩:∃p,p=xs.getD k zD:=⟨_,rfl⟩;obtain⟨q,hq⟩:∃q,q=ys.getD k zD:=⟨_,rfl⟩;have HP:=Lib.hid hp;have HQ:=Lib.hid hq;rw[←hp] at d0 d1 d2 d3;rw[←hq] at e0 e1 e2 e3;clear hc1 hc2 hp hq ht;have i1:(0:Int)≤(k:Int):=Int.natCast_nonneg _;have i2:(k:Int)<(xs.length:Int):=by omega
    have i3:(k:Int)<(ys.length:Int):=by omega
    have z1:b1<wr.drew.heap.size:=Nat.lt_of_lt_of_le hb1 hK.size;have z2:b2<wr.drew.heap.size:=Nat.lt_of_lt_of_le hb2 hK.size;cases he:eqB p q
    ·
     have HE:Hid (likeD xs ys=false):=by
      refine Lib.hid (decide_eq_false (ne_at (k:=k) (z:=zD) ?_));rw[←HP.out,←HQ.out]
      simpa [eqB] using he
     go_wp2_with fail
     go_region_held3 (fun w'=>w'.cell? ⟨b1,o1+k*4,none⟩=some (.int .i64 p.1)∧w'.cell? ⟨b1,o1+k*4+1,none⟩=some (.int .i64 p.2.1)∧w'.cell? ⟨b1,o1+k*4+2,none⟩=some (.int .i64 p.2.2.1)∧w'.cell? ⟨b1,o1+k*4+3,none⟩=some (.int .i64 p.2.2.2)∧w'.cell? ⟨b2,o2+k*4,none⟩=some (.int .i64 q.1)∧w'.cell? ⟨b2,o2+k*4+1,none⟩=some (.int .i64 q.2.1)∧w'.cell? ⟨b2,o2+k*4+2,none⟩=some (.int .i64 q.2.2.1)∧w'.cell? ⟨b2,o2+k*4+3,none⟩=some (.int .i64 q.2.2.2))
      (first|go_keep|(go_split_ands;refine⟨?_,?_,?_,?_,?_,?_,?_,?_⟩<;>(rw[kk.cell (by assumption)];assumption)))
      ((go_at_call 133;refine (eqDeed_any p q _).mono ?_;rintro e wz ⟨rfl,kk⟩))
     all_goals
      go_wp2;go_ret;exact⟨by rw[HE.out];rfl,hK.drew.trans kk⟩
    ·
     have HE:Hid (xs.take (k+1)=ys.take (k+1)):=by
      refine Lib.hid (take_eq_more zD hlt hy2 HT.out ?_);rw[←HP.out,←HQ.out]
      simpa [eqB] using he
     go_wp2_with fail
     go_region_held3 (fun w'=>w'.cell? ⟨b1,o1+k*4,none⟩=some (.int .i64 p.1)∧w'.cell? ⟨b1,o1+k*4+1,none⟩=some (.int .i64 p.2.1)∧w'.cell? ⟨b1,o1+k*4+2,none⟩=some (.int .i64 p.2.2.1)∧w'.cell? ⟨b1,o1+k*4+3,none⟩=some (.int .i64 p.2.2.2)∧w'.cell? ⟨b2,o2+k*4,none⟩=some (.int .i64 q.1)∧w'.cell? ⟨b2,o2+k*4+1,none⟩=some (.int .i64 q.2.1)∧w'.cell? ⟨b2,o2+k*4+2,none⟩=some (.int .i64 q.2.2.1)∧w'.cell? ⟨b2,o2+k*4+3,none⟩=some (.int .i64 q.2.2.2))
      (first|go_keep|(go_split_ands;refine⟨?_,?_,?_,?_,?_,?_,?_,?_⟩<;>(rw[kk.cell (by assumption)];assumption)))
      ((go_at_call 133;refine (eqDeed_any p q _).mono ?_;rintro e wz ⟨rfl,kk⟩))
     all_goals
      go_wp2;go_roundw;case rel=>exact⟨k+1,by omega,by go_num,HE.out,hK.drew.trans kk⟩
      case measure=>simp[intOf];omega
   ·
    obtain rfl:k=xs.length:=by omega
    have HE:Hid (likeD xs ys=true):=by
     refine Lib.hid (decide_eq_true ?_);rw[List.take_length,List.take_of_length_le hl2] at ht;exact ht
    clear ht;go_wp2;go_ret;exact⟨by rw[HE.out];rfl,hK⟩
 ·
  have hlb:((xs.length:Int) != (ys.length:Int))=true:=by simp;omega
  have HE:Hid (likeD xs ys=false):=Lib.hid (decide_eq_false (fun e=>hl (by rw[e])));clear hl;go_enter Tryz.func58,Tryz.ntmps58
  go_wp2;go_ret;exact⟨by rw[HE.out];rfl,Keep.refl _⟩
def likeW (xs ys:List (List Dd)):Bool:=decide (xs=ys)
theorem eqW_any (w:World)(v1 v2:Value)(xs ys:List (List Dd))(h1:RdW w v1 xs)(h2:RdW w v2 ys)(hx:xs.length≤1048576)(hm:∀i,i<xs.length→(xs.getD i []).length≤1048576):
  Calls Tryz.prog 28 #[v1,v2] w fun e w'=>e = .returned (.bool (likeW xs ys))∧Keep w w':=by
 obtain⟨a1,c1,rfl,h1⟩:=h1;obtain⟨a2,c2,rfl,h2⟩:=h2;by_cases hl:xs.length=ys.length
 ·
  have hlb:((xs.length:Int) != (ys.length:Int))=false:=by simp[hl]
  have hl1:xs.length≤ys.length:=by omega
  have hl2:ys.length≤xs.length:=by omega
  clear hl;go_enter Tryz.func28,Tryz.ntmps28
  go_wp2;go_loopw [5] (fun i wr=>∃k:Nat,k≤xs.length∧i = .int .i64 k∧xs.take k=ys.take k∧Keep w wr) (fun i _=>xs.length-(intOf i).toNat)
  case atStart=>exact⟨0,Nat.zero_le _,rfl,by simp,Keep.refl _⟩
  case round=>
   obtain⟨k,hk,rfl,ht,hK⟩:=hrel;by_cases hlt:k<xs.length
   ·
    rcases h1 with h|⟨b1,o1,rfl,hb1,hc1⟩
    · exfalso;rw[h] at hlt;simp at hlt
    rcases h2 with h|⟨b2,o2,rfl,hb2,hc2⟩
    · exfalso;rw[h] at hl1;simp only[List.length_nil] at hl1;omega
    have hy2:k<ys.length:=by omega
    obtain⟨u1,e1,r1⟩:=hc1 k hlt;obtain⟨u2,e2,r2⟩:=hc2 k hy2;have d1:=(hK.cell hb1).trans e1;have d2:=(hK.cell hb2).trans e2;have r1:=r1.keep hK;have r2:=r2.keep hK;have HT:=Lib.hid ht;have hmk:=hm k hlt;clear hc1 hc2 ht e1 e2;obtain⟨p,hp⟩:∃p,p=xs.getD k []:=⟨_,rfl⟩;obtain⟨q,hq⟩:∃q,q=ys.getD k []:=⟨_,rfl⟩;have HP:=Lib.hid hp;have HQ:=Lib.hid hq;rw[←hp] at r1 hmk;rw[←hq] at r2;clear hp hq;have i1:(0:Int)≤(k:Int):=Int.natCast_nonneg _;have i2:(k:Int)<(xs.length:Int):=by omega
    have i3:(k:Int)<(ys.length:Int):=by omega
    have z1:b1<wr.drew.heap.size:=Nat.lt_of_lt_of_le hb1 hK.size;have z2:b2<wr.drew.heap.size:=Nat.lt_of_lt_of_le hb2 hK.size;cases he:likeD p q
    ·
     have HE:Hid (likeW xs ys=false):=by
      refine Lib.hid (decide_eq_false (ne_at (k:=k) (z:=[]) ?_));rw[←HP.out,←HQ.out]
      simpa [likeD] using he
     go_wp2_with fail
     go_region_held3 (fun w'=>w'.cell? ⟨b1,o1+k,none⟩=some u1∧w'.cell? ⟨b2,o2+k,none⟩=some u2)
      (first|go_keep|(go_split_ands;refine⟨?_,?_⟩<;>(rw[kk.cell (by assumption)];assumption)))
      ((go_at_call 58;refine (eqD_any _ _ _ _ _ (r1.keep ((Keep.refl wr).drew)) (r2.keep ((Keep.refl wr).drew)) hmk).mono ?_;rintro e wz ⟨rfl,kk⟩))
     all_goals
      go_wp2;go_ret;exact⟨by rw[HE.out];rfl,hK.drew.trans kk⟩
    ·
     have HE:Hid (xs.take (k+1)=ys.take (k+1)):=by
      refine Lib.hid (take_eq_more [] hlt hy2 HT.out ?_);rw[←HP.out,←HQ.out]
      simpa [likeD] using he
     go_wp2_with fail
     go_region_held3 (fun w'=>w'.cell? ⟨b1,o1+k,none⟩=some u1∧w'.cell? ⟨b2,o2+k,none⟩=some u2)
      (first|go_keep|(go_split_ands;refine⟨?_,?_⟩<;>(rw[kk.cell (by assumption)];assumption)))
      ((go_at_call 58;refine (eqD_any _ _ _ _ _ (r1.keep ((Keep.refl wr).drew)) (r2.keep ((Keep.refl wr).drew)) hmk).mono ?_;rintro e wz ⟨rfl,kk⟩))
     all_goals
      go_wp2;go_roundw;case rel=>exact⟨k+1,by omega,by go_num,HE.out,hK.drew.trans kk⟩
      case measure=>simp[intOf];omega
   ·
    obtain rfl:k=xs.length:=by omega
    have HE:Hid (likeW xs ys=true):=by
     refine Lib.hid (decide_eq_true ?_);rw[List.take_length,List.take_of_length_le hl2] at ht;exact ht
    clear ht;go_wp2;go_ret;exact⟨by rw[HE.out];rfl,hK⟩
 ·
  have hlb:((xs.length:Int) != (ys.length:Int))=true:=by simp;omega
  have HE:Hid (likeW xs ys=false):=Lib.hid (decide_eq_false (fun e=>hl (by rw[e])));clear hl;go_enter Tryz.func28,Tryz.ntmps28
  go_wp2;go_ret;exact⟨by rw[HE.out];rfl,Keep.refl _⟩
theorem markD_any (w:World)(base:Nat)(v:Value)(k:Int)(ds:List Dd)(h:OwnD w base v ds)(hn:ds.length≤1048576)(h0:1≤k)(h1:k≤8388608):
  Calls Tryz.prog 59 #[v,.int .i64 k] w fun e w'=>e = .returned (.int .i64 (k+4*ds.length))∧OwnD w' base v (mksD k ds.length)∧w.grownBy w' (ownO v ds):=by
 obtain⟨a,cap,rfl,h⟩:=h;by_cases hne:ds=[]
 ·
  subst hne;clear h;go_enter Tryz.func59,Tryz.ntmps59
  go_wp2;refine wp_loop_rounds 1 ?_;rw[rounds_succ];go_wp2;go_ret;exact⟨by simp,⟨a,cap,rfl,.inl rfl⟩,World.grownBy.refl _ _⟩
 ·
  rcases h with h|⟨g,rfl,hb,hB,hA⟩
  · exact absurd h hne
  clear hA;go_enter Tryz.func59,Tryz.ntmps59
  go_wp2;go_loopw [1,5] (fun q i wr=>∃j:Nat,j≤ds.length∧i = .int .i64 j∧q = .int .i64 (k+4*j)∧Blk wr g (ds.length*4)∧(∀i,i<j→AtD wr g (i*4) (mkD k i))∧w.grownBy wr (some g)) (fun _ i _=>ds.length-(intOf i).toNat)
  case atStart=>exact⟨0,Nat.zero_le _,rfl,by simp,hB,by omega,World.grownBy.refl _ _⟩
  case round=>
   obtain⟨j,hj,rfl,rfl,hR,hA,hg⟩:=hrel;clear hB;by_cases hlt:j<ds.length
   ·
    obtain⟨u0,c0⟩:=hR.cell (i:=j*4) (by omega);obtain⟨u1,c1⟩:=hR.cell (i:=j*4+1) (by omega);obtain⟨u2,c2⟩:=hR.cell (i:=j*4+2) (by omega);obtain⟨u3,c3⟩:=hR.cell (i:=j*4+3) (by omega);have f0:=hR.free (j*4);have f1:=hR.free (j*4+1);have f2:=hR.free (j*4+2);have f3:=hR.free (j*4+3);have i1:(0:Int)≤(j:Int):=Int.natCast_nonneg _;have i2:(j:Int)<(ds.length:Int):=by omega
    have HA:∀i,i<j+1→AtD ((((wr.setCell ⟨g,j*4,none⟩ (.int .i64 (mkD k j).1)).setCell ⟨g,j*4+1,none⟩ (.int .i64 (mkD k j).2.1)).setCell ⟨g,j*4+2,none⟩ (.int .i64 (mkD k j).2.2.1)).setCell ⟨g,j*4+3,none⟩ (.int .i64 (mkD k j).2.2.2)) g (i*4) (mkD k i):=by
     intro i hi;by_cases e:i=j
     ·
      subst e;exact putD_same hR (by omega)
     · exact putD (hA i (by omega)) (.inr (by omega))
    clear hA;go_wp2;go_roundw;case rel=>exact⟨j+1,by omega,by go_num,by go_num,(((hR.set _ _).set _ _).set _ _).set _ _,HA,grown_trans (grown_trans (grown_trans (grown_trans hg (grown_put _ _ _ _)) (grown_put _ _ _ _)) (grown_put _ _ _ _)) (grown_put _ _ _ _)⟩
    case measure=>simp[intOf];omega
   ·
    have:j=ds.length:=by omega
    subst this;have HO:ds≠[]→ownO (.slice (some ⟨g,0,none⟩) ds.length (ds.length+cap)) ds=some g:=fun h=>by rw[ownO,if_neg h];rfl
    go_wp2;go_ret;refine⟨rfl,⟨_,cap,by rw[mksD_len],.inr ⟨g,rfl,hb,by rw[mksD_len];exact hR,?_⟩⟩,by rw[HO hne];exact hg⟩;intro i hi;rw[mksD_len] at hi;rw[mksD_get _ _ _ hi];exact hA i hi
theorem markW_any (w wo:World)(base:Nat)(v:Value)(k:Int)(dss:List (List Dd))(h:OwnW wo base v dss)(hsame:∀b,base≤b→b<wo.heap.size→w.heap[b]? = wo.heap[b]?)
  (hn:dss.length≤1048576) (hs:lenW dss≤1048576) (h0:1≤k) (h1:k≤1048576):
  Calls Tryz.prog 29 #[v,.int .i64 k] w fun e w'=>e = .returned (.int .i64 (k+4*lenW dss))∧OwnW w' base v (mksW k dss)∧Only base wo.heap.size w w':=by
 obtain⟨a,cap,rfl,h⟩:=h;by_cases hne:dss=[]
 ·
  subst hne;clear h;go_enter Tryz.func29,Tryz.ntmps29
  go_wp2;refine wp_loop_rounds 1 ?_;rw[rounds_succ];go_wp2;go_ret;exact⟨by simp[lenW],⟨a,cap,rfl,.inl rfl⟩,Only.refl _ _ _⟩
 ·
  rcases h with h|⟨g,V,rfl,hg,hB,hc,hA⟩
  · exact absurd h hne
  have gl:=hB.lt
  have top:∀i,i<dss.length→∀b,ownO (V i) (dss.getD i [])=some b→base≤b∧b<wo.heap.size:=by
   intro i hi b hb;obtain⟨a',cap',e,h⟩:=(hc i hi).2;rw[ownO] at hb;split at hb
   · cases hb
   ·
    rename_i hd;rcases h with h|⟨g',rfl,hb',hB',_⟩
    · exact absurd h hd
    ·
     rw[e] at hb;simp only[Value.ownBlock,Option.some.injEq] at hb;subst hb;exact⟨hb',hB'.lt⟩
  have eg:=hsame g hg gl
  have start:Blk w g dss.length∧∀i,i<dss.length→w.cell? ⟨g,i,none⟩=some (V i)∧OwnD w base (V i) (dss.getD i []):=
   ⟨hB.same eg,fun i hi=>⟨(cell_same eg _).trans (hc i hi).1,(hc i hi).2.same (fun b _ hlt hbb=>hsame b hbb hlt)⟩⟩
  clear hB hc eg;go_enter Tryz.func29,Tryz.ntmps29
  go_wp2
  go_loopw [1,5] (fun q i wr=>∃j m:Nat,j≤dss.length∧i = .int .i64 j∧q = .int .i64 (k+4*m)∧Hid (m=lenW (dss.take j))∧Blk wr g dss.length ∧
   (∀i,i<dss.length→wr.cell? ⟨g,i,none⟩=some (V i)∧OwnD wr base (V i) (if i<j then (mksW k dss).getD i [] else dss.getD i []))∧Only base wo.heap.size w wr) (fun _ i _=>dss.length-(intOf i).toNat)
  case atStart=>exact⟨0,0,Nat.zero_le _,rfl,by simp,Lib.hid (by simp[lenW]),start.1,fun i hi=>by rw[if_neg (by omega)];exact start.2 i hi,Only.refl _ _ _⟩
  case round=>
   obtain⟨j,m,hj,rfl,rfl,hm,hR,hD,hO⟩:=hrel;clear start;by_cases hlt:j<dss.length
   ·
    obtain⟨c1,o1⟩:=hD j hlt;rw[if_neg (by omega)] at o1;have hlen:=lenW_one dss j hlt;have HM:Hid (m+(dss.getD j []).length=lenW (dss.take (j+1))):=Lib.hid (by rw[take_moreM dss j [] hlt,lenW_snocM,hm.out]);rw[←hm.out] at hlen
    have REST:∀wz:World,OwnD wz base (V j) (mksD (k+4*(m:Int)) (dss.getD j []).length)→wr.grownBy wz (ownO (V j) (dss.getD j [])) →
      Blk wz g dss.length∧(∀i,i<dss.length→wz.cell? ⟨g,i,none⟩=some (V i)∧OwnD wz base (V i) (if i<j+1 then (mksW k dss).getD i [] else dss.getD i []))∧Only base wo.heap.size w wz:=by
     intro wz hz gz
     have hrow:ownO (V j) (dss.getD j [])≠some g:=by
      rw[ownO];split
      · simp
      ·
       rename_i hd;exact hA.1 j hlt hd
     have eg:wz.heap[g]? = wr.heap[g]?:=gz.block g hR.lt (fun e=>hrow e.symm);refine⟨hR.same eg,?_,hO.grown gz (top j hlt)⟩;intro i hi;refine⟨(cell_same eg _).trans (hD i hi).1,?_⟩;by_cases e:i=j
     ·
      subst e;rw[if_pos (by omega),mksW_get _ _ _ hlt,←hm.out];exact hz
     ·
      have hh:=(hD i hi).2
      rw[show (if i<j+1 then (mksW k dss).getD i [] else dss.getD i [])=(if i<j then (mksW k dss).getD i [] else dss.getD i []) by
       by_cases h':i<j
       · rw[if_pos h',if_pos (by omega)]
       · rw[if_neg h',if_neg (by omega)]]
      refine hh.kept gz ?_;by_cases hd:dss.getD i []=[]
      ·
       left;split
       · rw[mksW_get _ _ _ hi,hd];rfl
       · exact hd
      ·
       right;rw[ownO];split
       ·
        rename_i hdj;obtain⟨a',cap',e',h'⟩:=hh;rcases h' with h'|⟨g',rfl,_,_,_⟩
        ·
         exfalso;split at h'
         ·
          rw[mksW_get _ _ _ hi,mksD_nil] at h';exact hd (List.eq_nil_of_length_eq_zero h')
         · exact hd h'
        · rw[e'];simp[Value.ownBlock]
       ·
        rename_i hdj;rcases Nat.lt_or_gt_of_ne e with hl|hl
        · exact hA.2 i j hl hlt hd hdj
        · exact fun e'=>hA.2 j i hl hi hdj hd e'.symm
    clear hD hR hO hm;generalize (dss.getD j [])=dj at o1 hlen HM REST;have i1:(0:Int)≤(j:Int):=Int.natCast_nonneg _;have i2:(j:Int)<(dss.length:Int):=by omega
    go_wp2_with fail
    refine (markD_any _ _ _ _ _ o1 (by omega) (by omega) (by omega)).mono ?_;rintro e wz ⟨rfl,hz,gz⟩;obtain⟨R1,R2,R3⟩:=REST wz hz gz;clear REST hz gz o1 c1;go_wp2;go_roundw;case rel=>exact⟨j+1,m+dj.length,by omega,by go_num,by go_num,HM,R1,R2,R3⟩
    case measure=>simp[intOf];omega
   ·
    have:j=dss.length:=by omega
    subst this;rw[List.take_length] at hm;go_wp2;go_ret;refine⟨by rw[←hm.out];rfl,⟨_,cap,by rw[mksW_len],.inr ⟨g,V,rfl,hg,by rw[mksW_len];exact hR,?_,?_⟩⟩,hO⟩
    ·
     intro i hi;rw[mksW_len] at hi;have:=hD i hi;rw[if_pos hi] at this;exact this
    ·
     rw[mksW_len]
     have nz:∀i,i<dss.length→(mksW k dss).getD i []≠[]→dss.getD i []≠[]:=by
      intro i hi hd e;rw[mksW_get _ _ _ hi,e] at hd;exact hd rfl
     exact⟨fun i hi hd=>hA.1 i hi (nz i hi hd),fun i j hij hj hd he=>hA.2 i j hij hj (nz i (by omega) hd) (nz j hj he)⟩
end Go.Proofs.YtkmjmnljkidobaaGreat
