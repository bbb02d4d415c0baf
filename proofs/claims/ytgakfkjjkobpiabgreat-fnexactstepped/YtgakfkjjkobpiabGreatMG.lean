/- Gathered texts. -/
import Derived.Outline
import Derived.RegionTactic
import Derived.Deep.QuietTactic
import Derived.BigQuiet
import Derived.Test.YtgakfkjjkobpiabGreatME
import Derived.Lib.Hide
set_option maxRecDepth 100000
set_option maxHeartbeats 8000000
namespace Go.Proofs.YtgakfkjjkobpiabGreat
open Go.ChangeShapes Go.WideShapes Go.ChangeAt Go.RowKit
theorem made_ints (n:Nat):(madeCells (Value.int .i64 0).cells (n*1)).toList=((List.replicate n (0:Int)).map (Value.int .i64)):=by
 rw[Nat.mul_one,List.map_replicate];exact toList_madeCells_one _ _
theorem set_copied (zs:List Int)(j:Nat)(hj:j<zs.length):
  ((zs.take j++List.replicate (zs.length-j) 0).map (Value.int .i64)).set j (.int .i64 (zs.getD j 0))=(zs.take (j+1)++List.replicate (zs.length-(j+1)) 0).map (Value.int .i64):=by
 have e:(zs.take j++List.replicate (zs.length-j) 0).set j (zs.getD j 0)=zs.take (j+1)++List.replicate (zs.length-(j+1)) 0:=by
  have hl:(zs.take j).length=j:=by rw[List.length_take];omega
  rw[List.set_append_right _ _ (by rw[hl];exact Nat.le_refl _),hl,Nat.sub_self,show zs.length-j=(zs.length-(j+1))+1 from by omega,List.replicate_succ,List.set_cons_zero,take_snoc zs j hj,List.append_assoc];rfl
 rw[←e,List.map_set]
theorem copied_len (zs:List Int)(j:Nat)(hj:j≤zs.length):(zs.take j++List.replicate (zs.length-j) (0:Int)).length=zs.length:=by
 rw[List.length_append,List.length_take,List.length_replicate];omega
theorem to_any (w:World)(v:Value)(zs:List Int)(h:Rd w v zs)(hn:zs.length≤1048576):
  Calls Tryz.prog 16 #[v] w fun e w'=>∃v',e = .returned v'∧Own w' w.heap.size v' zs∧Keep w w':=by
 obtain⟨a,c,rfl,h⟩:=h;obtain⟨i0,hi,hz0,hz1,hz2⟩:=info_parts Tryz.infoI;go_enter Tryz.func16,Tryz.ntmps16
 go_wp2_with (at_make;refine wpList_make_full _ rfl _ _ 23 rfl w.heap.size 2 i0 (.int .i64 0) 1 Tryz.underlying23 hi hz0 hz1 .i64 .i64 _ _ zs.length rfl rfl rfl rfl (by rw[hz2];omega) (by unfold maxLen;omega) (Nat.le_refl _) ?_;intro w1 hown hgrow)
 rw[made_ints] at hown;have hk1:Keep w w1:=(Keep.refl w).grown hgrow (by simp);clear hgrow;go_loopw [4] (fun i wr=>∃j:Nat,j≤zs.length∧i = .int .i64 j∧wr.ownsRow w.heap.size 2 1 (.slice (some ⟨w.heap.size,0,none⟩) zs.length zs.length) zs.length ((zs.take j++List.replicate (zs.length-j) 0).map (Value.int .i64))∧Keep w wr) (fun i _=>zs.length-(intOf i).toNat)
 case atStart=>exact⟨0,Nat.zero_le _,rfl,by simpa using hown,hk1⟩
 case round=>
  obtain⟨j,hj,rfl,ho,hK⟩:=hrel;by_cases hlt:j<zs.length
  ·
   rcases h with h|⟨b,o,rfl,hb,hc⟩
   · exfalso;rw[h] at hlt;simp at hlt
   have d0:=(hK.cell hb).trans (hc j hlt);have d1:=World.ownsRow.cellAt ho j (by omega);have d2:=World.ownsRow.frozenAt ho j;have hs:=World.ownsRow.stored ho j (.int .i64 (zs.getD j 0));rw[set_copied zs j hlt] at hs;obtain⟨u,hu⟩:∃u,((zs.take j++List.replicate (zs.length-j) 0).map (Value.int .i64))[j]? = some u:=⟨_,List.getElem?_eq_getElem (by rw[List.length_map,copied_len zs j hj];exact hlt)⟩;rw[hu] at d1;obtain⟨p,hp⟩:∃p,p=zs.getD j 0:=⟨_,rfl⟩;rw[←hp] at d0 hs;clear hu hc hp hown hk1;go_wp2;go_roundw;case rel=>exact⟨j+1,by omega,by go_num,hs.1,hK.grown hs.2 (by simp)⟩
   case measure=>simp[intOf];omega
  ·
   have:j=zs.length:=by omega
   subst this;go_wp2;go_ret;refine⟨_,rfl,?_,hK⟩;unfold Own
   simpa using ho
theorem take_eq_step {xs ys:List Int}{k:Nat}(hx:k<xs.length)(hy:k<ys.length)(h:xs.take k=ys.take k)(e:xs.getD k 0=ys.getD k 0):xs.take (k+1)=ys.take (k+1):=by
 rw[take_snoc xs k hx,take_snoc ys k hy,h,e]
theorem ne_of_getD {xs ys:List Int}{k:Nat}(h:xs.getD k 0≠ys.getD k 0):xs≠ys:=by
 intro e;subst e;exact h rfl
theorem eq_any (w:World)(v1 v2:Value)(xs ys:List Int)(h1:Rd w v1 xs)(h2:Rd w v2 ys)(hx:xs.length≤1048576):
  Calls Tryz.prog 19 #[v1,v2] w fun e w'=>e = .returned (.bool (decide (xs=ys)))∧Keep w w':=by
 obtain⟨a1,c1,rfl,h1⟩:=h1;obtain⟨a2,c2,rfl,h2⟩:=h2;by_cases hl:xs.length=ys.length
 ·
  have hlb:((xs.length:Int) != (ys.length:Int))=false:=by simp[hl]
  have hl1:xs.length≤ys.length:=by omega
  have hl2:ys.length≤xs.length:=by omega
  clear hl;go_enter Tryz.func19,Tryz.ntmps19
  go_wp2;go_loopw [5] (fun i wr=>∃k:Nat,k≤xs.length∧i = .int .i64 k∧xs.take k=ys.take k∧Keep w wr) (fun i _=>xs.length-(intOf i).toNat)
  case atStart=>exact⟨0,Nat.zero_le _,rfl,by simp,Keep.refl _⟩
  case round=>
   obtain⟨k,hk,rfl,ht,hK⟩:=hrel;by_cases hlt:k<xs.length
   ·
    rcases h1 with h|⟨b1,o1,rfl,hb1,hc1⟩
    · subst h;simp at hlt
    rcases h2 with h|⟨b2,o2,rfl,hb2,hc2⟩
    · exfalso;rw[h] at hl1;simp only[List.length_nil] at hl1;omega
    have hy2:k<ys.length:=by omega
    have d1:=(hK.cell hb1).trans (hc1 k hlt);have d2:=(hK.cell hb2).trans (hc2 k hy2);clear hc1 hc2;obtain⟨p,hp⟩:∃p,p=xs.getD k 0:=⟨_,rfl⟩;obtain⟨q,hq⟩:∃q,q=ys.getD k 0:=⟨_,rfl⟩;rw[←hp] at d1;rw[←hq] at d2;have HP:Hid (p=xs.getD k 0):=hp;have HQ:Hid (q=ys.getD k 0):=hq;have HT:Hid (xs.take k=ys.take k):=ht;clear hp hq ht;by_cases he:p=q
    ·
     have hne:(p != q)=false:=by simp[he]
     have HE:Hid (p=q):=he;clear he;go_wp2;go_quiet (fail)
     go_wp2;go_roundw;case rel=>exact⟨k+1,by omega,by go_num,take_eq_step hlt hy2 HT.out (by rw[←HP.out,←HQ.out];exact HE.out),hK.drewN _⟩
     case measure=>simp[intOf];omega
    ·
     have hne:(p != q)=true:=by simp[he]
     have HE:Hid (p≠q):=he;clear he;go_wp2;go_quiet (fail)
     go_wp2;go_ret;refine⟨ret_bool ?_,?_⟩
     ·
      have:=ne_of_getD (xs:=xs) (ys:=ys) (k:=k) (by rw[←HP.out,←HQ.out];exact HE.out);simp[this]
     · exact hK.drewN _
   ·
    go_wp2;go_ret;refine⟨ret_bool ?_,hK⟩;rw[List.take_of_length_le (by omega),List.take_of_length_le (by omega)] at ht;simp[ht]
 ·
  have hlb:((xs.length:Int) != (ys.length:Int))=true:=by simp;omega
  have HL:Hid (¬xs.length=ys.length):=hl;clear hl;go_enter Tryz.func19,Tryz.ntmps19
  go_wp2;go_ret;refine⟨ret_bool ?_,Keep.refl _⟩;have:xs≠ys:=fun e=>HL.out (by rw[e])
  simp[this]
theorem markI_row (w:World)(a:Option Addr)(n cap:Nat)(k:Int)(hs:n=0∨∃b o,a=some ⟨b,o,none⟩)(hw:∀x,rowS (.slice a n cap) (n) x→Wb w x)(hn:n≤1048576)(h0:1≤k)(h1:k≤16777216):
  Calls Tryz.prog 21 #[.slice a n cap,.int .i64 k] w fun e w'=>e = .returned (.int .i64 (k+n))∧Wrt (rowS (.slice a n cap) (n)) w w'∧Mkd w' (.slice a n cap) (n) k:=by
 by_cases hz:n=0
 ·
  subst hz;clear hs hw;go_enter Tryz.func21,Tryz.ntmps21
  go_wp2;refine wp_loop_rounds 1 ?_;rw[rounds_succ];go_wp2;go_ret;exact⟨by simp,Wrt.refl _ _,fun b o l c i _ hi=>absurd hi (by omega)⟩
 ·
  obtain⟨b,o,rfl⟩:∃b o,a=some ⟨b,o,none⟩:=by
   rcases hs with h|h
   · exact absurd h hz
   · exact h
  have HS:=Lib.hid (fun (i:Nat) (hi:i<n)=>(show rowS (.slice (some ⟨b,o,none⟩) n cap) (n) ⟨b,o+i,none⟩ from ⟨b,o,n,cap,i,rfl,hi,rfl⟩));have HW:=Lib.hid hw;clear hs hw;generalize hS:rowS (.slice (some ⟨b,o,none⟩) n cap) (n)=S at HS HW ⊢;go_enter Tryz.func21,Tryz.ntmps21
  go_wp2;go_loopw [1,5] (fun q i wr=>∃j:Nat,j≤n∧i = .int .i64 j∧q = .int .i64 (k+(j:Int))∧Wrt S w wr∧Hid (∀i,i<j→wr.cell? ⟨b,o+i,none⟩=some (.int .i64 (k+(i:Int))))) (fun _ i _=>n-(intOf i).toNat)
  case atStart=>exact⟨0,Nat.zero_le _,rfl,by simp,Wrt.refl _ _,Lib.hid (fun i hi=>absurd hi (by omega))⟩
  case round=>
   obtain⟨j,hj,rfl,rfl,hG,hA⟩:=hrel;by_cases hlt:j<n
   ·
    have s0:S ⟨b,o+j,none⟩:=by have:=HS.out (j) (by omega);rw[show o+(j)=o+j by omega] at this;exact this
    have b0:=(HW.out _ s0).kept hG;obtain⟨u0,c0⟩:=b0.cell;have f0:=b0.free;have G:Wrt S w (wr.setCell ⟨b,o+j,none⟩ (.int .i64 (k+(j:Int)))):=(hG.set _ b0 s0)
    have HC:Hid (∀i,i<j+1→(wr.setCell ⟨b,o+j,none⟩ (.int .i64 (k+(j:Int)))).cell? ⟨b,o+i,none⟩=some (.int .i64 (k+(i:Int)))):=Lib.hid (fun i hi=>by
     by_cases e:i<j
     · rw[set_other _ (by omega)];exact hA.out i e
     ·
      obtain rfl:i=j:=by omega
      exact set_cell _ b0)
    clear hA hG b0 s0;have i1:(0:Int)≤(j:Int):=Int.natCast_nonneg _;have i2:(j:Int)<(n:Int):=by omega
    go_wp2;go_roundw;case rel=>exact⟨j+1,by omega,by go_num,by go_num,G,HC⟩
    case measure=>simp[intOf];omega
   ·
    have:j=n:=by omega
    subst this;go_wp2;go_ret;refine⟨rfl,hG,fun b' o' l c i e hi=>?_⟩;simp only[Value.slice.injEq,Option.some.injEq,Addr.mk.injEq,and_true] at e;obtain⟨⟨rfl,rfl⟩,rfl,rfl⟩:=e;exact hA.out i hi
theorem markDd_row (w:World)(a:Option Addr)(n cap:Nat)(k:Int)(hs:n=0∨∃b o,a=some ⟨b,o,none⟩)(hw:∀x,rowS (.slice a n cap) (4*n) x→Wb w x)(hn:n≤1048576)(h0:1≤k)(h1:k≤16777216):
  Calls Tryz.prog 52 #[.slice a n cap,.int .i64 k] w fun e w'=>e = .returned (.int .i64 (k+4*n))∧Wrt (rowS (.slice a n cap) (4*n)) w w'∧Mkd w' (.slice a n cap) (4*n) k:=by
 by_cases hz:n=0
 ·
  subst hz;clear hs hw;go_enter Tryz.func52,Tryz.ntmps52
  go_wp2;refine wp_loop_rounds 1 ?_;rw[rounds_succ];go_wp2;go_ret;exact⟨by simp,Wrt.refl _ _,fun b o l c i _ hi=>absurd hi (by omega)⟩
 ·
  obtain⟨b,o,rfl⟩:∃b o,a=some ⟨b,o,none⟩:=by
   rcases hs with h|h
   · exact absurd h hz
   · exact h
  have HS:=Lib.hid (fun (i:Nat) (hi:i<4*n)=>(show rowS (.slice (some ⟨b,o,none⟩) n cap) (4*n) ⟨b,o+i,none⟩ from ⟨b,o,n,cap,i,rfl,hi,rfl⟩));have HW:=Lib.hid hw;clear hs hw;generalize hS:rowS (.slice (some ⟨b,o,none⟩) n cap) (4*n)=S at HS HW ⊢;go_enter Tryz.func52,Tryz.ntmps52
  go_wp2;go_loopw [1,5] (fun q i wr=>∃j:Nat,j≤n∧i = .int .i64 j∧q = .int .i64 (k+4*(j:Int))∧Wrt S w wr∧Hid (∀i,i<4*j→wr.cell? ⟨b,o+i,none⟩=some (.int .i64 (k+(i:Int))))) (fun _ i _=>n-(intOf i).toNat)
  case atStart=>exact⟨0,Nat.zero_le _,rfl,by simp,Wrt.refl _ _,Lib.hid (fun i hi=>absurd hi (by omega))⟩
  case round=>
   obtain⟨j,hj,rfl,rfl,hG,hA⟩:=hrel;by_cases hlt:j<n
   ·
    have s0:S ⟨b,o+j*4,none⟩:=by have:=HS.out (4*j) (by omega);rw[show o+(4*j)=o+j*4 by omega] at this;exact this
    have s1:S ⟨b,o+j*4+1,none⟩:=by have:=HS.out (4*j+1) (by omega);rw[show o+(4*j+1)=o+j*4+1 by omega] at this;exact this
    have s2:S ⟨b,o+j*4+2,none⟩:=by have:=HS.out (4*j+2) (by omega);rw[show o+(4*j+2)=o+j*4+2 by omega] at this;exact this
    have s3:S ⟨b,o+j*4+3,none⟩:=by have:=HS.out (4*j+3) (by omega);rw[show o+(4*j+3)=o+j*4+3 by omega] at this;exact this
    have b0:=(HW.out _ s0).kept hG;obtain⟨u0,c0⟩:=b0.cell;have f0:=b0.free;have b1:=(HW.out _ s1).kept hG;obtain⟨u1,c1⟩:=b1.cell;have f1:=b1.free;have b2:=(HW.out _ s2).kept hG;obtain⟨u2,c2⟩:=b2.cell;have f2:=b2.free;have b3:=(HW.out _ s3).kept hG;obtain⟨u3,c3⟩:=b3.cell;have f3:=b3.free;have G:Wrt S w ((((wr.setCell ⟨b,o+j*4,none⟩ (.int .i64 (k+4*(j:Int)))).setCell ⟨b,o+j*4+1,none⟩ (.int .i64 (k+4*(j:Int)+1))).setCell ⟨b,o+j*4+2,none⟩ (.int .i64 (k+4*(j:Int)+1+1))).setCell ⟨b,o+j*4+3,none⟩ (.int .i64 (k+4*(j:Int)+1+1+1))):=((((hG.set _ b0 s0).set _ (Wb.set _ b1) s1).set _ (Wb.set _ (Wb.set _ b2)) s2).set _ (Wb.set _ (Wb.set _ (Wb.set _ b3))) s3)
    have HC:Hid (∀i,i<4*(j+1)→((((wr.setCell ⟨b,o+j*4,none⟩ (.int .i64 (k+4*(j:Int)))).setCell ⟨b,o+j*4+1,none⟩ (.int .i64 (k+4*(j:Int)+1))).setCell ⟨b,o+j*4+2,none⟩ (.int .i64 (k+4*(j:Int)+1+1))).setCell ⟨b,o+j*4+3,none⟩ (.int .i64 (k+4*(j:Int)+1+1+1))).cell? ⟨b,o+i,none⟩=some (.int .i64 (k+(i:Int)))):=Lib.hid (fun i hi=>by
     by_cases e:i<4*j
     · rw[set_other _ (by omega),set_other _ (by omega),set_other _ (by omega),set_other _ (by omega)];exact hA.out i e
     ·
      have:i=4*j∨i=4*j+1∨i=4*j+2∨i=4*j+3:=by omega
      rcases this with rfl|rfl|rfl|rfl
      · rw[show o+(4*j)=o+j*4 by omega,show k+((4*j:Nat):Int)=k+4*(j:Int) by omega,set_other _ (by omega),set_other _ (by omega),set_other _ (by omega)];exact set_cell _ b0
      · rw[show o+(4*j+1)=o+j*4+1 by omega,show k+((4*j+1:Nat):Int)=k+4*(j:Int)+1 by omega,set_other _ (by omega),set_other _ (by omega)];exact set_cell _ (Wb.set _ b1)
      · rw[show o+(4*j+2)=o+j*4+2 by omega,show k+((4*j+2:Nat):Int)=k+4*(j:Int)+1+1 by omega,set_other _ (by omega)];exact set_cell _ (Wb.set _ (Wb.set _ b2))
      · rw[show o+(4*j+3)=o+j*4+3 by omega,show k+((4*j+3:Nat):Int)=k+4*(j:Int)+1+1+1 by omega];exact set_cell _ (Wb.set _ (Wb.set _ (Wb.set _ b3))))
    clear hA hG b0 s0 b1 s1 b2 s2 b3 s3;have i1:(0:Int)≤(j:Int):=Int.natCast_nonneg _;have i2:(j:Int)<(n:Int):=by omega
    go_wp2;go_roundw;case rel=>exact⟨j+1,by omega,by go_num,by go_num,G,HC⟩
    case measure=>simp[intOf];omega
   ·
    have:j=n:=by omega
    subst this;go_wp2;go_ret;refine⟨rfl,hG,fun b' o' l c i e hi=>?_⟩;simp only[Value.slice.injEq,Option.some.injEq,Addr.mk.injEq,and_true] at e;obtain⟨⟨rfl,rfl⟩,rfl,rfl⟩:=e;exact hA.out i hi
theorem markN_row (w:World)(a:Option Addr)(n cap:Nat)(k:Int)(hs:n=0∨∃b o,a=some ⟨b,o,none⟩)(hw:∀x,rowS (.slice a n cap) (3*n) x→Wb w x)(hn:n≤1048576)(h0:1≤k)(h1:k≤16777216):
  Calls Tryz.prog 76 #[.slice a n cap,.int .i64 k] w fun e w'=>e = .returned (.int .i64 (k+3*n))∧Wrt (rowS (.slice a n cap) (3*n)) w w'∧Mkd w' (.slice a n cap) (3*n) k:=by
 by_cases hz:n=0
 ·
  subst hz;clear hs hw;go_enter Tryz.func76,Tryz.ntmps76
  go_wp2;refine wp_loop_rounds 1 ?_;rw[rounds_succ];go_wp2;go_ret;exact⟨by simp,Wrt.refl _ _,fun b o l c i _ hi=>absurd hi (by omega)⟩
 ·
  obtain⟨b,o,rfl⟩:∃b o,a=some ⟨b,o,none⟩:=by
   rcases hs with h|h
   · exact absurd h hz
   · exact h
  have HS:=Lib.hid (fun (i:Nat) (hi:i<3*n)=>(show rowS (.slice (some ⟨b,o,none⟩) n cap) (3*n) ⟨b,o+i,none⟩ from ⟨b,o,n,cap,i,rfl,hi,rfl⟩));have HW:=Lib.hid hw;clear hs hw;generalize hS:rowS (.slice (some ⟨b,o,none⟩) n cap) (3*n)=S at HS HW ⊢;go_enter Tryz.func76,Tryz.ntmps76
  go_wp2;go_loopw [1,5] (fun q i wr=>∃j:Nat,j≤n∧i = .int .i64 j∧q = .int .i64 (k+3*(j:Int))∧Wrt S w wr∧Hid (∀i,i<3*j→wr.cell? ⟨b,o+i,none⟩=some (.int .i64 (k+(i:Int))))) (fun _ i _=>n-(intOf i).toNat)
  case atStart=>exact⟨0,Nat.zero_le _,rfl,by simp,Wrt.refl _ _,Lib.hid (fun i hi=>absurd hi (by omega))⟩
  case round=>
   obtain⟨j,hj,rfl,rfl,hG,hA⟩:=hrel;by_cases hlt:j<n
   ·
    have s0:S ⟨b,o+j*3,none⟩:=by have:=HS.out (3*j) (by omega);rw[show o+(3*j)=o+j*3 by omega] at this;exact this
    have s1:S ⟨b,o+j*3+1,none⟩:=by have:=HS.out (3*j+1) (by omega);rw[show o+(3*j+1)=o+j*3+1 by omega] at this;exact this
    have s2:S ⟨b,o+j*3+2,none⟩:=by have:=HS.out (3*j+2) (by omega);rw[show o+(3*j+2)=o+j*3+2 by omega] at this;exact this
    have b0:=(HW.out _ s0).kept hG;obtain⟨u0,c0⟩:=b0.cell;have f0:=b0.free;have b1:=(HW.out _ s1).kept hG;obtain⟨u1,c1⟩:=b1.cell;have f1:=b1.free;have b2:=(HW.out _ s2).kept hG;obtain⟨u2,c2⟩:=b2.cell;have f2:=b2.free;have G:Wrt S w (((wr.setCell ⟨b,o+j*3,none⟩ (.int .i64 (k+3*(j:Int)))).setCell ⟨b,o+j*3+1,none⟩ (.int .i64 (k+3*(j:Int)+1))).setCell ⟨b,o+j*3+2,none⟩ (.int .i64 (k+3*(j:Int)+1+1))):=(((hG.set _ b0 s0).set _ (Wb.set _ b1) s1).set _ (Wb.set _ (Wb.set _ b2)) s2)
    have HC:Hid (∀i,i<3*(j+1)→(((wr.setCell ⟨b,o+j*3,none⟩ (.int .i64 (k+3*(j:Int)))).setCell ⟨b,o+j*3+1,none⟩ (.int .i64 (k+3*(j:Int)+1))).setCell ⟨b,o+j*3+2,none⟩ (.int .i64 (k+3*(j:Int)+1+1))).cell? ⟨b,o+i,none⟩=some (.int .i64 (k+(i:Int)))):=Lib.hid (fun i hi=>by
     by_cases e:i<3*j
     · rw[set_other _ (by omega),set_other _ (by omega),set_other _ (by omega)];exact hA.out i e
     ·
      have:i=3*j∨i=3*j+1∨i=3*j+2:=by omega
      rcases this with rfl|rfl|rfl
      · rw[show o+(3*j)=o+j*3 by omega,show k+((3*j:Nat):Int)=k+3*(j:Int) by omega,set_other _ (by omega),set_other _ (by omega)];exact set_cell _ b0
      · rw[show o+(3*j+1)=o+j*3+1 by omega,show k+((3*j+1:Nat):Int)=k+3*(j:Int)+1 by omega,set_other _ (by omega)];exact set_cell _ (Wb.set _ b1)
      · rw[show o+(3*j+2)=o+j*3+2 by omega,show k+((3*j+2:Nat):Int)=k+3*(j:Int)+1+1 by omega];exact set_cell _ (Wb.set _ (Wb.set _ b2)))
    clear hA hG b0 s0 b1 s1 b2 s2;have i1:(0:Int)≤(j:Int):=Int.natCast_nonneg _;have i2:(j:Int)<(n:Int):=by omega
    go_wp2;go_roundw;case rel=>exact⟨j+1,by omega,by go_num,by go_num,G,HC⟩
    case measure=>simp[intOf];omega
   ·
    have:j=n:=by omega
    subst this;go_wp2;go_ret;refine⟨rfl,hG,fun b' o' l c i e hi=>?_⟩;simp only[Value.slice.injEq,Option.some.injEq,Addr.mk.injEq,and_true] at e;obtain⟨⟨rfl,rfl⟩,rfl,rfl⟩:=e;exact hA.out i hi
end Go.Proofs.YtgakfkjjkobpiabGreat
