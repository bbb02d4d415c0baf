/- Gathered texts. -/
import Derived.Test.YtgikcfdckddgpabGreatRows
import Derived.OpenShut
import Derived.Outline
import Derived.Laws.CopyOwn
import Derived.BigRegion
import Derived.RegionTactic
import Derived.Lib.Hide
import Derived.Maps.AppendAt
import Derived.Test.YtgikcfdckddgpabGreatMC
import Derived.Deep.RegionHeld3
import Derived.Deep.QuietTactic
import Derived.BigQuiet
import Derived.RangeFuncBox
import Derived.ChangeKeysEq
set_option maxRecDepth 100000
set_option maxHeartbeats 8000000
namespace Go.Proofs.YtgikcfdckddgpabGreat
open Go.ChangeShapes Go.WideShapes Go.ChangeAt Go.RowKit
theorem inSize_any (x:Int)(w:World):
  Calls Tryz.prog 128 #[.int .i64 x] w fun e w'=>e = .returned (.bool (inB x 0 11))∧w'=w:=by
 go_enter Tryz.func128,Tryz.ntmps128
 go_wp2
 all_goals
  go_ret;exact⟨ret_bool (by rw[Bool.eq_iff_iff];unfold inB;simp;omega),rfl⟩
theorem isOf_any (n s:Int)(w:World):
  Calls Tryz.prog 127 #[.int .i64 s,.int .i64 n] w fun e w'=>e = .returned (.bool (okB n s))∧w'=w:=by
 go_enter Tryz.func127,Tryz.ntmps127
 go_wp2
 ·
  go_ret;exact⟨ret_bool (by rw[wrap64_pow n (by assumption) (by assumption),Bool.eq_iff_iff];unfold okB;simp;omega),rfl⟩
 all_goals
  go_ret;exact⟨ret_bool (by rw[Bool.eq_iff_iff];unfold okB;simp;omega),rfl⟩
theorem has_any (s i:Int)(w:World):
  Calls Tryz.prog 108 #[.int .i64 s,.int .i64 i] w fun e w'=>e = .returned (.bool (inSetB s i))∧w'=w:=by
 have key:okB 12 s=inB s 0 4095:=by rw[Bool.eq_iff_iff];unfold okB inB;simp;omega
 cases hs:inB s 0 4095
 ·
  have hk:okB 12 s=false:=key.trans hs;clear key;go_enter Tryz.func108,Tryz.ntmps108
  go_wp2_with (go_at_call 127;refine (isOf_any _ _ _).mono ?_;rintro e w' ⟨rfl,rfl⟩)
  go_ret;exact⟨ret_bool (by simp[inSetB,hs]),rfl⟩
 ·
  have hk:okB 12 s=true:=key.trans hs;clear key;cases hi:inB i 0 11
  ·
   go_enter Tryz.func108,Tryz.ntmps108
   go_wp2_with (first|(go_at_call 127;refine (isOf_any _ _ _).mono ?_;rintro e w' ⟨rfl,rfl⟩)|(go_at_call 128;refine (inSize_any _ _).mono ?_;rintro e w' ⟨rfl,rfl⟩))
   go_ret;exact⟨ret_bool (by simp[inSetB,hi]),rfl⟩
  ·
   have hi':=hi;simp only[inB,decide_eq_true_eq] at hi';obtain⟨i1,i2⟩:=hi';go_enter Tryz.func108,Tryz.ntmps108
   go_wp2_with (first|(go_at_call 127;refine (isOf_any _ _ _).mono ?_;rintro e w' ⟨rfl,rfl⟩)|(go_at_call 128;refine (inSize_any _ _).mono ?_;rintro e w' ⟨rfl,rfl⟩))
   go_ret;exact⟨ret_bool (by simp[inSetB,hs,hi,bitB]),rfl⟩
theorem size_any (w:World)(a:Option Addr)(len cap:Nat):
  Calls Tryz.prog 129 #[.slice a len cap] w fun e w'=>e = .returned (.int .i64 len)∧w'=w:=by
 go_enter Tryz.func129,Tryz.ntmps129
 go_wp2;go_ret;exact⟨rfl,rfl⟩
theorem webRight_any (w:World)(v:Value)(zs:List Int)(h:Rd w v zs)(hn:zs.length≤1048576):
  Calls Tryz.prog 109 #[v] w fun e w'=>e = .returned (.bool (webB zs))∧w'=w:=by
 obtain⟨a,c,rfl,h⟩:=h;go_enter Tryz.func109,Tryz.ntmps109
 go_wp2;go_loop [7] (fun i=>∃k:Nat,k≤zs.length∧i = .int .i64 k∧∀j,j<k→okB zs.length (zs.getD j 0)=true) (fun i=>zs.length-(intOf i).toNat)
 case atStart=>exact⟨0,Nat.zero_le _,rfl,fun j hj=>by omega⟩
 case round=>
  obtain⟨k,hk,rfl,hall⟩:=hrel;have HA:Hid (∀j,j<k→okB zs.length (zs.getD j 0)=true):=hall;clear hall;by_cases hlt:k<zs.length
  ·
   rcases h with h|⟨b,o,rfl,hb,hc⟩
   · exfalso;rw[h] at hlt;simp at hlt
   have d0:=hc k hlt;obtain⟨p,hp⟩:∃p,p=zs.getD k 0:=⟨_,rfl⟩;have HP:Hid (p=zs.getD k 0):=hp;rw[←hp] at d0;clear hc hp;cases hok:okB zs.length p
   ·
    go_wp2_with (first|(go_at_call 129;refine (size_any _ _ _ _).mono ?_;rintro e w' ⟨rfl,rfl⟩)|(go_at_call 127;refine (isOf_any _ _ _).mono ?_;rintro e w' ⟨rfl,rfl⟩))
    go_ret;exact⟨ret_bool (webB_bad hlt (by rw[←HP.out];exact hok)).symm,rfl⟩
   ·
    go_wp2_with (first|(go_at_call 129;refine (size_any _ _ _ _).mono ?_;rintro e w' ⟨rfl,rfl⟩)|(go_at_call 127;refine (isOf_any _ _ _).mono ?_;rintro e w' ⟨rfl,rfl⟩))
    go_round
    case rel=>
     refine⟨k+1,by omega,by go_num,fun j hj=>?_⟩;by_cases e:j=k
     · subst e;rw[←HP.out];exact hok
     · exact HA.out j (by omega)
    case measure=>simp[intOf];omega
  ·
   go_wp2;go_ret;exact⟨ret_bool (webB_all fun i hi=>HA.out i (by omega)).symm,rfl⟩
theorem implWebOk_any (w:World)(v:Value)(zs:List Int)(h:Rd w v zs)(hn:zs.length≤1048576):
  Calls Tryz.prog 73 #[v] w fun e w'=>e = .returned (.bool (webB zs))∧w'=w:=by
 go_enter Tryz.func73,Tryz.ntmps73
 go_wp2_with (go_at_call 109;refine (webRight_any _ _ _ h hn).mono ?_;rintro e w' ⟨rfl,rfl⟩)
 go_ret;exact⟨rfl,rfl⟩
theorem areAlike_any (w:World)(v1 v2:Value)(xs ys:List Int)(h1:Rd w v1 xs)(h2:Rd w v2 ys)(n1:xs.length≤1048576)(n2:ys.length≤1048576):
  Calls Tryz.prog 111 #[v1,v2] w fun e w'=>e = .returned (.bool (twoB xs ys))∧w'=w:=by
 have r1:=h1;have r2:=h2;obtain⟨a1,c1,rfl,_⟩:=r1;obtain⟨a2,c2,rfl,_⟩:=r2;by_cases hl:xs.length=ys.length
 ·
  have hlb:((xs.length:Int)==(ys.length:Int))=true:=by simp[hl]
  have HL:Hid (xs.length=ys.length):=hl;clear hl;cases ha:webB xs
  ·
   go_enter Tryz.func111,Tryz.ntmps111
   go_wp2_with fail
   refine (webRight_any _ _ _ h1 n1).mono ?_;rintro e w' ⟨rfl,rfl⟩;go_wp2;go_ret;exact⟨ret_bool (by simp[twoB,ha]),rfl⟩
  ·
   go_enter Tryz.func111,Tryz.ntmps111
   go_wp2_with fail
   refine (webRight_any _ _ _ h1 n1).mono ?_;rintro e w' ⟨rfl,rfl⟩;go_wp2_with fail
   refine (webRight_any _ _ _ h2 n2).mono ?_;rintro e w' ⟨rfl,rfl⟩;go_wp2;go_ret;exact⟨ret_bool (by simp[twoB,ha,HL.out]),rfl⟩
 ·
  have hlb:((xs.length:Int)==(ys.length:Int))=false:=by simp;omega
  have HL:Hid (¬xs.length=ys.length):=hl;clear hl;go_enter Tryz.func111,Tryz.ntmps111
  go_wp2;go_ret;exact⟨ret_bool (by simp[twoB,HL.out]),rfl⟩
theorem take_zeros (n:Nat)(h:n≤12):(List.replicate 12 (Value.int .i64 0)).take n=(List.replicate n (0:Int)).map (Value.int .i64):=by
 rw[List.take_replicate,List.map_replicate,Nat.min_eq_left h]
theorem blank_any (w:World)(n:Nat)(hn:n≤12):
  Calls Tryz.prog 87 #[.int .i64 n] w fun e w'=>e = .returned (.slice (some ⟨w.heap.size,0,none⟩) n n)∧RowAt w' w.heap.size (List.replicate n 0)∧Keep w w':=by
 have i1:(0:Int)≤(n:Int):=Int.natCast_nonneg _;have i2:(n:Int)≤12:=by omega
 have i3:(n:Int)≤(n:Int):=Int.le_refl _;go_enter Tryz.func87,Tryz.ntmps87
 go_wp2;go_ret;refine⟨?_,⟨_,_,heap_alloc_new w _,?_⟩,(Keep.refl w).alloc _⟩
 · rfl
 · rw[List.length_replicate];exact take_zeros n hn
theorem owned_any (w:World)(v:Value)(zs:List Int)(h:Rd w v zs)(hn:zs.length≤12):
  Calls Tryz.prog 107 #[v] w fun e w'=>e = .returned (.slice (some ⟨w.heap.size,0,none⟩) zs.length zs.length)∧RowAt w' w.heap.size zs∧Keep w w':=by
 obtain⟨a,c,rfl,h⟩:=h;go_enter Tryz.func107,Tryz.ntmps107
 go_wp2_with fail
 refine (blank_any _ _ hn).mono ?_;rintro e w1 ⟨rfl,⟨cur,t,hh,ht⟩,k1⟩
 have hl:zs.length≤cur.size:=by
  have:=congrArg List.length ht;simp at this;omega
 have hsz:(Tryz.prog.info? 2).map (·.size)=some 1:=by
  have:=Tryz.infoI
  cases hi:Tryz.prog.info? 2 with
  |none=>rw[hi] at this;cases this
  |some i=>rw[hi] at this;simp at this ⊢;exact this.2.1
 have hg0:w1.heap[w.heap.size]? = some (.cells cur.toList.toArray t (0,0)):=by simpa using hh
 have hn0:(zs.map (Value.int .i64)).length=Nat.min zs.length zs.length:=by simp
 have hp0:0<(zs.map (Value.int .i64)).length→∃ad,a=some ad∧∀j v,(zs.map (Value.int .i64))[j]? = some v→w1.cell? (ad.add j)=some v:=by
  intro hpos;rcases h with h|⟨b,o,rfl,hb,hc⟩
  · rw[h] at hpos;simp at hpos
  ·
   refine⟨_,rfl,fun j u hj=>?_⟩;rw[List.getElem?_map] at hj
   have hjl:j<zs.length:=by
    apply Classical.byContradiction;intro hno;rw[List.getElem?_eq_none (by omega)] at hj;cases hj
   have e1:(⟨b,o,none⟩:Addr).add j=⟨b,o+j,none⟩:=by unfold Addr.add;split<;>simp_all
   rw[e1,k1.cell hb,hc j hjl,List.getD_eq_getElem?_getD];rw[List.getElem?_eq_getElem hjl] at hj ⊢
   simpa using hj
 have hf0:0+(zs.map (Value.int .i64)).length≤cur.toList.length:=by simp;omega
 have h10:∀v∈zs.map (Value.int .i64),v.oneCell'=true:=by
  intro u hu;obtain⟨x,_,rfl⟩:=List.mem_map.1 hu;rfl
 clear h hh ht hl;go_wp2_with (refine wpList_copy_splice rfl _ _ _ _ rfl 2 Tryz.underlying86 hsz _ _ _ _ _ _ rfl rfl w.heap.size 0 cur.toList t hg0 (zs.map (Value.int .i64)) hn0 (fun hp=>⟨rfl,hp0 hp⟩) hf0 h10 w.heap.size w k1 (Nat.le_refl _) ?_)
 intro w2 hh2 k2;have HH:=hh2.out;clear hh2;go_wp2;go_ret;refine⟨rfl,⟨_,t,HH,?_⟩,k2⟩;simp[splice]
theorem or_any (s t:Int)(w:World):
  Calls Tryz.prog 95 #[.int .i64 s,.int .i64 t] w fun e w'=>e = .returned (.int .i64 (orI s t))∧w'=w:=by
 go_enter Tryz.func95,Tryz.ntmps95
 go_wp2;go_ret;exact⟨rfl,rfl⟩
theorem mixed_or (w:World)(v1 v2:Value)(xs ys:List Int)(h1:Rd w v1 xs)(h2:Rd w v2 ys)(n1:xs.length≤1048576)(n2:ys.length≤1048576):
  Calls Tryz.prog 94 #[v1,v2,.func (Fn.func 95) #[] #[]] w fun e w'=>∃v',e = .returned v'∧Row w' w.heap.size v' (mixL orI xs ys)∧Keep w w':=by
 have r1:=h1;have r2:=h2;obtain⟨a1,c1,rfl,_⟩:=r1;obtain⟨a2,c2,rfl,_⟩:=r2;cases ht:twoB xs ys
 ·
  go_enter Tryz.func94,Tryz.ntmps94
  go_wp2_with fail
  refine (areAlike_any _ _ _ _ _ h1 h2 n1 n2).mono ?_;rintro e w' ⟨rfl,rfl⟩;go_wp2;go_ret;exact⟨_,rfl,by unfold mixL;rw[ht];exact row_empty _ _,(Keep.refl _).alloc _⟩
 ·
  obtain⟨hl,wx,wy⟩:=twoB_iff.1 ht;have hx12:=webB_len wx;have hy12:=webB_len wy;have HL:Hid (xs.length=ys.length):=hl;have HM:Hid (mixL orI xs ys=List.zipWith orI xs ys):=by show mixL orI xs ys=_;unfold mixL;rw[ht];rfl
  clear wx wy;have hl1:xs.length≤ys.length:=by omega
  have hl2:ys.length≤xs.length:=by omega
  clear hl;go_enter Tryz.func94,Tryz.ntmps94
  go_wp2_with fail
  refine (areAlike_any _ _ _ _ _ h1 h2 n1 n2).mono ?_;rintro e w' ⟨rfl,rfl⟩;go_wp2_with fail
  refine (owned_any _ _ _ h1 hx12).mono ?_;rintro e w1 ⟨rfl,ro,k1⟩;go_wp2_with fail
  obtain⟨a,c,hv,h2⟩:=h2;cases hv;go_loopw [19] (fun i wr=>∃k:Nat,k≤ys.length∧i = .int .i64 k∧RowAt wr w'.heap.size (mixK orI xs ys k)∧Keep w' wr) (fun i _=>ys.length-(intOf i).toNat)
  case atStart=>exact⟨0,Nat.zero_le _,rfl,ro,k1⟩
  case round=>
   obtain⟨k,hk,rfl,hr,hK⟩:=hrel;clear ro k1;by_cases hlt:k<ys.length
   ·
    rcases h2 with h|⟨b,o,rfl,hb,hc⟩
    · exfalso;rw[h] at hlt;simp at hlt
    have hkx:k<xs.length:=by omega
    have d0:=(hK.cell hb).trans (hc k hlt);have d1:=hr.cell (j:=k) (by rw[mixK_len orI HL.out];exact hkx);rw[mixK_get orI HL.out hkx] at d1;have d2:=hr.free k;have hs:=hr.set k (orI (xs.getD k 0) (ys.getD k 0));rw[mixK_set orI HL.out hkx] at hs;have hK2:Keep w' (wr.setCell ⟨w'.heap.size,k,none⟩ (.int .i64 (orI (xs.getD k 0) (ys.getD k 0)))):=hK.grown (grown_set wr w'.heap.size k _) (by simp);generalize xs.getD k 0=p at *;generalize ys.getD k 0=q at *;clear hc;go_wp2_with fail
    refine (or_any _ _ _).mono ?_;rintro e w2 ⟨rfl,rfl⟩;go_wp2;go_roundw;case rel=>exact⟨k+1,by omega,by go_num,hs,hK2⟩
    case measure=>simp[intOf];omega
   ·
    obtain rfl:k=ys.length:=by omega
    go_wp2;go_ret;refine⟨_,rfl,?_,hK⟩;rw[HM.out];rw[←HL.out,mixK_end orI HL.out] at hr;exact row_new hr (Nat.le_refl _) (by rw[List.length_zipWith];omega)
theorem implJoined_any (w:World)(v1 v2:Value)(xs ys:List Int)(h1:Rd w v1 xs)(h2:Rd w v2 ys)(n1:xs.length≤1048576)(n2:ys.length≤1048576):
  Calls Tryz.prog 59 #[v1,v2] w fun e w'=>∃v',e = .returned v'∧Row w' w.heap.size v' (mixL orI xs ys)∧Keep w w':=by
 go_enter Tryz.func59,Tryz.ntmps59
 go_wp2_with fail
 refine (mixed_or _ _ _ _ _ h1 h2 n1 n2).mono ?_;rintro e w2 ⟨v',rfl,o,k⟩;go_wp2;go_ret;exact⟨_,rfl,o,k⟩
theorem toOne_four (w:World)(G:Nat)(v0 v1 v2 v3:Value)(a b c d:List Int)(hG:w.heap[G]? = some (.cells #[v0,v1,v2,v3] 23 (0,0)))(h0:Rd w v0 a)(h1:Rd w v1 b)(h2:Rd w v2 c)(h3:Rd w v3 d)(l0:a.length≤1048576)(l1:b.length≤1048576)(l2:c.length≤1048576)(l3:d.length≤1048576):
  Calls Tryz.prog 58 #[.slice (some ⟨G,0,none⟩) 4 4,.func (Fn.func 59) #[] #[]] w fun e w'=>∃v',e = .returned v'∧Row w' w.heap.size v' (chnL a b c d)∧Keep w w':=by
 have hGl:G<w.heap.size:=(Array.getElem?_eq_some_iff.1 hG).1;have c0:w.cell? ⟨G,0,none⟩=some v0:=by rw[cell_of_row w G 0 _ _ _ hG];rfl
 have c1:w.cell? ⟨G,1,none⟩=some v1:=by rw[cell_of_row w G 1 _ _ _ hG];rfl
 have c2:w.cell? ⟨G,2,none⟩=some v2:=by rw[cell_of_row w G 2 _ _ _ hG];rfl
 have c3:w.cell? ⟨G,3,none⟩=some v3:=by rw[cell_of_row w G 3 _ _ _ hG];rfl
 have lm:=fun (a b:List Int)=>(show (mixL orI a b).length≤1048576 by have:=mixL_len orI a b;omega)
 clear hG;obtain⟨A0,C0,rfl,-⟩:=id h0;obtain⟨A1,C1,rfl,-⟩:=id h1;obtain⟨A2,C2,rfl,-⟩:=id h2;obtain⟨A3,C3,rfl,-⟩:=id h3;go_enter Tryz.func58,Tryz.ntmps58
 go_wp2;refine wp_loop_rounds 5 ?_;rw[rounds_succ];go_wp2;rw[rounds_succ];go_wp2_with fail
 refine (implJoined_any _ _ _ _ _ h0 h1 l0 l1).mono ?_;rintro e w1 ⟨u1,rfl,o1,k1⟩;have s1:=k1.size;have K1:=k1;have r1:=o1.rd;replace c2:=(k1.cell hGl).trans c2;replace c3:=(k1.cell hGl).trans c3;replace h2:=h2.keep k1;replace h3:=h3.keep k1;have g1:G<w1.heap.size:=Nat.lt_of_lt_of_le hGl s1;clear h0 h1 c0 c1 o1 k1;obtain⟨B1,D1,rfl,-⟩:=id r1;go_wp2;rw[rounds_succ];go_wp2_with fail
 refine (implJoined_any _ _ _ _ _ r1 h2 (lm _ _) l2).mono ?_;rintro e w2 ⟨u2,rfl,o2,k2⟩;have s2:=k2.size;have K2:=K1.trans k2;have r2:=o2.rd;replace c3:=(k2.cell g1).trans c3;replace h3:=h3.keep k2;have g2:G<w2.heap.size:=Nat.lt_of_lt_of_le g1 s2;clear h2 c2 o2 k2 r1 K1;obtain⟨B2,D2,rfl,-⟩:=id r2;go_wp2;rw[rounds_succ];go_wp2_with fail
 refine (implJoined_any _ _ _ _ _ r2 h3 (lm _ _) l3).mono ?_;rintro e w3 ⟨u3,rfl,o3,k3⟩;have K3:=K2.trans k3;have b3:w.heap.size≤w2.heap.size:=K2.size;have O3:Row w3 w.heap.size u3 (chnL a b c d):=o3.base_le b3;clear h3 c3 o3 k3 r2 K2;obtain⟨B3,D3,rfl,-⟩:=id O3.rd;go_wp2;rw[rounds_succ];go_wp2;go_ret;exact⟨_,rfl,O3,K3⟩
theorem with_any (s i:Int)(w:World):
  Calls Tryz.prog 121 #[.int .i64 s,.int .i64 i] w fun e w'=>e = .returned (.int .i64 (gAdd s i))∧w'=w:=by
 by_cases hs:s=-1
 ·
  subst hs;go_enter Tryz.func121,Tryz.ntmps121
  go_wp2;go_ret;exact⟨ret_int (gAdd_none i).symm,rfl⟩
 ·
  have hsb:(s == -1)=false:=by simp[hs]
  have HS:Hid (¬s=-1):=hs;clear hs;cases hi:inB i 0 11
  ·
   go_enter Tryz.func121,Tryz.ntmps121
   go_wp2_with (go_at_call 128;refine (inSize_any _ _).mono ?_;rintro e w' ⟨rfl,rfl⟩)
   go_ret;exact⟨ret_int (gAdd_bad s i hi).symm,rfl⟩
  ·
   have hi':=hi;simp only[inB,decide_eq_true_eq] at hi';obtain⟨i1,i2⟩:=hi';go_enter Tryz.func121,Tryz.ntmps121
   go_wp2_with (go_at_call 128;refine (inSize_any _ _).mono ?_;rintro e w' ⟨rfl,rfl⟩)
   go_ret;exact⟨ret_int (by simp[gAdd,HS.out,hi]),rfl⟩
theorem line_any (w:World)(g n cap:Nat)(st:List Int)(j:Nat)(i:Int)(hr:RowAt w g st)(hn:st.length=n)(hj:j<n):
  Calls Tryz.prog 89 #[.slice (some ⟨g,0,none⟩) n cap,.int .i64 j,.int .i64 i] w fun e w'=>e = .returned (.tuple #[])∧RowAt w' g (st.set j (gAdd (st.getD j 0) i))∧w.grownBy w' (some g):=by
 have d1:=hr.cell (j:=j) (by omega);have d2:=hr.free j;have hs:=hr.set j (gAdd (st.getD j 0) i);generalize st.getD j 0=x at *;have hG:=grown_set w g j (.int .i64 (gAdd x i));go_enter Tryz.func89,Tryz.ntmps89
 go_wp2_with fail
 refine (with_any _ _ _).mono ?_;rintro e w' ⟨rfl,rfl⟩;go_wp2;go_end0;exact⟨rfl,hs,hG⟩
abbrev rdV (p:Int):Value:= .iface 130 (.agg #[.int .i64 p])
abbrev wrV (p v:Int):Value:= .iface 127 (.agg #[.int .i64 p,.int .i64 v])
abbrev evA (x0 x1:Int)(r:Bool)(x3 x4 x5:Int):Value:= .agg #[.int .i64 x0,.int .i64 x1,.bool r,.int .i64 x3,.int .i64 x4,.int .i64 x5]
theorem at_rd (p : Int) (w : World) : (method 272 130 (.agg #[.int .i64 p]) "loop.example/g00411/impl.at").run Tryz.prog w = .ok (173, .agg #[.int .i64 p]) w := by kernel_rfl
theorem at_wr (p v : Int) (w : World) : (method 272 127 (.agg #[.int .i64 p, .int .i64 v]) "loop.example/g00411/impl.at").run Tryz.prog w = .ok (172, .agg #[.int .i64 p, .int .i64 v]) w := by kernel_rfl
theorem atRd_any (p:Int)(w:World):Calls Tryz.prog 173 #[.agg #[.int .i64 p]] w fun e w'=>e = .returned (.int .i64 p)∧Keep w w':=by
 go_enter Tryz.func173,Tryz.ntmps173
 go_wp2;go_ret;exact⟨rfl,(Keep.refl w).alloc _⟩
theorem atWr_any (p v:Int)(w:World):Calls Tryz.prog 172 #[.agg #[.int .i64 p,.int .i64 v]] w fun e w'=>e = .returned (.int .i64 p)∧Keep w w':=by
 go_enter Tryz.func172,Tryz.ntmps172
 go_wp2;go_ret;exact⟨rfl,(Keep.refl w).alloc _⟩
theorem as_rd (p:Int)(w:World):(Instr.typeAssert (rdV p) 100 130 true).run Tryz.prog w = .ok (.tuple #[.agg #[.int .i64 p],.bool true]) w:=by kernel_rfl
theorem as_wr (p v:Int)(w:World):(Instr.typeAssert (wrV p v) 100 130 true).run Tryz.prog w = .ok (.tuple #[.agg #[.int .i64 0],.bool false]) w:=by kernel_rfl
theorem as_wr2 (p v:Int)(w:World):(Instr.typeAssert (wrV p v) 100 127 true).run Tryz.prog w = .ok (.tuple #[.agg #[.int .i64 p,.int .i64 v],.bool true]) w:=by kernel_rfl
abbrev put6W (w:World)(B:Nat)(a0 a1 a2 a3 a4 a5:Value):World:=
 (((((w.setCell ⟨B,0,none⟩ a0).setCell ⟨B,1,none⟩ a1).setCell ⟨B,2,none⟩ a2).setCell ⟨B,3,none⟩ a3).setCell ⟨B,4,none⟩ a4).setCell ⟨B,5,none⟩ a5
theorem set6 {w:World}{B:Nat}{T:TypeId}{b0 b1 b2 b3 b4 b5:Value}(h:w.heap[B]? = some (.cells #[b0,b1,b2,b3,b4,b5] T))(a0 a1 a2 a3 a4 a5:Value):
  (put6W w B a0 a1 a2 a3 a4 a5).heap[B]? = some (.cells #[a0,a1,a2,a3,a4,a5] T):=by
 have h0:=heap_setCell_same w B 0 _ _ a0 h;have h1:=heap_setCell_same _ B 1 _ _ a1 h0;have h2:=heap_setCell_same _ B 2 _ _ a2 h1;have h3:=heap_setCell_same _ B 3 _ _ a3 h2;have h4:=heap_setCell_same _ B 4 _ _ a4 h3;exact heap_setCell_same _ B 5 _ _ a5 h4
theorem keep1 {w wr:World}(h:Keep w wr){g:Nat}(hg:w.heap.size≤g)(i:Nat)(x:Value):Keep w (wr.setCell ⟨g,i,none⟩ x):=
 h.grown (row:=some g) ⟨rfl,rfl,rfl,by simp,fun k _ hk=>heap_setCell_other wr ⟨g,i,none⟩ k x (fun e=>hk (by simp[e]))⟩ (fun k hk=>by simp at hk;omega)
theorem keep6 {w wr:World}(h:Keep w wr)(a0 a1 a2 a3 a4 a5:Value):Keep w (put6W wr w.heap.size a0 a1 a2 a3 a4 a5):=
 keep1 (keep1 (keep1 (keep1 (keep1 (keep1 h (Nat.le_refl _) 0 a0) (Nat.le_refl _) 1 a1) (Nat.le_refl _) 2 a2) (Nat.le_refl _) 3 a3) (Nat.le_refl _) 4 a4) (Nat.le_refl _) 5 a5
theorem size6 (w:World)(B:Nat)(a0 a1 a2 a3 a4 a5:Value):(put6W w B a0 a1 a2 a3 a4 a5).heap.size=w.heap.size:=by simp
theorem eventOf_rd (p:Int)(w:World):
  Calls Tryz.prog 83 #[rdV p] w fun e w'=>e = .returned (evA 0 0 true p 0 0)∧Keep w w':=by
 have hm:=at_rd p;have ha:=as_rd p;go_enter Tryz.func83,Tryz.ntmps83
 go_wp2_with fail
 refine (atRd_any _ _).mono ?_;rintro e w1 ⟨rfl,k1⟩;have hb:=box_size k1;have hh:=box_heap k1;have b0:=box_cell k1 0;have b1:=box_cell k1 1;have b2:=box_cell k1 2;have b3:=box_cell k1 3;have b4:=box_cell k1 4;have b5:=box_cell k1 5;have hfr:=fun j=>frozen_of_row w1 w.heap.size j _ _ (box_heap k1)
 have S:=set6 hh (.int .i64 0) (.int .i64 0) (.bool true) (.int .i64 p) (.int .i64 0) (.int .i64 0);have K:=keep6 (((Keep.refl w).alloc _).trans k1) (.int .i64 0) (.int .i64 0) (.bool true) (.int .i64 p) (.int .i64 0) (.int .i64 0);have Z:=size6 w1 w.heap.size (.int .i64 0) (.int .i64 0) (.bool true) (.int .i64 p) (.int .i64 0) (.int .i64 0);go_wp2;refine bodyPost_ret (results_row (by rfl) _ _ w.heap.size _ _ _ _ rfl (by rw[heap_at,if_neg (by rw[heap_size,Z];omega),heap_at,if_neg (by rw[Z];omega)];exact S) Tryz.underlying64 rfl (by kernel_rfl)) rfl ?_;exact⟨rfl,(K.alloc _).alloc _⟩
theorem eventOf_wr (p v:Int)(w:World):
  Calls Tryz.prog 83 #[wrV p v] w fun e w'=>e = .returned (evA 0 0 false p v 0)∧Keep w w':=by
 have hm:=at_wr p v;have ha:=as_wr p v;have hc:=as_wr2 p v;go_enter Tryz.func83,Tryz.ntmps83
 go_wp2_with fail
 refine (atWr_any _ _ _).mono ?_;rintro e w1 ⟨rfl,k1⟩;have hb:=box_size k1;have hh:=box_heap k1;have b0:=box_cell k1 0;have b1:=box_cell k1 1;have b2:=box_cell k1 2;have b3:=box_cell k1 3;have b4:=box_cell k1 4;have b5:=box_cell k1 5;have hfr:=fun j=>frozen_of_row w1 w.heap.size j _ _ (box_heap k1)
 have S:=set6 hh (.int .i64 0) (.int .i64 0) (.bool false) (.int .i64 p) (.int .i64 v) (.int .i64 0);have K:=keep6 (((Keep.refl w).alloc _).trans k1) (.int .i64 0) (.int .i64 0) (.bool false) (.int .i64 p) (.int .i64 v) (.int .i64 0);have Z:=size6 w1 w.heap.size (.int .i64 0) (.int .i64 0) (.bool false) (.int .i64 p) (.int .i64 v) (.int .i64 0);go_wp2;refine bodyPost_ret (results_row (by rfl) _ _ w.heap.size _ _ _ _ rfl (by rw[heap_at,if_neg (by rw[heap_size,Z];omega),heap_at,if_neg (by rw[Z];omega)];exact S) Tryz.underlying64 rfl (by kernel_rfl)) rfl ?_;exact⟨rfl,(K.alloc _).alloc _⟩
theorem beginnings_any (w:World):
  Calls Tryz.prog 78 #[] w fun e w'=>∃v',e = .returned v'∧AppE w' w.heap.size v' evBeg∧Keep w w':=by
 obtain⟨j0,hj,hy0,hy1,hy2⟩:=info_parts Tryz.infoE;have A0:AppE (w.alloc (.cells #[] 64)) w.heap.size (.slice (some ⟨w.heap.size,0,none⟩) 0 0) []:=appT_empty w;go_enter Tryz.func78,Tryz.ntmps78
 go_wp2;go_loopw [1,5] (fun v i wr=>∃k:Nat,∃m:Int,∃es:List Ev,k≤3∧i = .int .i64 m∧m=(k:Int)∧Hid (es=evBeg.take k)∧es.length≤k∧LP w wr v es []) (fun _ i _=>3-(intOf i).toNat)
 case atStart=>exact⟨0,0,[],Nat.zero_le _,rfl,rfl,Lib.hid rfl,Nat.le_refl _,A0,(Keep.refl _).alloc _,by simp⟩
 case round=>
  obtain⟨k,m,es,hk,rfl,hm,hE,hel,hL⟩:=hrel;clear A0;by_cases hlt:k<3
  ·
   subst hm
   have HM:Hid (es++[((-1:Int),(-1:Int),false,(k:Int),0,(k:Int))]=evBeg.take (k+1)):=Lib.hid (by
    rw[hE.out];have:k=0∨k=1∨k=2:=by omega
    rcases this with rfl|rfl|rfl<;>rfl)
   clear hE;go_wp2_with fail
   refine (eventOf_wr _ _ _).mono ?_;rintro e w2 ⟨rfl,k2⟩;have L2:=hL.more k2;have hsz:=L2.keep.size;have L3:=(L2.more ((Keep.refl w2).alloc (eO (-1) (-1) false k 0 k))).more ((Keep.refl _).alloc (eO (-1) (-1) false k 0 k));go_wp2_with (at_builtin;refine wpList_append_own_at _ rfl _ _ 44 rfl w.heap.size 64 j0 (.agg #[.int .i64 0,.int .i64 0,.bool false,.int .i64 0,.int .i64 0,.int .i64 0]) 6 48 Tryz.underlying44 hj hy0 hy1 hy2 rfl (by decide) _ _ _ rfl L3.app ⟨_,0,none⟩ 1 1 (cE ((-1:Int),(-1:Int),false,(k:Int),0,(k:Int))) rfl rfl ?c1 ?c2 ?c3 ?c4 ?c5 ?_)
   case c1=>exact cE_newP _ _ (heap_size _ _) _ _ _ _ _ _
   case c2=>exact cE_oneP _
   case c3=>unfold maxLen;omega
   case c4=>omega
   case c5=>simp;omega
   intro v' w1 hown' hgrow _ hblk;have L4:=L3.hit _ hown' hgrow (by rw[heap_size,heap_size];exact hblk);clear hgrow hown' hblk L3 L2 hL;go_wp2;go_roundw;case rel=>exact⟨k+1,_,_,by omega,rfl,by omega,HM,by simp;omega,L4⟩
   case measure=>simp[intOf];omega
  obtain rfl:m=3:=by omega
  have HB:Hid (es=evBeg):=Lib.hid (by rw[hE.out,show k=3 by omega];rfl);clear hE hm;go_wp2;go_ret;exact⟨_,rfl,by rw[←HB.out];exact hL.app,hL.keep⟩
theorem areAt_any (w:World)(x0 x1:Int)(x2:Bool)(x3 x4 x5 y0 y1:Int)(y2:Bool)(y3 y4 y5:Int):
  Calls Tryz.prog 88 #[eA x0 x1 x2 x3 x4 x5,eA y0 y1 y2 y3 y4 y5] w fun e w'=>e = .returned (.bool (onpE (x0,x1,x2,x3,x4,x5) (y0,y1,y2,y3,y4,y5)))∧Keep w w':=by
 go_enter Tryz.func88,Tryz.ntmps88
 go_wp2;go_ret;exact⟨rfl,((Keep.refl w).alloc _).alloc _⟩
theorem rClo_any (x0 x1:Int)(x2:Bool)(x3 x4 x5:Int)(w:World):
  Calls Tryz.prog 123 #[.agg #[.int .i64 x0,.int .i64 x1,.bool x2,.int .i64 x3,.int .i64 x4,.int .i64 x5]] w fun e w'=>e = .returned (.bool (rdE (x0,x1,x2,x3,x4,x5)))∧Keep w w':=by
 go_enter Tryz.func123,Tryz.ntmps123
 go_wp2;go_ret;exact⟨rfl,(Keep.refl w).alloc _⟩
theorem rNum_any (w:World)(v:Value)(es:List Ev)(h:RdE w v es)(k:Nat)(A B:Nat)(hA:w.cell? ⟨A,0,none⟩=some v)(hAl:A<w.heap.size)(hB:w.cell? ⟨B,0,none⟩=some (.func (Fn.func 123) #[] #[]))(hBl:B<w.heap.size):
  Calls Tryz.prog 136 #[.int .i64 k,.pointer (some ⟨A,0,none⟩),.pointer (some ⟨B,0,none⟩)] w fun e w'=>e = .returned (.bool (tstE rdE es k))∧Keep w w':=by
 obtain⟨a,c,rfl,h⟩:=h;by_cases hlt:k<es.length
 ·
  rcases h with h|⟨b,o,rfl,hb,hc⟩
  · exfalso;rw[h] at hlt;simp at hlt
  have AT:=hc k _ (evs_get hlt);have HE:Hid (tstE rdE es k=rdE (es.getD k zE)):=Lib.hid (by unfold tstE;simp[hlt]);clear hc;obtain⟨e,he⟩:∃e,e=es.getD k zE:=⟨_,rfl⟩;rw[←he] at AT HE;clear he;obtain⟨x0,x1,x2,x3,x4,x5⟩:=e;obtain⟨d0,d1,d2,d3,d4,d5⟩:=atE AT;clear AT;have i1:(0:Int)≤(k:Int):=Int.natCast_nonneg _;have i2:(k:Int)<(es.length:Int):=by omega
  have z1:b<w.drew.heap.size:=hb;have z2:A<w.drew.heap.size:=hAl;have z3:B<w.drew.heap.size:=hBl;go_enter Tryz.func136,Tryz.ntmps136
  go_wp2_with fail
  go_region_held3 (fun w'=>w'.cell? ⟨A,0,none⟩=some (.slice (some ⟨b,o,none⟩) es.length (es.length+c))∧w'.cell? ⟨B,0,none⟩=some (.func (Fn.func 123) #[] #[])∧w'.cell? ⟨b,o+k*6,none⟩=some (.int .i64 x0)∧w'.cell? ⟨b,o+k*6+1,none⟩=some (.int .i64 x1)∧w'.cell? ⟨b,o+k*6+2,none⟩=some (.bool x2)∧w'.cell? ⟨b,o+k*6+3,none⟩=some (.int .i64 x3)∧w'.cell? ⟨b,o+k*6+4,none⟩=some (.int .i64 x4)∧w'.cell? ⟨b,o+k*6+5,none⟩=some (.int .i64 x5))
   (first|go_keep|(go_split_ands;refine⟨?_,?_,?_,?_,?_,?_,?_,?_⟩<;>(rw[kk.cell (by assumption)];assumption)))
   ((go_at_call 123;refine (rClo_any x0 x1 x2 x3 x4 x5 _).mono ?_;rintro e wz ⟨rfl,kk⟩))
  all_goals
   go_wp2;go_ret;exact⟨by rw[HE.out];rfl,((Keep.refl w).drew).trans kk⟩
 ·
  have HE:Hid (tstE rdE es k=false):=Lib.hid (by unfold tstE;simp[hlt]);have i2:¬((k:Int)<(es.length:Int)):=by omega
  go_enter Tryz.func136,Tryz.ntmps136
  go_wp2_with fail
  go_quiet (fail)
  go_wp2;go_ret;exact⟨by rw[HE.out];rfl,(Keep.refl w).drewN _⟩
theorem rChosen_any (w:World)(v:Value)(es:List Ev)(h:RdE w v es)(hx:es.length≤12)(A B:Nat)(hA:w.cell? ⟨A,0,none⟩=some v)(hAl:A<w.heap.size)(hB:w.cell? ⟨B,0,none⟩=some (.func (Fn.func 123) #[] #[]))(hBl:B<w.heap.size):
  Calls Tryz.prog 130 #[.func (Fn.func 136) #[] #[.pointer (some ⟨A,0,none⟩),.pointer (some ⟨B,0,none⟩)]] w fun e w'=>∃v',e = .returned v'∧Own w' w.heap.size v' (idxK rdE es es.length)∧Keep w w':=by
 have hown0:Own (w.alloc (.cells #[] 2)) w.heap.size (.slice (some ⟨w.heap.size,0,none⟩) 0 0) []:=World.ownsRow_lit w #[] 0 (Nat.le_refl _) (by decide) rfl;obtain⟨i0,hi,hz0,hz1,hz2⟩:=info_parts Tryz.infoI;go_enter Tryz.func130,Tryz.ntmps130
 go_wp2;go_loopw [3,6] (fun v i wr=>∃k:Nat,k≤12∧i = .int .i64 k∧Own wr w.heap.size v (chK rdE es k)∧Keep w wr) (fun _ i _=>12-(intOf i).toNat)
 case atStart=>exact⟨0,Nat.zero_le _,rfl,hown0,(Keep.refl _).alloc _⟩
 case round=>
  obtain⟨k,hk,rfl,ho,hK⟩:=hrel;clear hown0;by_cases hlt:k<12
  ·
   have hml:=chK_len rdE es k;have hsz:=hK.size;have C:=rNum_any wr v es (h.keep hK) k A B (by rw[hK.cell hAl];exact hA) (Nat.lt_of_lt_of_le hAl hK.size) (by rw[hK.cell hBl];exact hB) (Nat.lt_of_lt_of_le hBl hK.size);clear h hA hB;cases hb:tstE rdE es k
   ·
    have HM:Hid (chK rdE es (k+1)=chK rdE es k):=Lib.hid (by rw[chK,hb];rfl);rw[hb] at C;go_wp2_with fail
    refine C.mono ?_;rintro e w1 ⟨rfl,k1⟩;go_wp2;go_roundw;case rel=>exact⟨k+1,by omega,by go_num,by rw[HM.out];exact ho.keep k1,hK.trans k1⟩
    case measure=>simp[intOf];omega
   ·
    have HM:Hid (chK rdE es (k+1)=chK rdE es k++[(k:Int)]):=Lib.hid (by rw[chK,hb];rfl);rw[hb] at C;go_wp2_with fail
    refine C.mono ?_;rintro e w1 ⟨rfl,k1⟩;have ho1:=ho.keep k1;have hK1:=hK.trans k1;have hsz1:=hK1.size;clear ho hK C;go_wp2_with (at_builtin;refine wpList_append_own _ rfl _ _ 23 rfl w.heap.size 2 i0 (.int .i64 0) 1 8 Tryz.underlying23 hi hz0 hz1 hz2 rfl (by decide) _ _ _ rfl (World.ownsRow.alloc ho1 _) ⟨_,0,none⟩ 1 1 [.int .i64 k] rfl rfl ?c1 ?c2 ?c3 ?c4 ?c5 ?_)
    case c1=>
     intro j u hj
     match j,hj with
     | 0,hj=>simp at hj;subst hj;simp[Addr.add]
    case c2=>intro u hu;simp at hu;subst hu;rfl
    case c3=>unfold maxLen;omega
    case c4=>omega
    case c5=>simp;omega
    intro v' w2 hown' hgrow _;have hK2:Keep w w2:=(hK1.alloc _).grown hgrow ho1.ge;clear hgrow;go_wp2;go_roundw;case rel=>exact⟨k+1,by omega,by go_num,by rw[HM.out];exact own_hit hown',hK2⟩
    case measure=>simp[intOf];omega
  ·
   obtain rfl:k=12:=by omega
   rw[chK_all rdE es 12 hx] at ho;go_wp2;go_ret;exact⟨_,rfl,ho,hK⟩
theorem rNumbers_any (w:World)(v:Value)(es:List Ev)(h:RdE w v es)(hx:es.length≤1048576):
  Calls Tryz.prog 122 #[v,(.func (Fn.func 123) #[] #[])] w fun e w'=>∃v',e = .returned v'∧Own w' w.heap.size v' (idxB rdE es)∧Keep w w':=by
 by_cases hl:12<es.length
 ·
  have HE:Hid (idxB rdE es=[]):=Lib.hid (by unfold idxB;rw[if_neg (by omega)]);have l1:(12:Int)<(es.length:Int):=by omega
  have O:∀o1 o2:Obj,Own (((w.alloc o1).alloc o2).alloc (.cells #[] 2)) w.heap.size (.slice (some ⟨w.heap.size+1+1,0,none⟩) 0 0) []:=fun o1 o2=>by
   have q:Own (((w.alloc o1).alloc o2).alloc (.cells #[] 2)) ((w.alloc o1).alloc o2).heap.size (.slice (some ⟨((w.alloc o1).alloc o2).heap.size,0,none⟩) 0 0) []:=World.ownsRow_lit _ #[] 0 (Nat.le_refl _) (by decide) rfl;have z:((w.alloc o1).alloc o2).heap.size=w.heap.size+1+1:=by rw[heap_size,heap_size]
   rw[z] at q;exact q.base_le (by omega)
  obtain⟨a,c,rfl,h⟩:=h;go_enter Tryz.func122,Tryz.ntmps122
  go_wp2;go_ret;refine⟨_,rfl,?_,(((Keep.refl w).alloc _).alloc _).alloc _⟩;rw[HE.out];exact O _ _
 ·
  have l1:es.length≤12:=by omega
  have HE:Hid (idxB rdE es=idxK rdE es es.length):=Lib.hid (by unfold idxB;rw[if_pos l1]);clear hl;have C:=fun (o1 o2:Obj)=>rChosen_any ((w.alloc o1).alloc o2) v es (h.keep (((Keep.refl w).alloc _).alloc _)) l1 w.heap.size (w.heap.size+1)
  obtain⟨a,c,rfl,h⟩:=h;have l2:(es.length:Int)≤12:=by omega
  go_enter Tryz.func122,Tryz.ntmps122
  go_wp2_with fail
  refine (C _ _ ?g1 ?g2 ?g3 ?g4).mono ?_;case g1=>simp
  case g2=>simp only[heap_size];omega
  case g3=>simp
  case g4=>simp only[heap_size];omega
  rintro e w1 ⟨v1,rfl,ho,hK⟩;go_wp2;go_ret;refine⟨_,rfl,?_,(((Keep.refl w).alloc _).alloc _).trans hK⟩;rw[HE.out];exact ho.base_le (by simp only[heap_size];omega)
theorem implReadsOf_any (w:World)(v:Value)(es:List Ev)(h:RdE w v es)(hx:es.length≤1048576):
  Calls Tryz.prog 92 #[v] w fun e w'=>∃v',e = .returned v'∧Own w' w.heap.size v' (idxB rdE es)∧Keep w w':=by
 go_enter Tryz.func92,Tryz.ntmps92
 go_wp2_with fail
 refine (rNumbers_any _ _ _ h hx).mono ?_;rintro e w1 ⟨v1,rfl,ho,hK⟩;go_wp2;go_ret;exact⟨_,rfl,ho,hK⟩
theorem wClo_any (x0 x1:Int)(x2:Bool)(x3 x4 x5 p:Int)(P:Nat)(w:World)(hP:w.cell? ⟨P,0,none⟩=some (.int .i64 p))(hPl:P<w.heap.size):
  Calls Tryz.prog 124 #[.agg #[.int .i64 x0,.int .i64 x1,.bool x2,.int .i64 x3,.int .i64 x4,.int .i64 x5],.pointer (some ⟨P,0,none⟩)] w fun e w'=>e = .returned (.bool (toE p (x0,x1,x2,x3,x4,x5)))∧Keep w w':=by
 cases x2
 ·
  by_cases hp:x3=p
  ·
   subst hp;go_enter Tryz.func124,Tryz.ntmps124
   go_wp2;go_ret;exact⟨ret_bool (by simp[toE]),(Keep.refl w).alloc _⟩
  ·
   have he:(x3==p)=false:=by simpa using hp
   go_enter Tryz.func124,Tryz.ntmps124
   go_wp2;go_ret;exact⟨ret_bool (by simp[toE,hp]),(Keep.refl w).alloc _⟩
 ·
  go_enter Tryz.func124,Tryz.ntmps124
  go_wp2;go_ret;exact⟨ret_bool (by simp[toE]),(Keep.refl w).alloc _⟩
theorem wNum_any (w:World)(v:Value)(es:List Ev)(h:RdE w v es)(k:Nat)(A B:Nat)(p:Int)(P:Nat)(hP:w.cell? ⟨P,0,none⟩=some (.int .i64 p))(hPl:P<w.heap.size)(hA:w.cell? ⟨A,0,none⟩=some v)(hAl:A<w.heap.size)(hB:w.cell? ⟨B,0,none⟩=some (.func (Fn.func 124) #[] #[.pointer (some ⟨P,0,none⟩)]))(hBl:B<w.heap.size):
  Calls Tryz.prog 136 #[.int .i64 k,.pointer (some ⟨A,0,none⟩),.pointer (some ⟨B,0,none⟩)] w fun e w'=>e = .returned (.bool (tstE (toE p) es k))∧Keep w w':=by
 obtain⟨a,c,rfl,h⟩:=h;by_cases hlt:k<es.length
 ·
  rcases h with h|⟨b,o,rfl,hb,hc⟩
  · exfalso;rw[h] at hlt;simp at hlt
  have AT:=hc k _ (evs_get hlt);have HE:Hid (tstE (toE p) es k=(toE p) (es.getD k zE)):=Lib.hid (by unfold tstE;simp[hlt]);clear hc;obtain⟨e,he⟩:∃e,e=es.getD k zE:=⟨_,rfl⟩;rw[←he] at AT HE;clear he;obtain⟨x0,x1,x2,x3,x4,x5⟩:=e;obtain⟨d0,d1,d2,d3,d4,d5⟩:=atE AT;clear AT;have i1:(0:Int)≤(k:Int):=Int.natCast_nonneg _;have i2:(k:Int)<(es.length:Int):=by omega
  have z1:b<w.drew.heap.size:=hb;have z2:A<w.drew.heap.size:=hAl;have z3:B<w.drew.heap.size:=hBl;have z4:P<w.drew.heap.size:=hPl;go_enter Tryz.func136,Tryz.ntmps136
  go_wp2_with fail
  go_region_held3 (fun w'=>w'.cell? ⟨A,0,none⟩=some (.slice (some ⟨b,o,none⟩) es.length (es.length+c))∧w'.cell? ⟨B,0,none⟩=some (.func (Fn.func 124) #[] #[.pointer (some ⟨P,0,none⟩)])∧w'.cell? ⟨P,0,none⟩=some (.int .i64 p)∧w'.cell? ⟨b,o+k*6,none⟩=some (.int .i64 x0)∧w'.cell? ⟨b,o+k*6+1,none⟩=some (.int .i64 x1)∧w'.cell? ⟨b,o+k*6+2,none⟩=some (.bool x2)∧w'.cell? ⟨b,o+k*6+3,none⟩=some (.int .i64 x3)∧w'.cell? ⟨b,o+k*6+4,none⟩=some (.int .i64 x4)∧w'.cell? ⟨b,o+k*6+5,none⟩=some (.int .i64 x5))
   (first|go_keep|(go_split_ands;refine⟨?_,?_,?_,?_,?_,?_,?_,?_,?_⟩<;>(rw[kk.cell (by assumption)];assumption)))
   ((go_at_call 124;refine (wClo_any x0 x1 x2 x3 x4 x5 p P _ (by assumption) (by assumption)).mono ?_;rintro e wz ⟨rfl,kk⟩))
  all_goals
   go_wp2;go_ret;exact⟨by rw[HE.out];rfl,((Keep.refl w).drew).trans kk⟩
 ·
  have HE:Hid (tstE (toE p) es k=false):=Lib.hid (by unfold tstE;simp[hlt]);have i2:¬((k:Int)<(es.length:Int)):=by omega
  go_enter Tryz.func136,Tryz.ntmps136
  go_wp2_with fail
  go_quiet (fail)
  go_wp2;go_ret;exact⟨by rw[HE.out];rfl,(Keep.refl w).drewN _⟩
theorem wChosen_any (w:World)(v:Value)(es:List Ev)(h:RdE w v es)(hx:es.length≤12)(A B:Nat)(p:Int)(P:Nat)(hP:w.cell? ⟨P,0,none⟩=some (.int .i64 p))(hPl:P<w.heap.size)(hA:w.cell? ⟨A,0,none⟩=some v)(hAl:A<w.heap.size)(hB:w.cell? ⟨B,0,none⟩=some (.func (Fn.func 124) #[] #[.pointer (some ⟨P,0,none⟩)]))(hBl:B<w.heap.size):
  Calls Tryz.prog 130 #[.func (Fn.func 136) #[] #[.pointer (some ⟨A,0,none⟩),.pointer (some ⟨B,0,none⟩)]] w fun e w'=>∃v',e = .returned v'∧Own w' w.heap.size v' (idxK (toE p) es es.length)∧Keep w w':=by
 have hown0:Own (w.alloc (.cells #[] 2)) w.heap.size (.slice (some ⟨w.heap.size,0,none⟩) 0 0) []:=World.ownsRow_lit w #[] 0 (Nat.le_refl _) (by decide) rfl;obtain⟨i0,hi,hz0,hz1,hz2⟩:=info_parts Tryz.infoI;go_enter Tryz.func130,Tryz.ntmps130
 go_wp2;go_loopw [3,6] (fun v i wr=>∃k:Nat,k≤12∧i = .int .i64 k∧Own wr w.heap.size v (chK (toE p) es k)∧Keep w wr) (fun _ i _=>12-(intOf i).toNat)
 case atStart=>exact⟨0,Nat.zero_le _,rfl,hown0,(Keep.refl _).alloc _⟩
 case round=>
  obtain⟨k,hk,rfl,ho,hK⟩:=hrel;clear hown0;by_cases hlt:k<12
  ·
   have hml:=chK_len (toE p) es k;have hsz:=hK.size;have C:=wNum_any wr v es (h.keep hK) k A B p P (by rw[hK.cell hPl];exact hP) (Nat.lt_of_lt_of_le hPl hK.size) (by rw[hK.cell hAl];exact hA) (Nat.lt_of_lt_of_le hAl hK.size) (by rw[hK.cell hBl];exact hB) (Nat.lt_of_lt_of_le hBl hK.size);clear h hA hB;cases hb:tstE (toE p) es k
   ·
    have HM:Hid (chK (toE p) es (k+1)=chK (toE p) es k):=Lib.hid (by rw[chK,hb];rfl);rw[hb] at C;go_wp2_with fail
    refine C.mono ?_;rintro e w1 ⟨rfl,k1⟩;go_wp2;go_roundw;case rel=>exact⟨k+1,by omega,by go_num,by rw[HM.out];exact ho.keep k1,hK.trans k1⟩
    case measure=>simp[intOf];omega
   ·
    have HM:Hid (chK (toE p) es (k+1)=chK (toE p) es k++[(k:Int)]):=Lib.hid (by rw[chK,hb];rfl);rw[hb] at C;go_wp2_with fail
    refine C.mono ?_;rintro e w1 ⟨rfl,k1⟩;have ho1:=ho.keep k1;have hK1:=hK.trans k1;have hsz1:=hK1.size;clear ho hK C;go_wp2_with (at_builtin;refine wpList_append_own _ rfl _ _ 23 rfl w.heap.size 2 i0 (.int .i64 0) 1 8 Tryz.underlying23 hi hz0 hz1 hz2 rfl (by decide) _ _ _ rfl (World.ownsRow.alloc ho1 _) ⟨_,0,none⟩ 1 1 [.int .i64 k] rfl rfl ?c1 ?c2 ?c3 ?c4 ?c5 ?_)
    case c1=>
     intro j u hj
     match j,hj with
     | 0,hj=>simp at hj;subst hj;simp[Addr.add]
    case c2=>intro u hu;simp at hu;subst hu;rfl
    case c3=>unfold maxLen;omega
    case c4=>omega
    case c5=>simp;omega
    intro v' w2 hown' hgrow _;have hK2:Keep w w2:=(hK1.alloc _).grown hgrow ho1.ge;clear hgrow;go_wp2;go_roundw;case rel=>exact⟨k+1,by omega,by go_num,by rw[HM.out];exact own_hit hown',hK2⟩
    case measure=>simp[intOf];omega
  ·
   obtain rfl:k=12:=by omega
   rw[chK_all (toE p) es 12 hx] at ho;go_wp2;go_ret;exact⟨_,rfl,ho,hK⟩
theorem wNumbers_any (w:World)(v:Value)(es:List Ev)(h:RdE w v es)(hx:es.length≤1048576)(p:Int)(P:Nat)(hP:w.cell? ⟨P,0,none⟩=some (.int .i64 p))(hPl:P<w.heap.size):
  Calls Tryz.prog 122 #[v,(.func (Fn.func 124) #[] #[.pointer (some ⟨P,0,none⟩)])] w fun e w'=>∃v',e = .returned v'∧Own w' w.heap.size v' (idxB (toE p) es)∧Keep w w':=by
 by_cases hl:12<es.length
 ·
  have HE:Hid (idxB (toE p) es=[]):=Lib.hid (by unfold idxB;rw[if_neg (by omega)]);have l1:(12:Int)<(es.length:Int):=by omega
  have O:∀o1 o2:Obj,Own (((w.alloc o1).alloc o2).alloc (.cells #[] 2)) w.heap.size (.slice (some ⟨w.heap.size+1+1,0,none⟩) 0 0) []:=fun o1 o2=>by
   have q:Own (((w.alloc o1).alloc o2).alloc (.cells #[] 2)) ((w.alloc o1).alloc o2).heap.size (.slice (some ⟨((w.alloc o1).alloc o2).heap.size,0,none⟩) 0 0) []:=World.ownsRow_lit _ #[] 0 (Nat.le_refl _) (by decide) rfl;have z:((w.alloc o1).alloc o2).heap.size=w.heap.size+1+1:=by rw[heap_size,heap_size]
   rw[z] at q;exact q.base_le (by omega)
  obtain⟨a,c,rfl,h⟩:=h;go_enter Tryz.func122,Tryz.ntmps122
  go_wp2;go_ret;refine⟨_,rfl,?_,(((Keep.refl w).alloc _).alloc _).alloc _⟩;rw[HE.out];exact O _ _
 ·
  have l1:es.length≤12:=by omega
  have HE:Hid (idxB (toE p) es=idxK (toE p) es es.length):=Lib.hid (by unfold idxB;rw[if_pos l1]);clear hl;have C:=fun (o1 o2:Obj)=>wChosen_any ((w.alloc o1).alloc o2) v es (h.keep (((Keep.refl w).alloc _).alloc _)) l1 w.heap.size (w.heap.size+1) p P (by rw[Keep.cell (((Keep.refl w).alloc _).alloc _) hPl];exact hP) (Nat.lt_of_lt_of_le hPl (Keep.size (((Keep.refl w).alloc _).alloc _)))
  obtain⟨a,c,rfl,h⟩:=h;have l2:(es.length:Int)≤12:=by omega
  go_enter Tryz.func122,Tryz.ntmps122
  go_wp2_with fail
  refine (C _ _ ?g1 ?g2 ?g3 ?g4).mono ?_;case g1=>simp
  case g2=>simp only[heap_size];omega
  case g3=>simp
  case g4=>simp only[heap_size];omega
  rintro e w1 ⟨v1,rfl,ho,hK⟩;go_wp2;go_ret;refine⟨_,rfl,?_,(((Keep.refl w).alloc _).alloc _).trans hK⟩;rw[HE.out];exact ho.base_le (by simp only[heap_size];omega)
theorem implWritesTo_any (w:World)(v:Value)(es:List Ev)(h:RdE w v es)(hx:es.length≤1048576)(p:Int):
  Calls Tryz.prog 93 #[v,.int .i64 p] w fun e w'=>∃v',e = .returned v'∧Own w' w.heap.size v' (idxB (toE p) es)∧Keep w w':=by
 have C:=fun (o1:Obj)=>wNumbers_any (w.alloc o1) v es (h.keep ((Keep.refl w).alloc _)) hx p w.heap.size
 go_enter Tryz.func93,Tryz.ntmps93
 go_wp2_with fail
 refine (C _ ?g1 ?g2).mono ?_;case g1=>simp
 case g2=>simp only[heap_size];omega
 rintro e w1 ⟨v1,rfl,ho,hK⟩;go_wp2;go_ret;exact⟨_,rfl,ho.base_le (by simp only[heap_size];omega),((Keep.refl w).alloc _).trans hK⟩
theorem cell_list {w:World}{b:Nat}{v:Value}(h:w.cell? ⟨b,0,none⟩=some v):∀j u,([v]:List Value)[j]? = some u→w.cell? ((⟨b,0,none⟩:Addr).add j)=some u:=by
 intro j u hj
 match j,hj with
 | 0,hj=>
  simp at hj;subst hj;exact h
 |k+1,hj=>simp at hj
def Ge (s:Nat)(vs:List Value):Prop:=∀(i:Nat) u,vs[i]? = some u→∀k,u.ownBlock=some k→s≤k
theorem Ge.push {s:Nat}{vs:List Value}{u:Value}(h:Ge s vs)(hu:∀k,u.ownBlock=some k→s≤k):Ge s (vs++[u]):=by
 intro i y hy;by_cases hi:i<vs.length
 ·
  rw[List.getElem?_append_left hi] at hy;exact h i y hy
 ·
  rw[List.getElem?_append_right (by omega)] at hy
  have:i-vs.length=0:=by
   have:=(List.getElem?_eq_some_iff.1 hy).1;simp at this;omega
  rw[this] at hy;simp only[List.getElem?_cons_zero,Option.some.injEq] at hy;subst hy;exact hu
theorem choicesOf_any (w:World)(v:Value)(es:List Ev)(h:RdE w v es)(hx:es.length≤12):
  Calls Tryz.prog 134 #[v] w fun e w'=>∃v',e = .returned v'∧RdP w.heap.size w'.heap.size w' v' (chcL es).length (chcL es)∧Keep w w':=by
 obtain⟨i0,hi,hz0,hz1,hz2⟩:=info_parts Tryz.infoL;have A0:=appL_empty w
 have rl:(idxB rdE es).length≤12:=by
  unfold idxB;rw[if_pos hx];have:=idxK_len rdE es es.length;omega
 have rin:∀i,i<(idxB rdE es).length→0≤(idxB rdE es).getD i 0∧(idxB rdE es).getD i 0<(es.length:Int):=by
  intro i hi
  have hm:(idxB rdE es).getD i 0∈idxB rdE es:=by
   rw[List.getD_eq_getElem?_getD,List.getElem?_eq_getElem hi];exact List.getElem_mem hi
  refine idxK_lt rdE es _ _ ?_;unfold idxB at hm ⊢;rw[if_pos hx] at hm ⊢;exact hm
 have HL:Hid (chcL es=chcK es (idxB rdE es) (idxB rdE es).length):=Lib.hid rfl;go_enter Tryz.func134,Tryz.ntmps134
 go_wp2_with fail
 refine (implReadsOf_any _ _ _ (h.keep ((Keep.refl w).alloc _)) (by omega)).mono ?_;rintro e w1 ⟨vr,rfl,or1,k1⟩;generalize idxB rdE es=rs at rl rin HL or1;have A1:=A0.keep k1;have K1:Keep w w1:=((Keep.refl w).alloc _).trans k1;have R1:Beside w1 (.slice (some ⟨w.heap.size,0,none⟩) 0 0) vr rs:=or1.beside (fun k hk=>by rw[heap_size];simp[Value.ownBlock] at hk;omega);have RIN:=Lib.hid rin;obtain⟨ar,cr,rfl,-⟩:=R1.rd;clear A0 k1 or1 rin;go_wp2;go_loopw [3,10] (fun x i wr=>∃k:Nat,∃vs:List Value,k≤rs.length∧i = .int .i64 k∧Ge w.heap.size vs∧AppL wr w.heap.size x vs (chcK es rs k)∧Beside wr x (.slice ar rs.length cr) rs∧Keep w wr) (fun _ i _=>rs.length-(intOf i).toNat)
 case atStart=>exact⟨0,[],Nat.zero_le _,rfl,fun i u h=>by simp at h,A1,R1,K1⟩
 case round=>
  obtain⟨k,vs,hk,rfl,hG,hA,hB,hK⟩:=hrel;clear A1 R1 K1;by_cases hlt:k<rs.length
  ·
   have hr:=RIN.out k hlt;obtain⟨r,hr'⟩:=Int.eq_ofNat_of_zero_le hr.1;have hre:r<es.length:=by omega
   have hRd:=hB.rd;obtain⟨a',c',he',hRd⟩:=hRd;simp only[Value.slice.injEq,true_and] at he';obtain⟨rfl,rfl⟩:=he';rcases hRd with h0|⟨br,or',rfl,hbr,hcr⟩
   · exfalso;rw[h0] at hlt;simp at hlt
   have d1:=hcr k hlt;rw[hr'] at d1;have HC:Hid (chcK es rs (k+1)=chcK es rs k++[idxB (toE (plE es (r:Int))) es]):=Lib.hid (by rw[chcK,hr']);have HP:Hid (plE es (r:Int)=(es.getD r zE).2.2.2.1):=Lib.hid (by unfold plE;rw[Int.toNat_natCast]);clear hr hr' hcr;have hE:=h.keep hK;obtain⟨ae,ce,rfl,h2⟩:=id hE;rcases h2 with h0|⟨be,oe,rfl,hbe,hce⟩
   · exfalso;rw[h0] at hre;simp at hre
   have AT:=hce r _ (evs_get hre);clear hce;generalize es.getD r zE=e at AT HP;obtain⟨x0,x1,x2,x3,x4,x5⟩:=e;obtain⟨-,-,-,q3,-,-⟩:=atE AT;clear AT;simp only at HP;rw[HP.out] at HC;clear HP;have i1:(0:Int)≤(k:Int):=Int.natCast_nonneg _;have i2:(k:Int)<(rs.length:Int):=by omega
   have j1:(0:Int)≤(r:Int):=Int.natCast_nonneg _;have j2:(r:Int)<(es.length:Int):=by omega
   have hcl:=chcK_len es rs k;go_wp2_with fail
   refine (implWritesTo_any _ _ _ hE (by omega) _).mono ?_;rintro e w2 ⟨v2,rfl,o2,k2⟩;obtain⟨D,hD⟩:∃D,D=chcK es rs k:=⟨_,rfl⟩;rw[←hD] at hA HC hcl;clear hD;generalize idxB (toE x3) es=zs at o2 HC;have hA2:=(hA.keep k2).keep ((Keep.refl w2).alloc (.cells #[v2] 23));have hB2:=(hB.keep k2).keep ((Keep.refl w2).alloc (.cells #[v2] 23));have hU:Beside (w2.alloc (.cells #[v2] 23)) _ v2 zs:=(o2.beside (x:=u3) (fun k hk=>(hA.lt k hk).2)).keep ((Keep.refl w2).alloc _);have hK2:=hK.trans k2;have hsz:=hK2.size;have hG2:=hG.push (fun k hk=>Nat.le_trans hK.size (o2.ge k hk));obtain⟨a2,c2,hv2,-⟩:=o2.rd;clear hA hB o2;generalize zs.length=nz at hv2;subst hv2;go_wp2_with (at_builtin;refine wpList_append_own_at _ rfl _ _ 76 rfl w.heap.size 23 i0 (.slice none 0 0) 1 24 Tryz.underlying76 hi hz0 hz1 hz2 rfl (by decide) _ _ _ rfl hA2.row ⟨_,0,none⟩ 1 1 [.slice a2 nz c2] rfl rfl ?c1 ?c2 ?c3 ?c4 ?c5 ?_)
   case c1=>exact cell_list (Boxed.new _ _ _).cell
   case c2=>intro u hu;simp at hu;subst hu;rfl
   case c3=>unfold maxLen;omega
   case c4=>omega
   case c5=>first|omega|(simp;omega)
   intro v' w3 hown' hgrow _ hblk;have hblk':v'.ownBlock=u3.ownBlock∨v'.ownBlock=some (w2.alloc (.cells #[.slice a2 nz c2] 23)).heap.size:=by rw[heap_size];exact hblk
   have hA3:=hA2.push hU (by rw[hcl];exact hown') hgrow hblk';have hB3:=hB2.grow hgrow hblk';have hK3:Keep w w3:=(hK2.alloc _).grown hgrow (fun k hk=>(hA2.lt k hk).1);clear hown' hgrow hblk hblk' hA2 hB2 hU;go_wp2;go_roundw;case rel=>exact⟨k+1,_,by omega,by go_num,hG2,by rw[HC.out];exact hA3,hB3,hK3⟩
   case measure=>simp[intOf];omega
  ·
   obtain rfl:k=rs.length:=by omega
   have HR:=Lib.hid (hA.rdp hG);go_wp2;go_ret;exact⟨_,rfl,by rw[HL.out];exact HR.out,hK⟩
theorem index_any (w:World)(v:Value)(zs:List Int)(h:Rd w v zs)(hn:zs.length≤1048576)(n:Int):
  Calls Tryz.prog 135 #[v,.int .i64 n] w fun e w'=>∃r:Int,e = .returned (.int .i64 r)∧Hid (decide (0≤r)=isB zs n)∧w'=w:=by
 obtain⟨a,c,rfl,h⟩:=h;go_enter Tryz.func135,Tryz.ntmps135
 go_wp2;go_loop [8] (fun i=>∃k:Nat,k≤zs.length∧i = .int .i64 k∧Hid (∀i,i<k→zs.getD i 0≠n)) (fun i=>zs.length-(intOf i).toNat)
 case atStart=>exact⟨0,Nat.zero_le _,rfl,Lib.hid (fun i hi=>absurd hi (Nat.not_lt_zero _))⟩
 case round=>
  obtain⟨k,hk,rfl,hno⟩:=hrel;by_cases hlt:k<zs.length
  ·
   rcases h with h|⟨b,o,rfl,hb,hc⟩
   · exfalso;rw[h] at hlt;simp at hlt
   have d1:=hc k hlt;obtain⟨p,hp⟩:∃p,p=zs.getD k 0:=⟨_,rfl⟩;have HP:=Lib.hid hp;rw[←hp] at d1;clear hc hp;have i1:(0:Int)≤(k:Int):=Int.natCast_nonneg _;have i2:(k:Int)<(zs.length:Int):=by omega
   by_cases he:p=n
   ·
    have hb:(n==p)=true:=by simp[he]
    have HE:Hid (isB zs n=true):=Lib.hid (isB_at hlt (by rw[←HP.out];exact he));clear he;go_wp2;go_ret;exact⟨k,rfl,Lib.hid (by rw[HE.out];simp),rfl⟩
   ·
    have hb:(n==p)=false:=by simp;exact fun h=>he h.symm
    have HE:Hid (∀i,i<k+1→zs.getD i 0≠n):=Lib.hid (fun i hi=>by
     by_cases e:i=k
     · subst e;rw[←HP.out];exact he
     · exact hno.out i (by omega))
    clear he;go_wp2;go_round
    case rel=>exact⟨k+1,by omega,by go_num,HE⟩
    case measure=>simp[intOf];omega
  ·
   obtain rfl:k=zs.length:=by omega
   have HE:Hid (isB zs n=false):=Lib.hid (isB_take hno.out);go_wp2;go_ret;exact⟨-1,rfl,Lib.hid (by rw[HE.out];rfl),rfl⟩
theorem contains_any (w:World)(v:Value)(zs:List Int)(h:Rd w v zs)(hn:zs.length≤1048576)(n:Int):
  Calls Tryz.prog 120 #[v,.int .i64 n] w fun e w'=>e = .returned (.bool (isB zs n))∧w'=w:=by
 go_enter Tryz.func120,Tryz.ntmps120
 go_wp2_with fail
 refine (index_any _ _ _ h hn _).mono ?_;rintro e w1 ⟨r,rfl,hr,rfl⟩;go_wp2;go_ret;exact⟨by rw[←hr.out];rfl,rfl⟩
theorem cell_lone {w:World}{b:Nat}{v:Value}(h:w.cell? ⟨b,0,none⟩=some v):∀j u,([v]:List Value)[j]? = some u→w.cell? ((⟨b,0,none⟩:Addr).add j)=some u:=by
 intro j u hj
 match j,hj with
 | 0,hj=>
  simp at hj;subst hj;exact h
 |k+1,hj=>simp at hj
theorem Beside.first {w:World}{x:Value}{b o n c:Nat}{l:List Int}(h:Beside w x (.slice (some ⟨b,o,none⟩) n c) l)(hl:0<l.length):Beside w x (.slice (some ⟨b,o,none⟩) 1 c) (l.take 1):=by
 have hlen:(l.take 1).length=1:=by rw[List.length_take];omega
 have hcap:l.length≤c:=h.cap;refine⟨?_,h.ne,h.lt,by rw[hlen];show 1≤c;omega⟩;obtain⟨a,cap,he,hr⟩:=h.rd;simp only[Value.slice.injEq] at he;obtain⟨rfl,rfl,rfl⟩:=he;refine⟨_,_,by rw[hlen],?_⟩;rcases hr with hr|⟨b',o',he,hb,hc⟩
 · rw[hr] at hl;simp at hl
 ·
  simp only[Option.some.injEq,Addr.mk.injEq,and_true] at he;obtain⟨rfl,rfl⟩:=he;refine .inr ⟨b,o,rfl,hb,fun i hi=>?_⟩;rw[hc i (by omega),List.getD_eq_getElem?_getD,List.getD_eq_getElem?_getD,List.getElem?_take,if_pos (by omega)]
theorem Beside.rest {w:World}{x:Value}{b o n c:Nat}{l:List Int}(h:Beside w x (.slice (some ⟨b,o,none⟩) n c) l)(hl:0<l.length):Beside w x (.slice (some ⟨b,o+1,none⟩) (n-1) (c-1)) (l.drop 1):=by
 have hlen:(l.drop 1).length=l.length-1:=by rw[List.length_drop]
 have hcap:l.length≤c:=h.cap;refine⟨?_,h.ne,h.lt,by rw[hlen];show l.length-1≤c-1;omega⟩;obtain⟨a,cap,he,hr⟩:=h.rd;simp only[Value.slice.injEq] at he;obtain⟨rfl,rfl,rfl⟩:=he;refine⟨_,_,by rw[hlen],?_⟩;rcases hr with hr|⟨b',o',he,hb,hc⟩
 · rw[hr] at hl;simp at hl
 ·
  simp only[Option.some.injEq,Addr.mk.injEq,and_true] at he;obtain⟨rfl,rfl⟩:=he;refine .inr ⟨b,o+1,rfl,hb,fun i hi=>?_⟩;rw[Nat.add_assoc,Nat.add_comm 1 i,hc (i+1) (by omega),List.getD_eq_getElem?_getD,List.getD_eq_getElem?_getD,List.getElem?_drop,Nat.add_comm 1 i]
def seatN (es:List Ev):Nat→List (List Int)
 | 0=>[]
 |p+1=>seatN es p++seatP (plcW es p)
theorem seatN_three (es:List Ev):seatN es 3=seatsL es:=by
 simp only[seatN,seatsL,List.nil_append]
theorem seatK_len (l:List Int)(k:Nat):(seatK l k).length=k:=by simp[seatK]
theorem seatN_len {es:List Ev}(hx:es.length≤12):∀p:Nat,(seatN es p).length≤12*p
 | 0=>by simp[seatN]
 |p+1=>by
  have:=seatN_len hx p;have:=plcW_len hx p;rw[seatN,List.length_append,seatP_len];omega
theorem seatsOf_any (w:World)(v:Value)(es:List Ev)(h:RdE w v es)(hx:es.length≤12):
  Calls Tryz.prog 119 #[v] w fun e w'=>∃v',e = .returned v'∧RdL w' v' (seatsL es)∧Keep w w':=by
 obtain⟨i0,hi,hz0,hz1,hz2⟩:=info_parts Tryz.infoL;have A0:=appL_empty w;have K0:Keep w (w.alloc (.cells #[] 23)):=(Keep.refl w).alloc _;have HS:Hid (seatsL es=seatN es 3):=Lib.hid (seatN_three es).symm;have HL:Hid (∀p,(seatN es p).length≤12*p):=Lib.hid (seatN_len hx);go_enter Tryz.func119,Tryz.ntmps119
 go_wp2;go_loopw [3,8] (fun x i wr=>∃p:Nat,∃vs:List Value,p≤3∧i = .int .i64 p∧AppL wr w.heap.size x vs (seatN es p)∧Keep w wr) (fun _ i _=>3-(intOf i).toNat)
 case atStart=>exact⟨0,[],by omega,rfl,A0,K0⟩
 case round=>
  obtain⟨p,vs,hp,rfl,hA,hK⟩:=hrel;clear A0 K0;by_cases hlt:p<3
  ·
   have hpl:=plcW_len hx p;have HN:Hid (seatN es (p+1)=seatN es p++seatK (plcW es p) (plcW es p).length):=Lib.hid rfl;have hsl:(seatN es p).length≤36:=by have:=HL.out p;omega
   have i2:(p:Int)<3:=by omega
   go_wp2_with fail
   refine (implWritesTo_any _ _ _ (h.keep hK) (by omega) _).mono ?_;rintro e w2 ⟨v2,rfl,o2,k2⟩;have HI:Hid (plcW es p=idxB (toE (p:Int)) es):=Lib.hid rfl;rw[HI.out] at hpl HN;clear HI;generalize idxB (toE (p:Int)) es=l at o2 hpl HN;generalize seatN es p=S at hA HN hsl
   have A1:AppL w2 w.heap.size u3 vs (S++seatK l 0):=by
    have:S++seatK l 0=S:=by simp[seatK]
    rw[this];exact hA.keep k2
   have B1:Beside w2 u3 v2 l:=o2.beside (fun k hk=>(hA.lt k hk).2);have K1:=hK.trans k2;obtain⟨a2,c2,rfl,-⟩:=o2.rd;clear hA hK o2 k2;obtain⟨wo,rfl⟩:∃wo:World,wo=w2:=⟨_,rfl⟩;go_wp2;go_loopw [3,16] (fun x i wr=>∃k:Nat,∃vs:List Value,k≤l.length∧i = .int .i64 k∧AppL wr w.heap.size x vs (S++seatK l k)∧Beside wr x (.slice a2 l.length c2) l∧Keep w wr) (fun _ i _=>l.length-(intOf i).toNat)
   case atStart=>exact⟨0,vs,Nat.zero_le _,rfl,A1,B1,K1⟩
   case round=>
    obtain⟨k,vs,hk,rfl,hA,hB,hK⟩:=hrel;clear A1 B1 K1;by_cases hkl:k<l.length
    ·
     have HC:Hid (S++seatK l (k+1)=S++seatK l k++[seatAt l k]):=Lib.hid (by rw[seatK_more,List.append_assoc]);have hcl:(S++seatK l k).length=S.length+k:=by rw[List.length_append,seatK_len]
     have hcap:l.length≤c2:=hB.cap;have hRd:=hB.rd;obtain⟨a',c',he',hRd⟩:=hRd;simp only[Value.slice.injEq,true_and] at he';obtain⟨rfl,rfl⟩:=he';rcases hRd with h0|⟨br,or',rfl,hbr,-⟩
     · exfalso;rw[h0] at hkl;simp at hkl
     have hF:=hB.first (by omega);have hT:=hB.rest (by omega);have i1:(0:Int)≤(k:Int):=Int.natCast_nonneg _;have i2:(k:Int)<(l.length:Int):=by omega
     have hsz:=hK.size;generalize S++seatK l k=D at hA HC hcl;by_cases hk0:k=0
     ·
      have HZ:Hid (seatAt l k=l.take 1):=Lib.hid (by unfold seatAt;rw[if_pos hk0]);rw[HZ.out] at HC;have hkb:((k:Int)==0)=true:=by simp[hk0]
      have hA2:=hA.keep ((Keep.refl wr).alloc (.cells #[.slice (some ⟨br,or',none⟩) 1 c2] 23));have hB2:=hB.keep ((Keep.refl wr).alloc (.cells #[.slice (some ⟨br,or',none⟩) 1 c2] 23));have hU:=hF.keep ((Keep.refl wr).alloc (.cells #[.slice (some ⟨br,or',none⟩) 1 c2] 23));have c1:(1:Int)≤(c2:Int):=by omega
      clear hF hT hk0 HZ hA hB;go_wp2_with (at_builtin;refine wpList_append_own_at _ rfl _ _ 76 rfl w.heap.size 23 i0 (.slice none 0 0) 1 24 Tryz.underlying76 hi hz0 hz1 hz2 rfl (by decide) _ _ _ rfl hA2.row ⟨_,0,none⟩ 1 1 [.slice (some ⟨br,or',none⟩) 1 c2] rfl rfl ?c1 ?c2 ?c3 ?c4 ?c5 ?_)
      case c1=>exact cell_lone (Boxed.new _ _ _).cell
      case c2=>intro u hu;simp at hu;subst hu;rfl
      case c3=>unfold maxLen;omega
      case c4=>omega
      case c5=>first|omega|(simp;omega)
      intro v' w3 hown' hgrow _ hblk;have hblk':v'.ownBlock=u3.ownBlock∨v'.ownBlock=some (wr.alloc (.cells #[.slice (some ⟨br,or',none⟩) 1 c2] 23)).heap.size:=by rw[heap_size];exact hblk
      have hA3:=hA2.push hU (by rw[hcl];exact hown') hgrow hblk';have hB3:=hB2.grow hgrow hblk';have hK3:Keep w w3:=(hK.alloc _).grown hgrow (fun k hk=>(hA2.lt k hk).1);clear hown' hgrow hblk hblk' hA2 hB2 hU hK;go_wp2;go_roundw;case rel=>exact⟨k+1,_,by omega,by go_num,by rw[HC.out];exact hA3,hB3,hK3⟩
      case measure=>simp[intOf];omega
     ·
      have HZ:Hid (seatAt l k=l.drop 1):=Lib.hid (by unfold seatAt;rw[if_neg hk0]);rw[HZ.out] at HC;have hkb:((k:Int)==0)=false:=by simp;omega
      have hA2:=hA.keep ((Keep.refl wr).alloc (.cells #[.slice (some ⟨br,or'+1,none⟩) (l.length-1) (c2-1)] 23));have hB2:=hB.keep ((Keep.refl wr).alloc (.cells #[.slice (some ⟨br,or'+1,none⟩) (l.length-1) (c2-1)] 23));have hU:=hT.keep ((Keep.refl wr).alloc (.cells #[.slice (some ⟨br,or'+1,none⟩) (l.length-1) (c2-1)] 23));have c1:(1:Int)≤(l.length:Int):=by omega
      have c2':1<c2:=by omega
      have c3:(l.length:Int)≤(c2:Int):=by omega
      clear hF hT hk0 HZ hA hB;go_wp2_with (at_builtin;refine wpList_append_own_at _ rfl _ _ 76 rfl w.heap.size 23 i0 (.slice none 0 0) 1 24 Tryz.underlying76 hi hz0 hz1 hz2 rfl (by decide) _ _ _ rfl hA2.row ⟨_,0,none⟩ 1 1 [.slice (some ⟨br,or'+1,none⟩) (l.length-1) (c2-1)] rfl rfl ?c1 ?c2 ?c3 ?c4 ?c5 ?_)
      case c1=>exact cell_lone (Boxed.new _ _ _).cell
      case c2=>intro u hu;simp at hu;subst hu;rfl
      case c3=>unfold maxLen;omega
      case c4=>omega
      case c5=>first|omega|(simp;omega)
      intro v' w3 hown' hgrow _ hblk;have hblk':v'.ownBlock=u3.ownBlock∨v'.ownBlock=some (wr.alloc (.cells #[.slice (some ⟨br,or'+1,none⟩) (l.length-1) (c2-1)] 23)).heap.size:=by rw[heap_size];exact hblk
      have hA3:=hA2.push hU (by rw[hcl];exact hown') hgrow hblk';have hB3:=hB2.grow hgrow hblk';have hK3:Keep w w3:=(hK.alloc _).grown hgrow (fun k hk=>(hA2.lt k hk).1);clear hown' hgrow hblk hblk' hA2 hB2 hU hK;go_wp2;go_roundw;case rel=>exact⟨k+1,_,by omega,by go_num,by rw[HC.out];exact hA3,hB3,hK3⟩
      case measure=>simp[intOf];omega
    ·
     obtain rfl:k=l.length:=by omega
     have hN:AppL wr w.heap.size u3 vs (seatN es (p+1)):=by rw[HN.out];exact hA
     clear hA hB;go_wp2;go_roundw;case rel=>exact⟨p+1,vs,by omega,by go_num,hN,hK⟩
     case measure=>simp[intOf];omega
  ·
   obtain rfl:p=3:=by omega
   have HR:=Lib.hid hA.rd;go_wp2;go_ret;exact⟨_,rfl,by rw[HS.out];exact HR.out,hK⟩
theorem eqItems_zero (p:List Int)(hp:p.length=12)(w:World):∀is:List Nat,(∀i∈is,i<12)→(Op.eqItems 9999 2 (Tryz.prog.cellsOf 2) (pgC p) (pgC (List.replicate 12 0)) is).run Tryz.prog w = .ok (is.all (fun i=>p.getD i 0==0)) w
 | [],_=>by simp[Op.eqItems]
 |i::is,h=>by
  have hi:i<12:=h i (by simp);have hc:Tryz.prog.cellsOf 2=1:=by kernel_rfl
  have he:Tryz.prog.plainKey 2=true:=by kernel_rfl
  have p1:=run_part_plain (P:=Tryz.prog) w (e:=2) he (xs:=pgC p) (off:=i*1) (v:= .int .i64 (p.getD i 0)) (by
   simp only[pgC,Nat.mul_one,List.getElem?_toArray,List.getElem?_map,List.getD_eq_getElem?_getD];rw[List.getElem?_eq_getElem (by omega)]
   rfl)
  have p2:=run_part_plain (P:=Tryz.prog) w (e:=2) he (xs:=pgC (List.replicate 12 0)) (off:=i*1) (v:= .int .i64 0) (by
   simp only[pgC,Nat.mul_one,List.getElem?_toArray,List.getElem?_map];rw[List.getElem?_replicate,if_pos hi]
   rfl)
  have p3:=run_equalIn_int (P:=Tryz.prog) w 9998 2 .i64 .i64 (p.getD i 0) 0 Tryz.underlying2;have ih:=eqItems_zero p hp w is (fun j hj=>h j (by simp[hj]));rw[hc] at ih ⊢;simp only[Op.eqItems,Sem.run_bind,p1,p2,p3,Result.andThen_ok,List.all_cons]
  cases hz:(p.getD i 0==0) with
  |false=>simp
  |true=>simpa using ih
theorem all_blank {p:List Int}(hp:p.length=12):(List.range 12).all (fun i=>p.getD i 0==0)=blankB p:=by
 unfold blankB;rw[Bool.eq_iff_iff,List.all_eq_true,decide_eq_true_eq];constructor
 ·
  intro h;refine list_ext (n:=12) hp (by simp) (fun i hi=>?_);have:=h i (List.mem_range.2 hi);rw[beq_iff_eq] at this;rw[this,List.getD_eq_getElem?_getD,List.getElem?_replicate,if_pos hi];rfl
 ·
  intro h i hi;rw[h,List.getD_eq_getElem?_getD,List.getElem?_replicate,if_pos (List.mem_range.1 hi)];rfl
theorem eqPage (p:List Int)(hp:p.length=12)(w:World):(Op.equalIn 10000 109 (pgV p) (pgV (List.replicate 12 0))).run Tryz.prog w = .ok (blankB p) w:=by
 have hs:(Tryz.prog.info? 2).isSome=true:=by kernel_rfl
 obtain⟨i,hi⟩:=Option.isSome_iff_exists.1 hs;rw[show (10000:Nat)=9999+1 from rfl,run_equalIn_array w 9999 _ _ Tryz.underlying109 hi,eqItems_zero p hp w _ (fun i hi=>List.mem_range.1 hi),all_blank hp]
theorem isBlank_any (w:World)(p:List Int)(hp:p.length=12):
  Calls Tryz.prog 91 #[pgV p] w fun e w'=>e = .returned (.bool (blankB p))∧Keep w w':=by
 have EQ:=eqPage p hp;have EG:Tryz.prog.eqGuardType Tryz.prog.depth 109=false:=by kernel_rfl
 obtain⟨a0,a1,a2,a3,a4,a5,a6,a7,a8,a9,a10,a11,rfl⟩:∃a0 a1 a2 a3 a4 a5 a6 a7 a8 a9 a10 a11:Int,p=[a0,a1,a2,a3,a4,a5,a6,a7,a8,a9,a10,a11]:=by
  match p,hp with
  | [a0,a1,a2,a3,a4,a5,a6,a7,a8,a9,a10,a11],_=>exact⟨a0,a1,a2,a3,a4,a5,a6,a7,a8,a9,a10,a11,rfl⟩
 have EQ:∀W:World,(Op.equalIn 10000 109 (.agg #[.int .i64 a0,.int .i64 a1,.int .i64 a2,.int .i64 a3,.int .i64 a4,.int .i64 a5,.int .i64 a6,.int .i64 a7,.int .i64 a8,.int .i64 a9,.int .i64 a10,.int .i64 a11]) (.agg #[.int .i64 0,.int .i64 0,.int .i64 0,.int .i64 0,.int .i64 0,.int .i64 0,.int .i64 0,.int .i64 0,.int .i64 0,.int .i64 0,.int .i64 0,.int .i64 0])).run Tryz.prog W = .ok (blankB [a0,a1,a2,a3,a4,a5,a6,a7,a8,a9,a10,a11]) W:=EQ;generalize blankB [a0,a1,a2,a3,a4,a5,a6,a7,a8,a9,a10,a11]=R at *;clear hp;show Calls Tryz.prog 91 #[.agg #[.int .i64 a0,.int .i64 a1,.int .i64 a2,.int .i64 a3,.int .i64 a4,.int .i64 a5,.int .i64 a6,.int .i64 a7,.int .i64 a8,.int .i64 a9,.int .i64 a10,.int .i64 a11]] w _;go_enter Tryz.func91,Tryz.ntmps91
 go_wp2;go_ret;exact⟨rfl,(Keep.refl w).alloc _⟩
end Go.Proofs.YtgikcfdckddgpabGreat
