/- Gathered texts. -/
import Derived.Test.YtflehmepjhikcaaDoorMA
import Derived.Outline
import Derived.RegionTactic
import Derived.Deep.QuietTactic
import Derived.BigQuiet
import Derived.Lib.Hide
set_option maxRecDepth 100000
set_option maxHeartbeats 8000000
namespace Go.Proofs.YtflehmepjhikcaaDoor
open Go.ChangeShapes Go.WideShapes Go.ChangeAt Go.RowKit
theorem take_eq_step {xs ys:List Int}{k:Nat}(hx:k<xs.length)(hy:k<ys.length)(h:xs.take k=ys.take k)(e:xs.getD k 0=ys.getD k 0):xs.take (k+1)=ys.take (k+1):=by
 rw[take_snoc xs k hx,take_snoc ys k hy,h,e]
theorem ne_of_getD {xs ys:List Int}{k:Nat}(h:xs.getD k 0≠ys.getD k 0):xs≠ys:=by
 intro e;subst e;exact h rfl
theorem eq_any (w:World)(v1 v2:Value)(xs ys:List Int)(h1:Rd w v1 xs)(h2:Rd w v2 ys)(hx:xs.length≤1048576):
  Calls Tryd.prog 24 #[v1,v2] w fun e w'=>e = .returned (.bool (decide (xs=ys)))∧Keep w w':=by
 obtain⟨a1,c1,rfl,h1⟩:=h1;obtain⟨a2,c2,rfl,h2⟩:=h2;by_cases hl:xs.length=ys.length
 ·
  have hlb:((xs.length:Int) != (ys.length:Int))=false:=by simp[hl]
  have hl1:xs.length≤ys.length:=by omega
  have hl2:ys.length≤xs.length:=by omega
  clear hl;go_enter Tryd.func24,Tryd.ntmps24
  go_wp2;go_loopw [5] (fun i wr=>∃k:Nat,k≤xs.length∧i = .int .i64 k∧xs.take k=ys.take k∧Keep w wr) (fun i _=>xs.length-(intOf i).toNat)
  case atStart=>exact⟨0,Nat.zero_le _,rfl,by simp,Keep.refl _⟩
  case round=>
   obtain⟨k,hk,rfl,ht,hK⟩:=hrel;by_cases hlt:k<xs.length
   ·
    rcases h1 with h|⟨b1,o1,rfl,hb1,hc1⟩
    · subst h;simp at hlt
    rcases h2 with h|⟨b2,o2,rfl,hb2,hc2⟩
    · exfalso;rw[h] at hl1;simp only[List.length_nil] at hl1;omega
    have hy2:k<ys.length:=by omega
    have d1:=(hK.cell hb1).trans (hc1 k hlt);have d2:=(hK.cell hb2).trans (hc2 k hy2);clear hc1 hc2;obtain⟨p,hp⟩:∃p,p=xs.getD k 0:=⟨_,rfl⟩;obtain⟨q,hq⟩:∃q,q=ys.getD k 0:=⟨_,rfl⟩;rw[←hp] at d1;rw[←hq] at d2;have HP:Hid (p=xs.getD k 0):=hp;have HQ:Hid (q=ys.getD k 0):=hq;have HT:Hid (xs.take k=ys.take k):=ht;clear hp hq ht;by_cases he:p=q
    ·
     have hne:(p != q)=false:=by simp[he]
     have HE:Hid (p=q):=he;clear he;go_wp2;go_quiet (fail)
     go_wp2;go_roundw;case rel=>exact⟨k+1,by omega,by go_num,take_eq_step hlt hy2 HT.out (by rw[←HP.out,←HQ.out];exact HE.out),hK.drewN _⟩
     case measure=>simp[intOf];omega
    ·
     have hne:(p != q)=true:=by simp[he]
     have HE:Hid (p≠q):=he;clear he;go_wp2;go_quiet (fail)
     go_wp2;go_ret;refine⟨ret_bool ?_,?_⟩
     ·
      have:=ne_of_getD (xs:=xs) (ys:=ys) (k:=k) (by rw[←HP.out,←HQ.out];exact HE.out);simp[this]
     · exact hK.drewN _
   ·
    go_wp2;go_ret;refine⟨ret_bool ?_,hK⟩;rw[List.take_of_length_le (by omega),List.take_of_length_le (by omega)] at ht;simp[ht]
 ·
  have hlb:((xs.length:Int) != (ys.length:Int))=true:=by simp;omega
  have HL:Hid (¬xs.length=ys.length):=hl;clear hl;go_enter Tryd.func24,Tryd.ntmps24
  go_wp2;go_ret;refine⟨ret_bool ?_,Keep.refl _⟩;have:xs≠ys:=fun e=>HL.out (by rw[e])
  simp[this]
theorem box_asksE {w w1:World}{x0 x1 y0 y1:Value}{t t':TypeId}(k:Keep ((w.alloc (.cells #[x0,x1] t)).alloc (.cells #[y0,y1] t')) w1):
  (w1.cell? ⟨w.heap.size,0,none⟩=some x0∧w1.cell? ⟨w.heap.size,1,none⟩=some x1)∧(w1.cell? ⟨w.heap.size+1,0,none⟩=some y0∧w1.cell? ⟨w.heap.size+1,1,none⟩=some y1):=by
 have h0:∀i:Nat,w1.cell? ⟨w.heap.size,i,none⟩=(#[x0,x1])[i]?:=fun i=>by
  rw[k.cell (by simp only[heap_size];omega),(((Keep.refl (w.alloc _)).alloc _)).cell (by simp only[heap_size];omega)];exact box_cell (Keep.refl _) i
 have h1:∀i:Nat,w1.cell? ⟨w.heap.size+1,i,none⟩=(#[y0,y1])[i]?:=fun i=>by
  have:=box_cell k i;rw[heap_size] at this;exact this
 exact⟨⟨h0 0,h0 1⟩,⟨h1 0,h1 1⟩⟩
theorem eqAsk_any (w:World)(vF vR uF uR:Value)(f rows g rows':List Int)(hf:Rd w vF f)(hr:Rd w vR rows)(kf:Rd w uF g)(kr:Rd w uR rows')(lf:f.length≤1048576)(lr:rows.length≤1048576):
  Calls Tryd.prog 20 #[.agg #[vF,vR],.agg #[uF,uR]] w fun e w'=>e = .returned (.bool (decide (f=g)&&decide (rows=rows')))∧Keep w w':=by
 have CF:=fun (W:World) (kW:Keep w W)=>eq_any W vF uF f g (hf.keep kW) (kf.keep kW) lf
 have CR:=fun (W:World) (kW:Keep w W)=>eq_any W vR uR rows rows' (hr.keep kW) (kr.keep kW) lr
 obtain⟨aF,cF,rfl,-⟩:=hf;obtain⟨aR,cR,rfl,-⟩:=hr;obtain⟨bF,dF,rfl,-⟩:=kf;obtain⟨bR,dR,rfl,-⟩:=kr;generalize decide (f=g)=P at CF ⊢;generalize decide (rows=rows')=Q at CR ⊢;go_enter Tryd.func20,Tryd.ntmps20
 go_wp2_with fail
 refine (CF _ (((Keep.refl w).alloc _).alloc _)).mono ?_;rintro e w1 ⟨rfl,k1⟩;obtain⟨⟨c0,c1⟩,⟨c2,c3⟩⟩:=box_asksE k1;have K1:=(((Keep.refl w).alloc _).alloc _).trans k1;cases P
 ·
  go_wp2;go_ret;exact⟨rfl,K1⟩
 ·
  go_wp2_with fail
  refine (CR _ K1).mono ?_;rintro e w2 ⟨rfl,k2⟩;cases Q
  ·
   go_wp2;go_ret;exact⟨rfl,K1.trans k2⟩
  ·
   go_wp2;go_ret;exact⟨rfl,K1.trans k2⟩
theorem eqAsk_same (w:World)(vF vR uF uR:Value)(f rows:List Int)(hf:Rd w vF f)(hr:Rd w vR rows)(kf:Rd w uF f)(kr:Rd w uR rows)(lf:f.length≤1048576)(lr:rows.length≤1048576):
  Calls Tryd.prog 20 #[.agg #[vF,vR],.agg #[uF,uR]] w fun e w'=>e = .returned (.bool true)∧Keep w w':=by
 have h:=eqAsk_any w vF vR uF uR f rows f rows hf hr kf kr lf lr;have e:(decide (f=f)&&decide (rows=rows))=true:=by simp
 rw[e] at h;exact h
def marks (k:Int):Nat→List Int
 | 0=>[]
 |n+1=>marks k n++[k+n]
theorem marks_len (k:Int)(n:Nat):(marks k n).length=n:=by
 induction n with
 |zero=>rfl
 |succ n ih=>simp[marks,ih]
theorem marks_getD (k:Int)(n i:Nat)(h:i<n):(marks k n).getD i 0=k+i:=by
 induction n with
 |zero=>omega
 |succ n ih=>
  unfold marks;by_cases hi:i<n
  · rw[List.getD_eq_getElem?_getD,List.getElem?_append_left (by rw[marks_len];exact hi),←List.getD_eq_getElem?_getD,ih hi]
  ·
   have:i=n:=by omega
   subst this;rw[List.getD_eq_getElem?_getD,List.getElem?_append_right (by rw[marks_len];exact Nat.le_refl _),marks_len];simp
theorem marked_len (zs:List Int)(k:Int)(j:Nat)(hj:j≤zs.length):(marks k j++zs.drop j).length=zs.length:=by
 rw[List.length_append,marks_len,List.length_drop];omega
theorem set_mark (zs:List Int)(k:Int)(j:Nat)(hj:j<zs.length):(marks k j++zs.drop j).set j (k+j)=marks k (j+1)++zs.drop (j+1):=by
 rw[List.set_append_right _ _ (by rw[marks_len];exact Nat.le_refl _),marks_len,Nat.sub_self,List.drop_eq_getElem_cons hj,List.set_cons_zero];show _=(marks k j++[k+(j:Int)])++_;rw[List.append_assoc];rfl
theorem mark_row (w:World)(base:Nat)(v:Value)(k:Int)(zs:List Int)(h:Row w base v zs)(hn:zs.length≤1048576)(h0:1≤k)(h1:k≤16777216):
  Calls Tryd.prog 50 #[v,.int .i64 k] w fun e w'=>e = .returned (.int .i64 (k+zs.length))∧Row w' base v (marks k zs.length)∧w.grownBy w' v.ownBlock:=by
 rcases h with ⟨rfl,rfl⟩|⟨g,cap,rfl,hb,hr⟩
 ·
  go_enter Tryd.func50,Tryd.ntmps50
  go_wp2;refine wp_loop_rounds 1 ?_;rw[rounds_succ];go_wp2;go_ret;exact⟨by simp,.inl ⟨rfl,rfl⟩,World.grownBy.refl _ _⟩
 ·
  go_enter Tryd.func50,Tryd.ntmps50
  go_wp2;go_loopw [1,5] (fun q i wr=>∃j:Nat,j≤zs.length∧i = .int .i64 j∧q = .int .i64 (k+j)∧RowAt wr g (marks k j++zs.drop j)∧w.grownBy wr (some g)) (fun _ i _=>zs.length-(intOf i).toNat)
  case atStart=>exact⟨0,Nat.zero_le _,rfl,by simp,hr,World.grownBy.refl _ _⟩
  case round=>
   obtain⟨j,hj,rfl,rfl,ho,hg⟩:=hrel;clear hr;by_cases hlt:j<zs.length
   ·
    have d1:=ho.cell (j:=j) (by rw[marked_len zs k j hj];exact hlt);have d2:=ho.free j;have hs:=ho.set j (k+j);rw[set_mark zs k j hlt] at hs;generalize (marks k j++zs.drop j).getD j 0=u at d1;have HG:=grown_trans hg (grown_set wr g j (.int .i64 (k+j)));go_wp2;go_roundw;case rel=>exact⟨j+1,by omega,by go_num,by go_num,hs,HG⟩
    case measure=>simp[intOf];omega
   ·
    have:j=zs.length:=by omega
    subst this;go_wp2;go_ret;refine⟨rfl,row_new ?_ hb (by rw[marks_len]),hg⟩
    simpa using ho
theorem held_row (w:World)(v:Value)(k:Int)(n:Nat)(h:Rd w v (marks k n))(hn:n≤1048576)(h0:1≤k)(h1:k≤16777216):
  Calls Tryd.prog 51 #[v,.int .i64 k] w fun e w'=>e = .returned (.int .i64 (k+n))∧Keep w w':=by
 obtain⟨a,c,rfl,h⟩:=h;rw[marks_len];go_enter Tryd.func51,Tryd.ntmps51
 go_wp2;go_loopw [1,5] (fun q i wr=>∃j:Nat,j≤n∧i = .int .i64 j∧q = .int .i64 (k+j)∧Keep w wr) (fun _ i _=>n-(intOf i).toNat)
 case atStart=>exact⟨0,Nat.zero_le _,rfl,by simp,Keep.refl _⟩
 case round=>
  obtain⟨j,hj,rfl,rfl,hK⟩:=hrel;by_cases hlt:j<n
  ·
   rcases h with h|⟨b,o,rfl,hb,hc⟩
   · exfalso;have:=marks_len k n;rw[h] at this;simp at this;omega
   have d1:=(hK.cell hb).trans (hc j (by rw[marks_len];exact hlt));rw[marks_getD k n j hlt] at d1;clear hc;go_wp2;go_roundw;case rel=>exact⟨j+1,by omega,by go_num,by go_num,hK⟩
   case measure=>simp[intOf];omega
  ·
   have:j=n:=by omega
   subst this;go_wp2;go_ret;exact⟨rfl,hK⟩
theorem markAsk_any (w:World)(base:Nat)(vF vR:Value)(f rows:List Int)(k:Int)(hf:Row w base vF f)(hr:Row w base vR rows)(ap:vF.ownBlock=none∨vF.ownBlock≠vR.ownBlock)(lf:f.length≤1048576)(lr:rows.length≤1048576)(h0:1≤k)(h1:k≤8388608):
  Calls Tryd.prog 25 #[.agg #[vF,vR],.int .i64 k] w fun e w'=>e = .returned (.int .i64 (k+f.length+rows.length))∧Row w' base vF (marks k f.length)∧Row w' base vR (marks (k+f.length) rows.length)∧∃w1 w2,Keep w w1∧w1.grownBy w2 vF.ownBlock∧w2.grownBy w' vR.ownBlock:=by
 have kB:Keep w (w.alloc (.cells #[vF,vR] 27)):=(Keep.refl w).alloc _;have bc:=box_cell (Keep.refl (w.alloc (.cells #[vF,vR] 27)));have b0:=bc 0;have b1:=bc 1;simp at b0 b1;have bl:(w.alloc (.cells #[vF,vR] 27)).heap.size=w.heap.size+1:=heap_size _ _;have hF:=hf.keep kB;have hR:=hr.keep kB;have nF:vF.ownBlock≠some w.heap.size:=fun e=>by have:=(hf.lt _ e).2;omega
 have apR:vR.ownBlock=none∨vR.ownBlock≠vF.ownBlock:=by
  rcases ap with e|e
  ·
   cases hu:vR.ownBlock with
   |none=>exact .inl rfl
   |some k=>exact .inr (by rw[e];simp)
  · exact .inr (fun h=>e h.symm)
 have C:=fun (W:World) (h:Row W base vF f)=>mark_row W base vF k f h lf h0 (by omega)
 have C2:=fun (W:World) (h:Row W base vR rows)=>mark_row W base vR (k+f.length) rows h lr (by omega) (by omega)
 obtain⟨aF,cF,hvF,-⟩:=hf.rd;obtain⟨aR,cR,hvR,-⟩:=hr.rd;subst hvF hvR;have blk:=heap_alloc_new w (.cells #[.slice aF f.length cF,.slice aR rows.length cR] 27);go_enter Tryd.func25,Tryd.ntmps25
 go_wp2_with fail
 refine (C _ hF).mono ?_;rintro e w1 ⟨rfl,m1,g1⟩;have R1:=hR.kept g1 apR;have B1:w1.heap[w.heap.size]? = some (.cells #[.slice aF f.length cF,.slice aR rows.length cR] 27):=(g1.block _ (by rw[bl];omega) nF.symm).trans blk;have c1:w1.cell? ⟨w.heap.size,1,none⟩=some (.slice aR rows.length cR):=cell_of_row w1 w.heap.size 1 _ _ (0,0) B1;clear b0 b1 bc blk B1;go_wp2_with fail
 refine (C2 _ R1).mono ?_;rintro e w2 ⟨rfl,m2,g2⟩;have HF:=Lib.hid (m1.kept g2 ap);have HR:=Lib.hid m2;have HG:=Lib.hid g1;have HG2:=Lib.hid g2;have HB:=Lib.hid kB;clear m1 m2 g1 g2 R1 hF hR C C2 kB c1;go_wp2;go_ret;exact⟨rfl,HF.out,HR.out,_,_,HB.out,HG.out,HG2.out⟩
theorem heldAsk_any (w:World)(vF vR:Value)(n m:Nat)(k:Int)(hf:Rd w vF (marks k n))(hr:Rd w vR (marks (k+n) m))(lf:n≤1048576)(lr:m≤1048576)(h0:1≤k)(h1:k≤8388608):
  Calls Tryd.prog 26 #[.agg #[vF,vR],.int .i64 k] w fun e w'=>e = .returned (.int .i64 (k+n+m))∧Keep w w':=by
 have C:=fun (W:World) (kW:Keep w W)=>held_row W vF k n (hf.keep kW) lf h0 (by omega)
 have C2:=fun (W:World) (kW:Keep w W)=>held_row W vR (k+n) m (hr.keep kW) lr (by omega) (by omega)
 obtain⟨aF,cF,hvF,-⟩:=hf;obtain⟨aR,cR,hvR,-⟩:=hr;subst hvF hvR;rw[marks_len] at C;rw[marks_len] at C2;rw[marks_len,marks_len];have n1:0≤k+(n:Int):=by omega
 have n2:0≤k+(n:Int)+(m:Int):=by omega
 go_enter Tryd.func26,Tryd.ntmps26
 go_wp2_with fail
 refine (C _ ((Keep.refl w).alloc _)).mono ?_;rintro e w1 ⟨rfl,k1⟩;have c0:=box_cell k1 0;have c1:=box_cell k1 1;simp at c0 c1;have K1:=((Keep.refl w).alloc _).trans k1;go_wp2_with fail
 refine (C2 _ K1).mono ?_;rintro e w2 ⟨rfl,k2⟩;go_wp2;go_ret;exact⟨rfl,K1.trans k2⟩
end Go.Proofs.YtflehmepjhikcaaDoor
