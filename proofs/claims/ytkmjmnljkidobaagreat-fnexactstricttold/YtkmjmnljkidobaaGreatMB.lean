/- Gathered texts. -/
import Derived.Test.YtkmjmnljkidobaaGreatMA
import Derived.Deep.RegionHeld3
set_option maxRecDepth 100000
set_option maxHeartbeats 8000000
namespace Go.Proofs.YtkmjmnljkidobaaGreat
open Go
open Go.ChangeShapes Go.WideShapes Go.ChangeAt Go.RowKit
open Go.RowKit
def sufP (c:List (List Int)):Nat→Int
 | 0=>1
 |k+1=>sufP c k*(c.getD (c.length-1-k) []).length
theorem suf_cnt (c:List (List Int)):∀k:Nat,k≤c.length→cntK c (c.length-k)*sufP c k=cntK c c.length
 | 0,_=>by simp[sufP]
 |k+1,h=>by
  have ih:=suf_cnt c k (by omega);have e:c.length-k=(c.length-(k+1))+1:=by omega
  have e2:c.length-1-k=c.length-(k+1):=by omega
  rw[←ih,e,cntK,sufP,e2,Int.mul_comm (sufP c k),←Int.mul_assoc]
theorem suf_all (c:List (List Int)):sufP c c.length=cntK c c.length:=by
 have:=suf_cnt c c.length (Nat.le_refl _);rw[Nat.sub_self,cntK,Int.one_mul] at this;exact this
def Full (c:List (List Int)):Prop:=∀i,i<c.length→0<(c.getD i []).length
theorem at_nonneg {c:List (List Int)}{n:Int}(h0:0≤n):∀k:Nat,0≤(atK c n k).1
 | 0=>h0
 |k+1=>by
  have ih:=at_nonneg (c:=c) h0 k;simp only[atK];exact Int.ediv_nonneg ih (Int.natCast_nonneg _)
theorem at_bound {c:List (List Int)}(hf:Full c){n:Int}:∀(k:Nat) (M:Int),k≤c.length→n<sufP c k*M→(atK c n k).1<M
 | 0,M,_,h=>by simpa [sufP,atK] using h
 |k+1,M,hk,h=>by
  have hl:(0:Int)<(c.getD (c.length-1-k) []).length:=by have:=hf (c.length-1-k) (by omega);omega
  rw[sufP,Int.mul_assoc] at h;have ih:=at_bound hf k _ (by omega) h;simp only[atK];refine Int.ediv_lt_of_lt_mul hl ?_;rw[Int.mul_comm];exact ih
theorem at_end {c:List (List Int)}(hf:Full c){n:Int}(h0:0≤n)(h1:n<cntK c c.length):(atK c n c.length).1=0:=by
 have a:=at_nonneg (c:=c) h0 c.length;have b:=at_bound hf (n:=n) c.length 1 (Nat.le_refl _) (by rw[suf_all,Int.mul_one];exact h1);omega
theorem nodup_at {l:List Int}(hn:l.Nodup){p q:Nat}(hp:p<l.length)(hq:q<l.length)(e:l.getD p 0=l.getD q 0):p=q:=by
 rw[List.getD_eq_getElem?_getD,List.getElem?_eq_getElem hp,List.getD_eq_getElem?_getD,List.getElem?_eq_getElem hq] at e;exact (List.getElem_inj hn).1 e
theorem at_same {c:List (List Int)}(hf:Full c)(hn:∀i,i<c.length→(c.getD i []).Nodup){n m:Int}:∀k:Nat,k≤c.length→(atK c n k).2=(atK c m k).2→(atK c n k).1=(atK c m k).1→n=m
 | 0,_,_,h=>h
 |k+1,hk,h2,h1=>by
  simp only[atK] at h1 h2;have hi:c.length-1-k<c.length:=by omega
  have hl:=hf _ hi;have hnn:=hn _ hi;generalize c.getD (c.length-1-k) []=l at h1 h2 hl hnn;have hL:(0:Int)<(l.length:Int):=by omega
  rw[List.cons.injEq] at h2;have a1:=Int.emod_nonneg (atK c n k).1 (show (l.length:Int)≠0 by omega);have a2:=Int.emod_lt_of_pos (atK c n k).1 hL;have b1:=Int.emod_nonneg (atK c m k).1 (show (l.length:Int)≠0 by omega);have b2:=Int.emod_lt_of_pos (atK c m k).1 hL;have e:=nodup_at hnn (by omega) (by omega) h2.1;have e':(atK c n k).1 % (l.length:Int)=(atK c m k).1 % (l.length:Int):=by omega
  refine at_same hf hn k (by omega) h2.2 ?_;have x:=Int.emod_add_mul_ediv (atK c n k).1 (l.length:Int);have y:=Int.emod_add_mul_ediv (atK c m k).1 (l.length:Int);rw[h1,e'] at x;exact x.symm.trans y
theorem at_one' {c:List (List Int)}(hf:Full c)(hn:∀i,i<c.length→(c.getD i []).Nodup){n m:Int}(h0:0≤n)(h1:n<cntK c c.length)(g0:0≤m)(g1:m<cntK c c.length):atL c n=atL c m↔n=m:=
 ⟨fun h=>at_same hf hn c.length (Nat.le_refl _) h (by rw[at_end hf h0 h1,at_end hf g0 g1]),fun h=>by rw[h]⟩
theorem is_get {l:List Int}{p:Nat}(hp:p<l.length):isB l (l.getD p 0)=true:=by
 unfold isB;rw[List.any_eq_true];refine⟨l.getD p 0,?_,by simp⟩;rw[List.getD_eq_getElem?_getD,List.getElem?_eq_getElem hp];exact List.getElem_mem hp
theorem at_each {c:List (List Int)}(hf:Full c){n:Int}:∀(k:Nat),k≤c.length→∀j,j<k→isB (c.getD (c.length-k+j) []) ((atK c n k).2.getD j 0)=true
 | 0,_,j,hj=>by omega
 |k+1,hk,j,hj=>by
  simp only[atK]
  cases j with
  |zero=>
   rw[List.getD_cons_zero,Nat.add_zero,show c.length-(k+1)=c.length-1-k by omega];have hl:=hf (c.length-1-k) (by omega);have a1:=Int.emod_nonneg (atK c n k).1 (show ((c.getD (c.length-1-k) []).length:Int)≠0 by omega);have a2:=Int.emod_lt_of_pos (atK c n k).1 (show (0:Int)<((c.getD (c.length-1-k) []).length:Int) by omega);exact is_get (by omega)
  |succ j=>
   rw[List.getD_cons_succ,show c.length-(k+1)+(j+1)=c.length-k+j by omega];exact at_each hf k (by omega) j (by omega)
theorem at_src {c:List (List Int)}(hf:Full c)(n:Int):srcB c (atL c n)=true:=by
 unfold srcB;rw[Bool.and_eq_true,decide_eq_true_eq];refine⟨(atK_len c n c.length).symm,?_⟩;rw[srcK_iff];intro i hi;have:=at_each hf (n:=n) c.length (Nat.le_refl _) i hi;rw[Nat.sub_self,Nat.zero_add] at this;exact this
theorem place_in {dss:List (List Dd)}(h:workB dss=true)(j:Nat)(hj:j<(evsW dss dss.length).length):0≤((evsW dss dss.length).getD j zE).2.2.2.1∧((evsW dss dss.length).getD j zE).2.2.2.1≤2:=by
 simp only[workB,Bool.and_eq_true,decide_eq_true_eq] at h;obtain⟨⟨⟨⟨_,h2⟩,_⟩,_⟩,_⟩:=h;have hok:∀i,i<dss.length→okL (dss.getD i [])=true:=fun i hi=>all_get [] h2 i hi
 obtain⟨⟨t,ht⟩,hg⟩:=evs_good hok dss.length (Nat.le_refl _);by_cases hj3:3≤j
 · exact good_place hok (hg j hj3 hj)
 ·
  obtain⟨b0,b1,b2⟩:=beg_get ht;have:j=0∨j=1∨j=2:=by omega
  rcases this with rfl|rfl|rfl
  · rw[b0];decide
  · rw[b1];decide
  · rw[b2];decide
theorem chc_full {dss:List (List Dd)}(hw:workB dss=true):Full (chcL (eventsB dss))∧∀i,i<(chcL (eventsB dss)).length→((chcL (eventsB dss)).getD i []).Nodup:=by
 have e1:eventsB dss=evsW dss dss.length:=by rw[eventsB,if_pos hw]
 obtain⟨h12,_,_,h4,hG⟩:=events_law hw;rw[e1];have e3:∀f,idxB f (evsW dss dss.length)=idxK f (evsW dss dss.length) (evsW dss dss.length).length:=fun f=>by unfold idxB;rw[if_pos h12]
 refine⟨fun i hi=>?_,fun i hi=>?_⟩
 ·
  unfold chcL at hi ⊢;rw[chcK_len] at hi;rw[chcK_get _ _ _ _ hi]
  have hp:∃p:Nat,p<3∧plE (evsW dss dss.length) ((idxB rdE (evsW dss dss.length)).getD i 0)=(p:Int):=by
   have hm:(idxB rdE (evsW dss dss.length)).getD i 0∈idxB rdE (evsW dss dss.length):=by
    rw[List.getD_eq_getElem?_getD,List.getElem?_eq_getElem hi];exact List.getElem_mem hi
   have hb:0≤(idxB rdE (evsW dss dss.length)).getD i 0∧(idxB rdE (evsW dss dss.length)).getD i 0<((evsW dss dss.length).length:Int):=by
    refine idxK_lt rdE (evsW dss dss.length) _ _ ?_;rw[e3] at hm ⊢;exact hm
   generalize (idxB rdE (evsW dss dss.length)).getD i 0=r at hb;obtain⟨j,rfl⟩:=Int.eq_ofNat_of_zero_le hb.1;have hj:j<(evsW dss dss.length).length:=by omega
   unfold plE;rw[Int.toNat_natCast];have:=place_in hw j hj;obtain⟨p,hp⟩:=Int.eq_ofNat_of_zero_le this.1;exact⟨p,by omega,hp⟩
  obtain⟨p,hp3,hp⟩:=hp;rw[hp];obtain⟨r,hr⟩:=h4 p hp3;rw[e3,hr];simp
 ·
  unfold chcL at hi ⊢;rw[chcK_len] at hi;rw[chcK_get _ _ _ _ hi,e3];exact (idxK_rises _ _ _).imp (fun h=>by omega)
theorem bitB_nat (a i:Nat)(ha:a<4096):bitB (a:Int) (i:Int)=a.testBit i:=by
 unfold bitB;have hd:a / 2 ^ i≤a:=Nat.div_le_self _ _;have e:((a:Int) / 2 ^ (i:Int).toNat)=((a / 2 ^ i:Nat):Int):=by simp
 rw[e,show (1:Int)=((1:Nat):Int) from rfl,i64_and_nat _ _ (by omega) (by omega),Nat.and_one_is_mod,Nat.testBit_eq_decide_div_mod_eq];generalize a / 2 ^ i % 2=r;rw[Bool.eq_iff_iff,beq_iff_eq,decide_eq_true_eq];omega
theorem inSetB_nat (a i:Nat)(ha:a<4096)(hi:i<12):inSetB (a:Int) (i:Int)=a.testBit i:=by
 have h1:inB (i:Int) 0 11=true:=by unfold inB;simp;omega
 have h2:inB (a:Int) 0 4095=true:=by unfold inB;simp;omega
 simp[inSetB,h1,h2,bitB_nat a i ha]
theorem gAdd_nat (a i:Nat)(ha:a<4096)(hi:i<12):gAdd (a:Int) (i:Int)=((a ||| 2 ^ i:Nat):Int):=by
 have h1:inB (i:Int) 0 11=true:=by unfold inB;simp;omega
 rw[gAdd_ok _ _ (by omega) h1,wrap64_pow _ (by omega) (by omega)];have hq:(2:Nat) ^ i<2 ^ 12:=Nat.pow_lt_pow_right (by omega) hi;have e:((2:Int) ^ (i:Int).toNat)=((2 ^ i:Nat):Int):=by simp
 rw[e,i64_or_nat a _ (by omega) (by omega)]
theorem or_lt (a i:Nat)(ha:a<4096)(hi:i<12):a ||| 2 ^ i<4096:=by
 have hq:(2:Nat) ^ i<2 ^ 12:=Nat.pow_lt_pow_right (by omega) hi;exact Nat.or_lt_two_pow (n:=12) ha hq
theorem mem_iff (s:Int)(n:Nat)(x:Int):x∈mem s n↔∃k:Nat,k<n∧x=k∧inSetB s k=true:=by
 induction n with
 |zero=>simp[mem]
 |succ n ih=>
  unfold mem;rw[List.mem_append,ih];constructor
  ·
   rintro (⟨k,hk,rfl,h⟩|h)
   · exact⟨k,by omega,rfl,h⟩
   ·
    split at h
    ·
     rename_i hs;simp at h;exact⟨n,by omega,h,hs⟩
    · simp at h
  ·
   rintro⟨k,hk,rfl,h⟩;by_cases hkn:k=n
   · subst hkn;right;simp[h]
   · exact .inl ⟨k,by omega,rfl,h⟩
def webB (zs:List Int):Bool:=zs.all (okB zs.length)
def twoB (a b:List Int):Bool:=decide (a.length=b.length)&&webB a&&webB b
def mixL (f:Int→Int→Int)(a b:List Int):List Int:=if twoB a b=true then List.zipWith f a b else []
def orI (a b:Int):Int:=bits .or .i64 a b
def andI (a b:Int):Int:=bits .and .i64 a b
def notI (a b:Int):Int:=bits .andNot .i64 a b
def thenS (x:Int)(b:List Int):Nat→Int
 | 0=>0
 |k+1=>if inSetB x k=true then orI (thenS x b k) (b.getD k 0) else thenS x b k
def thenL (a b:List Int):List Int:=if twoB a b=true then a.map (fun x=>thenS x b 12) else []
def backIn (i:Nat)(x:Int)(st:List Int):Nat→List Int
 | 0=>st
 |k+1=>if inSetB x k=true then (backIn i x st k).set k (gAdd ((backIn i x st k).getD k 0) i) else backIn i x st k
def backAll (zs:List Int):Nat→List Int
 | 0=>List.replicate zs.length 0
 |i+1=>backIn i (zs.getD i 0) (backAll zs i) 12
def backL (zs:List Int):List Int:=if webB zs=true then backAll zs zs.length else []
def wayIn (k:Nat)(st:List Int):Nat→List Int
 | 0=>st
 |i+1=>if inSetB ((wayIn k st i).getD i 0) k=true then (wayIn k st i).set i (orI ((wayIn k st i).getD i 0) ((wayIn k st i).getD k 0)) else wayIn k st i
def wayAll (zs:List Int):Nat→List Int
 | 0=>zs
 |k+1=>wayIn k (wayAll zs k) zs.length
def waysL (zs:List Int):List Int:=if webB zs=true then wayAll zs zs.length else []
theorem getD_mem {zs:List Int}{i:Nat}(h:i<zs.length):zs.getD i 0∈zs:=by
 rw[List.getD_eq_getElem?_getD,List.getElem?_eq_getElem h];exact List.getElem_mem h
theorem webB_all {zs:List Int}(h:∀i,i<zs.length→okB zs.length (zs.getD i 0)=true):webB zs=true:=by
 unfold webB;rw[List.all_eq_true];intro x hx;obtain⟨i,hi,rfl⟩:=List.getElem_of_mem hx;have:=h i hi
 rwa [List.getD_eq_getElem?_getD,List.getElem?_eq_getElem hi] at this
theorem webB_get {zs:List Int}(h:webB zs=true){i:Nat}(hi:i<zs.length):okB zs.length (zs.getD i 0)=true:=by
 unfold webB at h;rw[List.all_eq_true] at h;exact h _ (getD_mem hi)
theorem webB_bad {zs:List Int}{i:Nat}(hi:i<zs.length)(h:okB zs.length (zs.getD i 0)=false):webB zs=false:=by
 cases hw:webB zs with
 |false=>rfl
 |true=>rw[webB_get hw hi] at h;cases h
theorem okB_iff {n s:Int}:okB n s=true↔(0≤n∧n≤12)∧0≤s∧s<2 ^ n.toNat:=by unfold okB;rw[decide_eq_true_eq]
theorem webB_len {zs:List Int}(h:webB zs=true):zs.length≤12:=by
 by_cases h0:zs.length=0
 · omega
 · have:=okB_iff.1 (webB_get h (i:=0) (by omega));omega
theorem okB_range {n s:Int}(h:okB n s=true):0≤s∧s≤4095:=by
 have h1:=okB_iff.1 h;have:=pow_le12 n.toNat (by omega);omega
theorem twoB_iff {a b:List Int}:twoB a b=true↔a.length=b.length∧webB a=true∧webB b=true:=by
 unfold twoB;rw[Bool.and_eq_true,Bool.and_eq_true,decide_eq_true_eq,and_assoc]
theorem inSetB_bit {s:Int}{k:Nat}(h:0≤s∧s≤4095)(hk:k<12):inSetB s k=bitB s k:=by
 have h1:inB (k:Int) 0 11=true:=by unfold inB;simp;omega
 have h2:inB s 0 4095=true:=by unfold inB;simp;omega
 simp[inSetB,h1,h2]
theorem okB_nat {n:Nat}{s:Int}(h:okB n s=true):n≤12∧∃a:Nat,s=a∧a<2 ^ n∧a<4096:=by
 have h1:=okB_iff.1 h;have h2:=okB_range h;obtain⟨a,rfl⟩:=Int.eq_ofNat_of_zero_le h2.1;refine⟨by omega,a,rfl,?_,by omega⟩;have:=h1.2.2;simp at this
 exact_mod_cast this
theorem okB_of_nat {n a:Nat}(hn:n≤12)(ha:a<2 ^ n):okB n a=true:=by
 rw[okB_iff];refine⟨by omega,by omega,?_⟩;simp
 exact_mod_cast ha
theorem inSetB_iff {n:Nat}{s:Int}(h:okB n s=true){j:Nat}(hj:inSetB s j=true):j<n:=by
 obtain⟨hn,a,rfl,ha,h12⟩:=okB_nat h
 have hj12:j<12:=by
  have:inB (j:Int) 0 11=true:=by unfold inSetB at hj;simp at hj;exact hj.1.1
  unfold inB at this;simp at this;omega
 rw[inSetB_nat a j h12 hj12] at hj;apply Classical.byContradiction;intro hnj;have hp:(2:Nat) ^ n≤2 ^ j:=Nat.pow_le_pow_right (by omega) (by omega);rw[Nat.testBit_lt_two_pow (by omega)] at hj;cases hj
theorem inSetB_far (s:Int){j:Nat}(hj:12≤j):inSetB s j=false:=by
 have:inB (j:Int) 0 11=false:=by unfold inB;simp;omega
 simp[inSetB,this]
theorem ok_ext {n:Nat}{s t:Int}(hs:okB n s=true)(ht:okB n t=true)(h:∀j:Nat,j<n→inSetB s j=inSetB t j):s=t:=by
 obtain⟨hn,a,rfl,ha,ha'⟩:=okB_nat hs;obtain⟨_,b,rfl,hb,hb'⟩:=okB_nat ht
 congr 1
 apply Nat.eq_of_testBit_eq;intro j;by_cases hj:j<n
 ·
  have:=h j hj
  rwa [inSetB_nat a j ha' (by omega),inSetB_nat b j hb' (by omega)] at this
 ·
  have hp:(2:Nat) ^ n≤2 ^ j:=Nat.pow_le_pow_right (by omega) (by omega);rw[Nat.testBit_lt_two_pow (by omega),Nat.testBit_lt_two_pow (by omega)]
theorem ok_zero {n:Nat}(hn:n≤12):okB n 0=true:=okB_of_nat (a:=0) hn (Nat.two_pow_pos n)
theorem zero_bit (j:Nat):inSetB 0 j=false:=by
 by_cases hj:j<12
 · rw[show (0:Int)=((0:Nat):Int) from rfl,inSetB_nat 0 j (by omega) hj,Nat.zero_testBit]
 · exact inSetB_far _ (by omega)
theorem i64_andNot_nat (a b:Nat)(ha:a<9223372036854775808)(hb:b<9223372036854775808):bits .andNot .i64 (a:Int) (b:Int)=((a &&& (18446744073709551615-b):Nat):Int):=by
 have hx:a &&& (18446744073709551615-b)≤a:=Nat.and_le_left;show IntKind.i64.wrap ((BitVec.ofInt 64 (a:Int) &&& ~~~ BitVec.ofInt 64 (b:Int)).toNat:Int)=_;rw[BitVec.toNat_and,BitVec.toNat_not,ofInt_i64 a ha,ofInt_i64 b hb,IntKind.wrap_i64,show (2:Nat) ^ 64-1-b=18446744073709551615-b from rfl];omega
theorem ok_or {n:Nat}{s t:Int}(hs:okB n s=true)(ht:okB n t=true):okB n (orI s t)=true∧∀j:Nat,inSetB (orI s t) j=(inSetB s j||inSetB t j):=by
 obtain⟨hn,a,rfl,ha,ha'⟩:=okB_nat hs;obtain⟨_,b,rfl,hb,hb'⟩:=okB_nat ht;have e:orI (a:Int) (b:Int)=((a ||| b:Nat):Int):=i64_or_nat a b (by omega) (by omega);have hl:a ||| b<2 ^ n:=Nat.or_lt_two_pow ha hb;have hl':a ||| b<4096:=Nat.or_lt_two_pow (n:=12) ha' hb';rw[e];refine⟨okB_of_nat hn hl,fun j=>?_⟩;by_cases hj:j<12
 · rw[inSetB_nat _ j hl' hj,inSetB_nat _ j ha' hj,inSetB_nat _ j hb' hj,Nat.testBit_or]
 · rw[inSetB_far _ (by omega),inSetB_far _ (by omega),inSetB_far _ (by omega)];rfl
theorem ok_and {n:Nat}{s t:Int}(hs:okB n s=true)(ht:okB n t=true):okB n (andI s t)=true∧∀j:Nat,inSetB (andI s t) j=(inSetB s j&&inSetB t j):=by
 obtain⟨hn,a,rfl,ha,ha'⟩:=okB_nat hs;obtain⟨_,b,rfl,hb,hb'⟩:=okB_nat ht;have e:andI (a:Int) (b:Int)=((a &&& b:Nat):Int):=i64_and_nat a b (by omega) (by omega);have hl:a &&& b≤a:=Nat.and_le_left;rw[e];refine⟨okB_of_nat hn (by omega),fun j=>?_⟩;by_cases hj:j<12
 · rw[inSetB_nat _ j (by omega) hj,inSetB_nat _ j ha' hj,inSetB_nat _ j hb' hj,Nat.testBit_and]
 · rw[inSetB_far _ (by omega),inSetB_far _ (by omega),inSetB_far _ (by omega)];rfl
theorem ok_not {n:Nat}{s t:Int}(hs:okB n s=true)(ht:okB n t=true):okB n (notI s t)=true∧∀j:Nat,inSetB (notI s t) j=(inSetB s j&&!inSetB t j):=by
 obtain⟨hn,a,rfl,ha,ha'⟩:=okB_nat hs;obtain⟨_,b,rfl,hb,hb'⟩:=okB_nat ht;have e:notI (a:Int) (b:Int)=((a &&& (18446744073709551615-b):Nat):Int):=i64_andNot_nat a b (by omega) (by omega);have hl:a &&& (18446744073709551615-b)≤a:=Nat.and_le_left;rw[e];refine⟨okB_of_nat hn (by omega),fun j=>?_⟩;by_cases hj:j<12
 ·
  have h2:(18446744073709551615-b).testBit j=!b.testBit j:=by
   have e2:18446744073709551615-b=2 ^ 64-(b+1):=by omega
   rw[e2,Nat.testBit_two_pow_sub_succ (by omega)];have:j<64:=by omega
   simp[this]
  rw[inSetB_nat _ j (by omega) hj,inSetB_nat _ j ha' hj,inSetB_nat _ j hb' hj,Nat.testBit_and,h2]
 · rw[inSetB_far _ (by omega),inSetB_far _ (by omega),inSetB_far _ (by omega)];rfl
theorem ok_add {n:Nat}{s:Int}(hs:okB n s=true){i:Nat}(hi:i<n):okB n (gAdd s i)=true∧∀j:Nat,inSetB (gAdd s i) j=(inSetB s j||decide (i=j)):=by
 obtain⟨hn,a,rfl,ha,ha'⟩:=okB_nat hs;rw[gAdd_nat a i ha' (by omega)];have hp:(2:Nat) ^ i<2 ^ n:=Nat.pow_lt_pow_right (by omega) hi;have hl:a ||| 2 ^ i<2 ^ n:=Nat.or_lt_two_pow ha hp;refine⟨okB_of_nat hn hl,fun j=>?_⟩;by_cases hj:j<12
 · rw[inSetB_nat _ j (or_lt a i ha' (by omega)) hj,inSetB_nat _ j ha' hj,Nat.testBit_or,Nat.testBit_two_pow]
 ·
  have:¬i=j:=by omega
  rw[inSetB_far _ (by omega),inSetB_far _ (by omega)];simp[this]
def Web (n:Nat)(zs:List Int):Prop:=n≤12∧zs.length=n∧∀i,i<n→okB n (zs.getD i 0)=true
theorem web_iff {zs:List Int}:webB zs=true↔Web zs.length zs:=by
 constructor
 · intro h;exact⟨webB_len h,rfl,fun i hi=>webB_get h hi⟩
 · intro h;exact webB_all h.2.2
theorem Web.b {n:Nat}{zs:List Int}(h:Web n zs):webB zs=true:=by
 obtain⟨h1,rfl,h2⟩:=h;exact web_iff.2 ⟨h1,rfl,h2⟩
theorem list_ext {n:Nat}{a b:List Int}(ha:a.length=n)(hb:b.length=n)(h:∀i,i<n→a.getD i 0=b.getD i 0):a=b:=by
 apply List.ext_getElem (by omega);intro i h1 h2;have:=h i (by omega);rw[List.getD_eq_getElem?_getD,List.getD_eq_getElem?_getD,List.getElem?_eq_getElem h1,List.getElem?_eq_getElem h2] at this;exact this
def line (zs:List Int)(i j:Nat):Bool:=inSetB (zs.getD i 0) j
theorem Web.ext {n:Nat}{a b:List Int}(ha:Web n a)(hb:Web n b)(h:∀i j,i<n→j<n→line a i j=line b i j):a=b:=
 list_ext ha.2.1 hb.2.1 fun i hi=>ok_ext (ha.2.2 i hi) (hb.2.2 i hi) fun j hj=>h i j hi hj
theorem Web.lt {n:Nat}{a:List Int}(ha:Web n a){i j:Nat}(hi:i<n)(h:line a i j=true):j<n:=inSetB_iff (ha.2.2 i hi) h
theorem getD_set (zs:List Int)(i j:Nat)(x:Int)(hi:i<zs.length):(zs.set i x).getD j 0=if i=j then x else zs.getD j 0:=by
 rw[List.getD_eq_getElem?_getD,List.getD_eq_getElem?_getD,List.getElem?_set];by_cases h:i=j
 · subst h;simp[hi]
 · simp[h]
theorem Web.set {n:Nat}{a:List Int}(ha:Web n a){i:Nat}{x:Int}(hx:okB n x=true):Web n (a.set i x):=by
 obtain⟨h1,h2,h3⟩:=ha;refine⟨h1,by simp[h2],fun j hj=>?_⟩;by_cases hi:i<a.length
 ·
  rw[getD_set a i j x hi];split
  · exact hx
  · exact h3 j hj
 · rw[List.set_eq_of_length_le (by omega)];exact h3 j hj
theorem Web.zero {n:Nat}(hn:n≤12):Web n (List.replicate n 0):=by
 refine⟨hn,by simp,fun i hi=>?_⟩;rw[List.getD_eq_getElem?_getD,List.getElem?_replicate,if_pos hi];exact ok_zero hn
theorem line_zero (n i j:Nat):line (List.replicate n 0) i j=false:=by
 unfold line;rw[List.getD_eq_getElem?_getD,List.getElem?_replicate];split<;>exact zero_bit j
def thenF (b:List Int)(s k:Int):Int:=orI s (b.getD k.toNat 0)
theorem thenS_fold (x:Int)(b:List Int)(k:Nat):(mem x k).foldl (thenF b) 0=thenS x b k:=by
 induction k with
 |zero=>rfl
 |succ k ih=>
  unfold mem thenS;rw[List.foldl_append,ih]
  cases inSetB x k with
  |false=>rfl
  |true=>simp[thenF]
theorem ok_then {n:Nat}{x:Int}{b:List Int}(hx:okB n x=true)(hb:Web n b)(m:Nat):okB n (thenS x b m)=true∧∀j:Nat,inSetB (thenS x b m) j=true↔∃k,k<m∧inSetB x k=true∧line b k j=true:=by
 induction m with
 |zero=>exact⟨ok_zero hb.1,fun j=>by rw[show thenS x b 0=0 from rfl,zero_bit];simp⟩
 |succ m ih=>
  unfold thenS
  cases hm:inSetB x m with
  |false=>
   refine⟨by simpa using ih.1,fun j=>?_⟩;simp only[Bool.false_eq_true,if_false];rw[ih.2 j];constructor
   · rintro⟨k,hk,h1,h2⟩;exact⟨k,by omega,h1,h2⟩
   ·
    rintro⟨k,hk,h1,h2⟩;refine⟨k,?_,h1,h2⟩;have:k≠m:=fun e=>by subst e;rw[hm] at h1;cases h1
    omega
  |true=>
   have hmn:=inSetB_iff hx hm;have ho:=ok_or ih.1 (hb.2.2 m hmn);refine⟨by simpa using ho.1,fun j=>?_⟩;simp only[if_true];rw[ho.2 j,Bool.or_eq_true,ih.2 j];constructor
   ·
    rintro (⟨k,hk,h1,h2⟩|h)
    · exact⟨k,by omega,h1,h2⟩
    · exact⟨m,by omega,hm,h⟩
   ·
    rintro⟨k,hk,h1,h2⟩;by_cases e:k=m
    · subst e;exact .inr h2
    · exact .inl ⟨k,by omega,h1,h2⟩
theorem web_backIn {n i:Nat}{x:Int}{st:List Int}(hx:okB n x=true)(hi:i<n)(hst:Web n st)(m:Nat):
  Web n (backIn i x st m)∧∀k j:Nat,k<n→line (backIn i x st m) k j=(line st k j||(decide (k<m)&&inSetB x k&&decide (i=j))):=by
 induction m with
 |zero=>exact⟨hst,fun k j _=>by simp[backIn]⟩
 |succ m ih=>
  unfold backIn
  cases hm:inSetB x m with
  |false=>
   refine⟨by simpa using ih.1,fun k j hk=>?_⟩;simp only[Bool.false_eq_true,if_false];rw[ih.2 k j hk];by_cases e:k=m
   · subst e;simp[hm]
   ·
    have:(k<m+1)↔k<m:=by omega
    simp[this]
  |true=>
   have hmn:=inSetB_iff hx hm;have ha:=ok_add (ih.1.2.2 m hmn) hi;refine⟨by simpa using ih.1.set ha.1,fun k j hk=>?_⟩;simp only[if_true];have e1:=ih.2 k j hk;unfold line at e1 ⊢;rw[getD_set _ _ _ _ (by rw[ih.1.2.1];exact hmn)];by_cases e:m=k
   · subst e;simp only[if_true];rw[ha.2 j,e1,hm];simp
   ·
    have:(k<m+1)↔k<m:=by omega
    simp only[e,if_false];rw[e1];simp[this]
theorem web_backAll {n:Nat}{zs:List Int}(hz:Web n zs)(m:Nat)(hm:m≤n):
  Web n (backAll zs m)∧∀k j:Nat,k<n→line (backAll zs m) k j=(decide (j<m)&&line zs j k):=by
 induction m with
 |zero=>
  have e:backAll zs 0=List.replicate n 0:=by unfold backAll;rw[hz.2.1]
  rw[e];exact⟨Web.zero hz.1,fun k j _=>by rw[line_zero];simp⟩
 |succ m ih=>
  have ih:=ih (by omega);have h1:=web_backIn (hz.2.2 m (by omega)) (show m<n by omega) ih.1 12;refine⟨h1.1,fun k j hk=>?_⟩;show line (backIn m (zs.getD m 0) (backAll zs m) 12) k j=_;rw[h1.2 k j hk,ih.2 k j hk];have hk12:k<12:=by have:=hz.1;omega
  by_cases e:m=j
  · subst e;simp[hk12,line]
  ·
   have:(j<m+1)↔j<m:=by omega
   simp[e,this]
theorem wayIn_len (k:Nat)(st:List Int)(i:Nat):(wayIn k st i).length=st.length:=by
 induction i with
 |zero=>rfl
 |succ i ih=>unfold wayIn;split<;>simp[ih]
theorem web_wayIn {n k:Nat}{st:List Int}(hk:k<n)(hst:Web n st)(m:Nat)(hm:m≤n):
  Web n (wayIn k st m)∧∀i j:Nat,i<n→line (wayIn k st m) i j=(line st i j||(decide (i<m)&&line st i k&&line st k j)):=by
 induction m with
 |zero=>exact⟨hst,fun i j _=>by simp[wayIn]⟩
 |succ m ih=>
  have ih:=ih (by omega);have hmn:m<n:=by omega
  have hkk:∀j,line (wayIn k st m) k j=line st k j:=by
   intro j;rw[ih.2 k j hk];cases line st k j<;>simp
  have hmk:line (wayIn k st m) m k=line st m k:=by rw[ih.2 m k hmn];simp
  have hmj:∀j,line (wayIn k st m) m j=line st m j:=by intro j;rw[ih.2 m j hmn];simp
  unfold wayIn
  cases hb:inSetB ((wayIn k st m).getD m 0) k with
  |false=>
   have hb':line st m k=false:=by rw[←hmk];exact hb
   refine⟨by simpa using ih.1,fun i j hi=>?_⟩;simp only[Bool.false_eq_true,if_false];rw[ih.2 i j hi];by_cases e:i=m
   · subst e;simp[hb']
   ·
    have:(i<m+1)↔i<m:=by omega
    simp[this]
  |true=>
   have hb':line st m k=true:=by rw[←hmk];exact hb
   have ho:=ok_or (ih.1.2.2 m hmn) (ih.1.2.2 k hk);refine⟨by simpa using ih.1.set ho.1,fun i j hi=>?_⟩;simp only[if_true];have e1:=ih.2 i j hi;have e2:=hkk j;have e3:=hmj j;unfold line at e1 e2 e3 ⊢;rw[getD_set _ _ _ _ (by rw[ih.1.2.1];exact hmn)];by_cases e:m=i
   ·
    subst e;simp only[if_true];rw[ho.2 j,e2,e3];unfold line at hb';rw[hb'];simp
   ·
    have:(i<m+1)↔i<m:=by omega
    simp only[e,if_false];rw[e1];simp[this]
theorem web_wayAll {n:Nat}{zs:List Int}(hz:Web n zs)(m:Nat)(hm:m≤n):Web n (wayAll zs m):=by
 induction m with
 |zero=>exact hz
 |succ m ih=>
  show Web n (wayIn m (wayAll zs m) zs.length);rw[hz.2.1];exact (web_wayIn (by omega) (ih (by omega)) n (Nat.le_refl _)).1
theorem line_wayAll {n:Nat}{zs:List Int}(hz:Web n zs)(m:Nat)(hm:m<n){i:Nat}(hi:i<n)(j:Nat):
  line (wayAll zs (m+1)) i j=(line (wayAll zs m) i j||(line (wayAll zs m) i m&&line (wayAll zs m) m j)):=by
 show line (wayIn m (wayAll zs m) zs.length) i j=_;rw[hz.2.1,(web_wayIn hm (web_wayAll hz m (by omega)) n (Nat.le_refl _)).2 i j hi];simp[hi]
def fwK (n:Nat)(rs f:List Int):Nat→List Int
 | 0=>List.replicate n 0
 |k+1=>(fwK n rs f k).set (f.getD k 0).toNat (gAdd ((fwK n rs f k).getD (f.getD k 0).toNat 0) (rs.getD k 0))
def fwL (es:List Ev)(f:List Int):List Int:=fwK es.length (idxB rdE es) f (idxB rdE es).length
theorem fw_line {n:Nat}{rs f:List Int}(hn:n≤12):∀k:Nat,(∀i,i<k→0≤rs.getD i 0∧rs.getD i 0<(n:Int))→(∀i,i<k→0≤f.getD i 0∧f.getD i 0<(n:Int)) →
  Web n (fwK n rs f k)∧∀a j:Nat,a<n→(line (fwK n rs f k) a j=true↔∃i,i<k∧f.getD i 0=(a:Int)∧rs.getD i 0=(j:Int))
 | 0,_,_=>⟨Web.zero hn,fun a j _=>by rw[fwK,line_zero];simp⟩
 |k+1,hr,hf=>by
  obtain⟨h1,h2⟩:=fw_line hn k (fun i hi=>hr i (by omega)) (fun i hi=>hf i (by omega));obtain⟨a0,ha0⟩:=Int.eq_ofNat_of_zero_le (hf k (by omega)).1;obtain⟨j0,hj0⟩:=Int.eq_ofNat_of_zero_le (hr k (by omega)).1;have ha:a0<n:=by have:=(hf k (by omega)).2;omega
  have hj:j0<n:=by have:=(hr k (by omega)).2;omega
  rw[fwK,ha0,hj0,Int.toNat_natCast];have hg:=ok_add (h1.2.2 a0 ha) hj;refine⟨h1.set hg.1,fun a j haa=>?_⟩;unfold line;rw[getD_set _ _ _ _ (by rw[h1.2.1];exact ha)];by_cases e:a0=a
  ·
   subst e;rw[if_pos rfl,hg.2 j,Bool.or_eq_true,decide_eq_true_eq];have:=h2 a0 j haa;unfold line at this;rw[this];constructor
   ·
    rintro (⟨i,hi,h⟩|rfl)
    · exact⟨i,by omega,h⟩
    · exact⟨k,by omega,ha0,hj0⟩
   ·
    rintro⟨i,hi,h3,h4⟩;by_cases e2:i=k
    · subst e2;right;rw[hj0] at h4;omega
    · exact .inl ⟨i,by omega,h3,h4⟩
  ·
   rw[if_neg e];have:=h2 a j haa;unfold line at this;rw[this];constructor
   ·
    rintro⟨i,hi,h⟩;exact⟨i,by omega,h⟩
   ·
    rintro⟨i,hi,h3,h4⟩;by_cases e2:i=k
    · subst e2;rw[ha0] at h3;omega
    · exact⟨i,by omega,h3,h4⟩
def memN (l:List Int):Nat→Nat
 | 0=>0
 |m+1=>memN l m+(mem (l.getD m 0) 12).length
theorem mem_cnt (s:Int):∀k:Nat,(mem s k).length=(List.range k).countP (fun j:Nat=>inSetB s (j:Int))
 | 0=>rfl
 |k+1=>by
  rw[mem,List.length_append,mem_cnt s k,List.range_succ,List.countP_append]
  congr 1
  cases h:inSetB s (k:Int)<;>simp[h]
theorem cnt_one {p:Nat→Bool}{i:Nat}:∀k:Nat,p i=false→i<k→(List.range k).countP (fun j=>p j||decide (i=j))=(List.range k).countP p+1
 | 0,_,h=>by omega
 |k+1,hp,h=>by
  rw[List.range_succ,List.countP_append,List.countP_append];by_cases e:i=k
  ·
   subst e
   have:(List.range i).countP (fun j=>p j||decide (i=j))=(List.range i).countP p:=by
    refine List.countP_congr (fun j hj=>?_);rw[List.mem_range] at hj;have:decide (i=j)=false:=by simp;omega
    rw[this,Bool.or_false]
   rw[this];simp[hp]
  ·
   rw[cnt_one k hp (by omega)];have:decide (i=k)=false:=by simp[e]
   simp[this];omega
theorem mem_add {n:Nat}{s:Int}(hs:okB n s=true){i:Nat}(hi:i<n)(hn:inSetB s (i:Int)=false)(h12:n≤12):(mem (gAdd s i) 12).length=(mem s 12).length+1:=by
 have hg:=ok_add hs hi;rw[mem_cnt,mem_cnt,←cnt_one (p:=fun j:Nat=>inSetB s (j:Int)) 12 hn (by omega)];refine List.countP_congr (fun j _=>?_);rw[hg.2 j]
theorem memN_zero (n:Nat):∀m:Nat,memN (List.replicate n 0) m=0
 | 0=>rfl
 |m+1=>by
  rw[memN,memN_zero n m,List.getD_eq_getElem?_getD,List.getElem?_replicate];have:(mem 0 12).length=0:=by decide +kernel
  split<;>simpa using this
theorem memN_set {l:List Int}{a:Nat}{x:Int}(ha:a<l.length)(hx:(mem x 12).length=(mem (l.getD a 0) 12).length+1):∀m:Nat,memN (l.set a x) m=memN l m+(if a<m then 1 else 0)
 | 0=>by simp[memN]
 |m+1=>by
  rw[memN,memN,memN_set ha hx m,getD_set l a m x ha];by_cases e:a=m
  · subst e;rw[if_pos rfl,hx,if_neg (by omega),if_pos (by omega)];omega
  ·
   rw[if_neg e];by_cases h:a<m
   · rw[if_pos h,if_pos (by omega)];omega
   · rw[if_neg h,if_neg (by omega)];omega
theorem fw_count {n:Nat}{rs f:List Int}(hn:n≤12)(hd:rs.Nodup):∀k:Nat,k≤rs.length→(∀i,i<k→0≤rs.getD i 0∧rs.getD i 0<(n:Int))→(∀i,i<k→0≤f.getD i 0∧f.getD i 0<(n:Int))→memN (fwK n rs f k) n=k
 | 0,_,_,_=>memN_zero n n
 |k+1,hk,hr,hf=>by
  have ih:=fw_count hn hd k (by omega) (fun i hi=>hr i (by omega)) (fun i hi=>hf i (by omega));obtain⟨h1,h2⟩:=fw_line hn k (fun i hi=>hr i (by omega)) (fun i hi=>hf i (by omega));obtain⟨a0,ha0⟩:=Int.eq_ofNat_of_zero_le (hf k (by omega)).1;obtain⟨j0,hj0⟩:=Int.eq_ofNat_of_zero_le (hr k (by omega)).1;have ha:a0<n:=by have:=(hf k (by omega)).2;omega
  have hj:j0<n:=by have:=(hr k (by omega)).2;omega
  have hno:inSetB ((fwK n rs f k).getD a0 0) (j0:Int)=false:=by
   cases hb:inSetB ((fwK n rs f k).getD a0 0) (j0:Int) with
   |false=>rfl
   |true=>
    exfalso;obtain⟨i,hi,_,h4⟩:=(h2 a0 j0 ha).1 hb;have hik:i<rs.length:=by omega
    have e:rs.getD i 0=rs.getD k 0:=by rw[h4,hj0]
    rw[List.getD_eq_getElem?_getD,List.getElem?_eq_getElem hik,List.getD_eq_getElem?_getD,List.getElem?_eq_getElem (by omega)] at e;have:=(List.getElem_inj hd).1 e;omega
  rw[fwK,ha0,hj0,Int.toNat_natCast,memN_set (by rw[h1.2.1];exact ha) (mem_add (h1.2.2 a0 ha) hj hno hn) n,ih,if_pos ha]
theorem isB_mem {l:List Int}{n:Int}(h:isB l n=true):n∈l:=by
 unfold isB at h;rw[List.any_eq_true] at h;obtain⟨x,hx,e⟩:=h;rw[beq_iff_eq] at e;rw[←e];exact hx
theorem idxK_mem (f:Ev→Bool)(l:List Ev):∀(k:Nat) (x:Int),x∈idxK f l k→f (l.getD x.toNat zE)=true
 | 0,x,h=>by simp[idxK] at h
 |k+1,x,h=>by
  rw[idxK] at h;split at h
  ·
   rename_i hf;rcases List.mem_append.1 h with h|h
   · exact idxK_mem f l k x h
   ·
    simp only[List.mem_cons,List.not_mem_nil,or_false] at h;rw[h,Int.toNat_natCast];exact hf
  · exact idxK_mem f l k x h
theorem src_use {es:List Ev}{f:List Int}(hx:es.length≤12)(h:srcB (chcL es) f=true):(idxB rdE es).length=f.length ∧
  ∀i,i<(idxB rdE es).length→(0≤f.getD i 0∧f.getD i 0<(es.length:Int))∧(es.getD (f.getD i 0).toNat zE).2.2.2.1=plE es ((idxB rdE es).getD i 0):=by
 unfold srcB at h;rw[Bool.and_eq_true,decide_eq_true_eq] at h;obtain⟨h1,h2⟩:=h;have hc:(chcL es).length=(idxB rdE es).length:=chcK_len _ _ _;refine⟨by omega,fun i hi=>?_⟩;have h3:=(srcK_iff (chcL es).length).1 h2 i (by omega);unfold chcL at h3;rw[chcK_get _ _ _ _ hi] at h3;have h4:=isB_mem h3;unfold idxB at h4;rw[if_pos hx] at h4;have h5:=idxK_lt _ _ _ _ h4;have h6:=idxK_mem _ _ _ _ h4;refine⟨h5,?_⟩;unfold toE at h6;simp only[Bool.and_eq_true,beq_iff_eq] at h6;rw[h6.2];unfold idxB;rw[if_pos hx]
def fwB (dss:List (List Dd))(f:List Int):List Int:=if sourceB dss f=true then fwL (eventsB dss) f else []
theorem chc_len {es:List Ev}(hx:es.length≤12):(chcL es).length≤12∧∀i,i<(chcL es).length→((chcL es).getD i []).length≤12:=by
 have key:∀f:Ev→Bool,(idxB f es).length≤12:=fun f=>by
  unfold idxB;rw[if_pos hx];have:=idxK_len f es es.length;omega
 unfold chcL;rw[chcK_len];exact⟨key _,fun i hi=>by rw[chcK_get _ _ _ _ hi];exact key _⟩
theorem eventsB_le (dss:List (List Dd)):(eventsB dss).length≤12:=by
 unfold eventsB;split
 ·
  rename_i hb;exact (events_law hb).1
 · simp
theorem atB_len (dss:List (List Dd))(n:Int):(atB dss n).length≤12:=by
 unfold atB;split
 ·
  rw[atL_len]
  have h9:(eventsB dss).length≤12:=by
   unfold eventsB;split
   ·
    rename_i hb;exact (events_law hb).1
   · simp
  exact (chc_len h9).1
 · simp
theorem fwK_len (n:Nat)(rs f:List Int):∀k:Nat,(fwK n rs f k).length=n
 | 0=>by simp[fwK]
 |k+1=>by rw[fwK,List.length_set,fwK_len n rs f k]
theorem fwB_len (dss:List (List Dd))(f:List Int):(fwB dss f).length≤12:=by
 unfold fwB;split
 ·
  unfold fwL;rw[fwK_len];exact eventsB_le dss
 · simp
def grD (d:Dd):Int:=d.2.2.2
def gK (ds:List Dd):Nat→Int
 | 0=>0
 |k+1=>if grD (ds.getD k zD)=0 then gK ds k else gAdd (gK ds k) (grD (ds.getD k zD))
def gC (ds:List Dd):Int:=gK ds ds.length
def partK (ds:List Dd)(k:Nat):Bool:=decide (0<k)&&(grD (ds.getD k zD) != grD (ds.getD (k-1) zD))&&inSetB (gK ds k) (grD (ds.getD k zD))
def togK (ds:List Dd):Nat→Bool
 | 0=>true
 |k+1=>togK ds k&&!partK ds k
def takW (dss:List (List Dd)):Nat→Int
 | 0=>0
 |i+1=>bits .or .i64 (takW dss i) (gC (dss.getD i []))
def rightB (ds:List Dd)(t:Int):Bool:=decide (ds.length≤5)&&ds.all okD&&togK ds ds.length&&(bits .and .i64 (gC ds) t==0)
def rightsW (dss:List (List Dd)):Nat→Bool
 | 0=>true
 |i+1=>rightsW dss i&&rightB (dss.getD i []) (takW dss i)
theorem take_getD {α:Type}(l:List α)(i k:Nat)(z:α)(h:k<i):(l.take i).getD k z=l.getD k z:=by
 rw[List.getD_eq_getElem?_getD,List.getElem?_take,if_pos h,List.getD_eq_getElem?_getD]
theorem gK_take (ds:List Dd)(i:Nat):∀k:Nat,k≤i→gK (ds.take i) k=gK ds k
 | 0,_=>rfl
 |k+1,h=>by rw[gK,gK,gK_take ds i k (by omega),take_getD ds i k zD (by omega)]
theorem gC_take (ds:List Dd)(i:Nat)(h:i≤ds.length):gC (ds.take i)=gK ds i:=by
 rw[gC,List.length_take,Nat.min_eq_left h,gK_take ds i i (Nat.le_refl _)]
theorem togK_false {ds:List Dd}{k:Nat}(h:togK ds k=false):∀n:Nat,k≤n→togK ds n=false
 | 0,hn=>by
  obtain rfl:k=0:=by omega
  exact h
 |n+1,hn=>by
  by_cases e:k=n+1
  · rw[←e];exact h
  · rw[togK,togK_false h n (by omega)];rfl
theorem rightsW_false {dss:List (List Dd)}{k:Nat}(h:rightsW dss k=false):∀n:Nat,k≤n→rightsW dss n=false
 | 0,hn=>by
  obtain rfl:k=0:=by omega
  exact h
 |n+1,hn=>by
  by_cases e:k=n+1
  · rw[←e];exact h
  · rw[rightsW,rightsW_false h n (by omega)];rfl
def Dis (a b:Nat):Prop:=∀k,a.testBit k=true→b.testBit k=false
theorem dis_iff (a b:Nat):Dis a b↔a &&& b=0:=by
 constructor
 ·
  intro h;apply Nat.eq_of_testBit_eq;intro k;rw[Nat.testBit_and,Nat.zero_testBit];cases ha:a.testBit k
  · rfl
  · rw[h k ha];rfl
 ·
  intro h k ha;have h1:(a &&& b).testBit k=false:=by rw[h,Nat.zero_testBit]
  rw[Nat.testBit_and,ha] at h1
  simpa using h1
theorem or_bit (a g k:Nat):(a ||| 2 ^ g).testBit k=(a.testBit k||decide (g=k)):=by
 rw[Nat.testBit_or,Nat.testBit_two_pow]
theorem set_getD (o:List Int)(g:Nat)(x:Int)(j:Nat)(hg:g<o.length):(o.set g x).getD j 0=if g=j then x else o.getD j 0:=by
 rw[List.getD_eq_getElem?_getD,List.getElem?_set];by_cases e:g=j
 · subst e;rw[if_pos rfl,if_pos hg,if_pos rfl];rfl
 · rw[if_neg e,if_neg e,List.getD_eq_getElem?_getD]
theorem okD_grp {d:Dd}(h:okD d=true):0≤grD d∧grD d≤9:=by
 simp[okD,deedB] at h;unfold grD;omega
theorem clerk_same {i:Nat}{own:List Int}{T:Nat}{ds:List Dd}(hl:own.length=10)(hT:∀g,g<10→(own.getD g 0≠0↔T.testBit g=true))(hi:∀g,g<10→own.getD g 0≠(i:Int)+1)(hT0:T.testBit 0=false):
  ∀k:Nat,(∀j,j<k→okD (ds.getD j zD)=true)→∃G:Nat,G<4096∧gK ds k=(G:Int)∧G.testBit 0=false∧(k=0→G=0) ∧
   (grpK i own ds k=none→togK ds k=false∨¬Dis G T) ∧
   ∀o,grpK i own ds k=some o→togK ds k=true∧Dis G T∧o.length=10∧∀g,g<10→o.getD g 0=if G.testBit g=true then (i:Int)+1 else own.getD g 0
 | 0,_=>⟨0,by omega,rfl,by simp,fun _=>rfl,by simp[grpK],by
   intro o ho;simp only[grpK,Option.some.injEq] at ho;subst ho
   exact⟨rfl,fun k hk=>by simp at hk,hl,by simp⟩⟩
 |k+1,hok=>by
  obtain⟨G,hG,hgK,hG0,hz,hN,hS⟩:=clerk_same hl hT hi hT0 k (fun j hj=>hok j (by omega));obtain⟨h0,h9⟩:=okD_grp (hok k (by omega));obtain⟨g,hg⟩:=Int.eq_ofNat_of_zero_le h0;have hgg:(ds.getD k zD).2.2.2=(g:Int):=hg;by_cases hg0:g=0
  ·
   subst hg0;have hz0:(ds.getD k zD).2.2.2=0:=hgg;have e1:gK ds (k+1)=(G:Int):=by rw[gK,hg,if_pos (by simp),hgK]
   have e2:partK ds k=false:=by
    have:inSetB (gK ds k) (grD (ds.getD k zD))=false:=by rw[hgK,hg,inSetB_nat G 0 hG (by omega),hG0]
    rw[partK,this,Bool.and_false]
   have e3:togK ds (k+1)=togK ds k:=by rw[togK,e2];simp
   have e4:grpK i own ds (k+1)=grpK i own ds k:=by
    rw[grpK]
    cases hq:grpK i own ds k with
    |none=>rfl
    |some o=>simp only;rw[if_pos hz0]
   refine⟨G,hG,e1,hG0,by omega,?_,?_⟩
   · rw[e3,e4];exact hN
   · rw[e3,e4];exact hS
  ·
   have hgne:(ds.getD k zD).2.2.2≠0:=by rw[hgg];omega
   have g9:g≤9:=by rw[hg] at h9;omega
   have e1:gK ds (k+1)=((G ||| 2 ^ g:Nat):Int):=by
    rw[gK,hg,if_neg (by omega),hgK,gAdd_nat G g hG (by omega)]
   have e0:(G ||| 2 ^ g).testBit 0=false:=by rw[or_bit,hG0];simp[hg0]
   have inS:inSetB (gK ds k) (grD (ds.getD k zD))=G.testBit g:=by rw[hgK,hg,inSetB_nat G g hG (by omega)]
   refine⟨G ||| 2 ^ g,or_lt G g hG (by omega),e1,e0,by omega,?_,?_⟩
   ·
    intro hn;rw[grpK] at hn
    cases hq:grpK i own ds k with
    |none=>
     rcases hN hq with h|h
     · left;rw[togK,h];rfl
     ·
      right;intro hd;refine h (fun b hb=>hd b ?_);rw[or_bit,hb];rfl
    |some o=>
     rw[hq] at hn;simp only at hn;rw[if_neg hgne,hgg,Int.toNat_natCast] at hn;obtain⟨ht,hd,hlen,ho⟩:=hS o hq;split at hn
     ·
      rename_i hc
      cases hTg:T.testBit g with
      |true=>
       right;intro hd2;have:=hd2 g (by rw[or_bit];simp);rw[hTg] at this;cases this
      |false=>
       left
       have hown:own.getD g 0=0:=by
        apply Classical.byContradiction;intro hne;rw[(hT g (by omega)).1 hne] at hTg;cases hTg
       cases hGg:G.testBit g with
       |false=>
        exfalso;have:=ho g (by omega);rw[hGg,hown] at this;exact hc.1 (by simpa using this)
       |true=>
        have hk0:k≠0:=by
         intro hk;rw[hz hk] at hGg;simp at hGg
        have hog:=ho g (by omega);rw[hGg,if_pos rfl] at hog
        have hp:(ds.getD (k-1) zD).2.2.2≠(g:Int):=by
         rcases hc.2 with h|h|h
         · exact absurd hog h
         · exact absurd h hk0
         · exact h
        have:partK ds k=true:=by
         rw[partK,inS,hGg,hg]
         have hp':((g:Int) != grD (ds.getD (k-1) zD))=true:=by
          rw[bne_iff_ne];exact fun e=>hp e.symm
         rw[hp'];simp;omega
        rw[togK,this];simp
     · cases hn
   ·
    intro o' hn;rw[grpK] at hn
    cases hq:grpK i own ds k with
    |none=>rw[hq] at hn;cases hn
    |some o=>
     rw[hq] at hn;simp only at hn;rw[if_neg hgne,hgg,Int.toNat_natCast] at hn;obtain⟨ht,hd,hlen,ho⟩:=hS o hq;split at hn
     · cases hn
     ·
      rename_i hc;simp only[Option.some.injEq] at hn;subst hn;have hog:=ho g (by omega)
      have hTg:T.testBit g=false:=by
       cases hTg:T.testBit g with
       |false=>rfl
       |true=>
        exfalso
        have hGg:G.testBit g=false:=by
         cases hGg:G.testBit g with
         |false=>rfl
         |true=>rw[hd g hGg] at hTg;cases hTg
        rw[hGg] at hog;simp only[Bool.false_eq_true,if_false] at hog;exact hc ⟨by rw[hog];exact (hT g (by omega)).2 hTg,.inl (by rw[hog];exact hi g (by omega))⟩
      refine⟨?_,?_,by rw[List.length_set];exact hlen,?_⟩
      ·
       have:partK ds k=false:=by
        cases hp:partK ds k with
        |false=>rfl
        |true=>
         exfalso;rw[partK,inS,hg,Bool.and_eq_true,Bool.and_eq_true,decide_eq_true_eq,bne_iff_ne] at hp;obtain⟨⟨hk,hne⟩,hGg⟩:=hp;rw[hGg,if_pos rfl] at hog;exact hc ⟨by rw[hog];omega,.inr (.inr (fun e=>hne e.symm))⟩
       rw[togK,ht,this];rfl
      ·
       intro b hb;rw[or_bit,Bool.or_eq_true,decide_eq_true_eq] at hb;rcases hb with hb|rfl
       · exact hd b hb
       · exact hTg
      ·
       intro j hj;rw[set_getD o g _ j (by omega),or_bit];by_cases e:g=j
       · subst e;simp
       · rw[if_neg e,ho j hj];simp[e]
theorem work_same {dss:List (List Dd)}:∀n:Nat,(∀i,i<n→okL (dss.getD i [])=true)→∃T:Nat,T<4096∧takW dss n=(T:Int)∧T.testBit 0=false ∧
   (grpW dss n=none→rightsW dss n=false) ∧
   ∀o,grpW dss n=some o→rightsW dss n=true∧o.length=10∧(∀g,g<10→(o.getD g 0≠0↔T.testBit g=true))∧∀g,g<10→0≤o.getD g 0∧o.getD g 0≤(n:Int)
 | 0,_=>⟨0,by omega,rfl,by simp,by simp[grpW],by
   intro o ho;simp only[grpW,Option.some.injEq] at ho;subst ho;refine⟨rfl,by simp,fun g hg=>?_,fun g hg=>?_⟩
   · rw[List.getD_eq_getElem?_getD,List.getElem?_replicate,if_pos hg];simp
   · rw[List.getD_eq_getElem?_getD,List.getElem?_replicate,if_pos hg];simp⟩
 |n+1,hok=>by
  obtain⟨T,hT,htk,hT0,hN,hS⟩:=work_same n (fun i hi=>hok i (by omega));have okn:=hok n (by omega);simp only[okL,Bool.and_eq_true,decide_eq_true_eq] at okn;have hall:=okn.1;have hok2:∀j,j<(dss.getD n []).length→okD ((dss.getD n []).getD j zD)=true:=fun j hj=>all_get zD hall j hj
  obtain⟨G0,hG0,hgK0,hG00,-⟩:=clerk_same (i:=0) (own:=List.replicate 10 0) (T:=0) (ds:=dss.getD n []) (by simp) (fun g hg=>by rw[List.getD_eq_getElem?_getD,List.getElem?_replicate,if_pos hg];simp) (fun g hg=>by rw[List.getD_eq_getElem?_getD,List.getElem?_replicate,if_pos hg];simp) (by simp) (dss.getD n []).length hok2
  have hor:takW dss (n+1)=((T ||| G0:Nat):Int):=by
   rw[takW,htk,gC,hgK0,i64_or_nat T G0 (by omega) (by omega)]
  have hand:bits .and .i64 (gC (dss.getD n [])) (takW dss n)=((G0 &&& T:Nat):Int):=by
   rw[gC,hgK0,htk,i64_and_nat G0 T (by omega) (by omega)]
  have hR:rightB (dss.getD n []) (takW dss n)=(togK (dss.getD n []) (dss.getD n []).length&&decide (G0 &&& T=0)):=by
   rw[rightB,hall,decide_eq_true okn.2,hand];simp only[Bool.true_and]
   congr 1
   rw[Bool.eq_iff_iff,beq_iff_eq,decide_eq_true_eq];omega
  refine⟨T ||| G0,Nat.or_lt_two_pow (n:=12) hT hG0,hor,by rw[Nat.testBit_or,hT0,hG00];rfl,?_,?_⟩
  ·
   intro hn;rw[grpW] at hn
   cases hq:grpW dss n with
   |none=>rw[rightsW,hN hq];rfl
   |some o=>
    rw[hq] at hn;simp only at hn;obtain⟨hr,hl,hb,hle⟩:=hS o hq;obtain⟨G,hG,hgK,-,-,hN2,-⟩:=clerk_same (i:=n) (own:=o) (T:=T) (ds:=dss.getD n []) hl hb (fun g hg=>by have:=hle g hg;omega) hT0 (dss.getD n []).length hok2;obtain rfl:G=G0:=by rw[hgK0] at hgK;omega
    rw[rightsW,hr,hR];rcases hN2 hn with h|h
    · rw[h];rfl
    · rw[decide_eq_false (fun e=>h ((dis_iff _ _).2 e))];simp
  ·
   intro o' hn;rw[grpW] at hn
   cases hq:grpW dss n with
   |none=>rw[hq] at hn;cases hn
   |some o=>
    rw[hq] at hn;simp only at hn;obtain⟨hr,hl,hb,hle⟩:=hS o hq;obtain⟨G,hG,hgK,-,-,-,hS2⟩:=clerk_same (i:=n) (own:=o) (T:=T) (ds:=dss.getD n []) hl hb (fun g hg=>by have:=hle g hg;omega) hT0 (dss.getD n []).length hok2;obtain rfl:G=G0:=by rw[hgK0] at hgK;omega
    obtain⟨h1,h2,h3,h4⟩:=hS2 o' hn;refine⟨by rw[rightsW,hr,hR,h1,decide_eq_true ((dis_iff _ _).1 h2)];rfl,h3,fun g hg=>?_,fun g hg=>?_⟩
    ·
     rw[h4 g hg,Nat.testBit_or,Bool.or_eq_true];cases hGg:G.testBit g
     · simp only[Bool.false_eq_true,if_false,or_false];exact hb g hg
     · simp only[if_true,or_true,iff_true];omega
    ·
     rw[h4 g hg];have:=hle g hg;split<;>omega
theorem rights_same {dss:List (List Dd)}(h:dss.all okL=true):rightsW dss dss.length=grpB dss:=by
 obtain⟨T,-,-,-,hN,hS⟩:=work_same (dss:=dss) dss.length (fun i hi=>all_get [] h i hi);rw[grpB]
 cases hq:grpW dss dss.length with
 |none=>rw[hN hq];rfl
 |some o=>rw[(hS o hq).1];rfl
theorem rights_okL {dss:List (List Dd)}(h:rightsW dss dss.length=true):dss.all okL=true:=by
 refine all_of [] (fun i hi=>?_)
 cases hb:rightsW dss (i+1) with
 |false=>rw[rightsW_false hb _ hi] at h;cases h
 |true=>
  rw[rightsW,Bool.and_eq_true] at hb;have:=hb.2;simp only[rightB,Bool.and_eq_true] at this;rw[okL,this.1.1.2,Bool.true_and];exact this.1.1.1
theorem work_rights (dss:List (List Dd)):workB dss=(decide (1≤dss.length∧dss.length≤3)&&rightsW dss dss.length&&decide (lenW dss≤12)&&decide (evW dss dss.length≤6)):=by
 rw[workB]
 cases h:dss.all okL with
 |true=>
  rw[rights_same h];cases grpB dss<;>simp
 |false=>
  cases hr:rightsW dss dss.length with
  |false=>simp
  |true=>rw[rights_okL hr] at h;cases h
section
section
variable {P:Program} {md:Region.Mode} {ops:Array Oper} {Q:Exit→Act→World→Prop} {S:World→Prop}
theorem takeH (i d:Nat){oi:Oper}{v:Value}{fuel:Nat}{listed:Array Bool}{a:Act}{w:World}(hi:ops[i]? = some oi)(hd:oi.dst=some d)
  (hs:Region.noSelect ops=true) (hf:Region.free md ops listed i=true) (hr:(Region.ready md ops listed).contains i=true)
  (hQ:∀c a w,Q (.panic c) (a.put (some d) v) w→Q (.panic c) a w) (hw:Region.wanted oi (yielded ops a.tmps)=true) (hy:∀w,S w→(execOp a.eval oi).run P w = .ok (.value v) w) (hS:S w)
  (h:wpAnyH P md ops Q S fuel (listed.setIfInBounds i true) (a.put (some d) v) w):wpAnyH P md ops Q S (fuel+1) listed a w:=by
 rw[←hd] at hQ h;exact wpAnyH_take hi hs hf hr hQ (Or.inl ⟨hw,hy⟩) hS h
theorem takeQ (i d:Nat){oi:Oper}{v:Value}{fuel:Nat}{listed:Array Bool}{a:Act}{w:World}
  (hy:∀w,S w→(execOp a.eval oi).run P w = .ok (.value v) w) (h:wpAnyH P md ops Q S fuel (listed.setIfInBounds i true) (a.put (some d) v) w)
  (hi:ops[i]? = some oi:=by rfl) (hd:oi.dst=some d:=by rfl)
  (hs:Region.noSelect ops=true:=by kernel_rfl) (hf:Region.free md ops listed i=true:=by kernel_rfl) (hr:(Region.ready md ops listed).contains i=true:=by kernel_rfl)
  (hQ:∀c a w,Q (.panic c) (a.put (some d) v) w→Q (.panic c) a w:=by exact fun _ _ _ h=>h) (hw:Region.wanted oi (yielded ops a.tmps)=true:=by rfl) (hS:S w:=by assumption):wpAnyH P md ops Q S (fuel+1) listed a w:=
 takeH i d hi hd hs hf hr hQ hw hy hS h
theorem skipH (i d:Nat){oi:Oper}{fuel:Nat}{listed:Array Bool}{a:Act}{w:World}(hi:ops[i]? = some oi)(hd:oi.dst=some d)
  (hs:Region.noSelect ops=true) (hf:Region.free md ops listed i=true) (hr:(Region.ready md ops listed).contains i=true)
  (hQ:∀c a w,Q (.panic c) (a.put (some d) undef) w→Q (.panic c) a w) (hw:Region.wanted oi (yielded ops a.tmps)=false) (hS:S w)
  (h:wpAnyH P md ops Q S fuel (listed.setIfInBounds i true) (a.put (some d) undef) w):wpAnyH P md ops Q S (fuel+1) listed a w:=by
 rw[←hd] at hQ h;exact wpAnyH_take hi hs hf hr hQ (Or.inr ⟨hw,rfl⟩) hS h
end
end
structure LP (w0 wr:World)(x:Value)(es:List Ev)(P:List (Nat×Obj)):Prop where
 app:AppE wr w0.heap.size x es
 keep:Keep w0 wr
 held:∀n o,(n,o)∈P→x.ownBlock≠some n∧wr.heap[n]? = some o
theorem LP.more {w0 wr wr':World}{x:Value}{es:List Ev}{P:List (Nat×Obj)}(h:LP w0 wr x es P)(k:Keep wr wr'):LP w0 wr' x es P:=
 ⟨h.app.keep k,h.keep.trans k,fun n o hn=>⟨(h.held n o hn).1,(Below.block k n (Array.getElem?_eq_some_iff.1 (h.held n o hn).2).1).trans (h.held n o hn).2⟩⟩
theorem LP.add {w0 wr:World}{x:Value}{es:List Ev}{P:List (Nat×Obj)}(h:LP w0 wr x es P)(n:Nat)(o:Obj)(hx:x.ownBlock≠some n)(ho:wr.heap[n]? = some o):LP w0 wr x es ((n,o)::P):=
 ⟨h.app,h.keep,fun m q hm=>by
  rcases List.mem_cons.1 hm with e|e
  · injection e with e1 e2;subst e1 e2;exact⟨hx,ho⟩
  · exact h.held m q e⟩
theorem LP.new {w0 wr:World}{x:Value}{es:List Ev}{P:List (Nat×Obj)}(h:LP w0 wr x es P)(o:Obj):LP w0 (wr.alloc o) x es ((wr.heap.size,o)::P):=
 (h.more ((Keep.refl wr).alloc o)).add _ _ (fun e=>by have:=(h.app.lt _ e).2;omega) (heap_alloc_new wr o)
theorem LP.later {w0 wr wr':World}{x:Value}{es:List Ev}{P:List (Nat×Obj)}(h:LP w0 wr x es P)(k:Keep wr wr'){B:Nat}{o:Obj}(hB:wr.heap.size≤B)(ho:wr'.heap[B]? = some o):LP w0 wr' x es ((B,o)::P):=
 (h.more k).add _ _ (fun e=>by have:=(h.app.lt _ e).2;omega) ho
theorem LP.less {w0 wr:World}{x:Value}{es:List Ev}{P Q:List (Nat×Obj)}(h:LP w0 wr x es P)(hs:∀y,y∈Q→y∈P):LP w0 wr x es Q:=
 ⟨h.app,h.keep,fun n o hn=>h.held n o (hs _ hn)⟩
theorem LP.hit {w0 wr w':World}{x v':Value}{es:List Ev}{P:List (Nat×Obj)}(h:LP w0 wr x es P)(e:Ev)
  (ho:w'.ownsRow w0.heap.size 85 6 v' (es.length+1) (es.flatMap cE++cE e)) (hg:wr.grownBy w' x.ownBlock) (hb:v'.ownBlock=x.ownBlock∨v'.ownBlock=some wr.heap.size):LP w0 w' v' (es++[e]) P:=by
 refine⟨appT_hit ho,h.keep.grown hg h.app.ge,fun n o hn=>?_⟩;obtain⟨h1,h2⟩:=h.held n o hn;have hlt:=(Array.getElem?_eq_some_iff.1 h2).1;refine⟨fun e=>?_,(hg.block n hlt (fun e=>h1 e.symm)).trans h2⟩;rcases hb with hb|hb
 · exact h1 (hb ▸ e)
 · rw[hb] at e;have:=Option.some.inj e;omega
theorem LP.lt {w0 wr:World}{x:Value}{es:List Ev}{P:List (Nat×Obj)}(h:LP w0 wr x es P){n:Nat}{o:Obj}(hn:(n,o)∈P):n<wr.heap.size:=(Array.getElem?_eq_some_iff.1 (h.held n o hn).2).1
theorem LP.cell {w0 wr:World}{x:Value}{es:List Ev}{P:List (Nat×Obj)}(h:LP w0 wr x es P){n:Nat}{cs:Array Value}{t:TypeId}(hn:(n,.cells cs t)∈P)(i:Nat):wr.cell? ⟨n,i,none⟩=cs[i]?:=
 cell_of_row wr n i cs t (0,0) (h.held n _ hn).2
theorem app_base {w:World}{base base':Nat}{v:Value}{es:List Ev}(h:AppE w base v es)(hb:base'≤base):AppE w base' v es:=by
 refine⟨h.1,?_⟩;rcases h.2 with h|⟨g,cap,cur,hv,hg,rest⟩
 · exact .inl h
 · exact .inr ⟨g,cap,cur,hv,Nat.le_trans hb hg,rest⟩
abbrev eO (i k:Int)(r:Bool)(p v c:Int):Obj:= .cells #[.int .i64 i,.int .i64 k,.bool r,.int .i64 p,.int .i64 v,.int .i64 c] 85
theorem cE_oneP (e:Ev):∀u∈cE e,u.oneCell'=true:=by
 intro u hu;simp only[cE,List.mem_cons,List.not_mem_nil,or_false] at hu;rcases hu with rfl|rfl|rfl|rfl|rfl|rfl<;>rfl
theorem cE_newP (w:World)(n:Nat)(hn:w.heap.size=n)(i q:Int)(r:Bool)(pl vl c:Int):∀j u,(cE (i,q,r,pl,vl,c))[j]? = some u→(w.alloc (eO i q r pl vl c)).cell? ((⟨n,0,none⟩:Addr).add j)=some u:=by
 subst hn;intro j u hj
 match j,hj with
 | 0,hj=>simp[cE] at hj;subst hj;simp[Addr.add]
 | 1,hj=>simp[cE] at hj;subst hj;simp[Addr.add]
 | 2,hj=>simp[cE] at hj;subst hj;simp[Addr.add]
 | 3,hj=>simp[cE] at hj;subst hj;simp[Addr.add]
 | 4,hj=>simp[cE] at hj;subst hj;simp[Addr.add]
 | 5,hj=>simp[cE] at hj;subst hj;simp[Addr.add]
def goB (ds:List Dd)(k:Nat):Bool:=decide (0<k)&&((ds.getD k zD).2.2.2 != 0)&&((ds.getD k zD).2.2.2==(ds.getD (k-1) zD).2.2.2)
def lastC (out:List Ev):Int:=csE (out.getD (out.length-1) zE)
def ncE (out:List Ev)(go:Bool):Int:=if go=true then lastC out else (out.length:Int)
def clkP (i:Nat)(ds:List Dd)(out:List Ev):Nat→List Ev
 | 0=>out
 |k+1=>clkP i ds out k++oneE i k (ds.getD k zD) (ncE (clkP i ds out k) (goB ds k))
def evsP (dss:List (List Dd)):Nat→List Ev
 | 0=>evBeg
 |i+1=>clkP i (dss.getD i []) (evsP dss i) (dss.getD i []).length
def Tog (ds:List Dd):Prop:=∀k j,k<ds.length→j<k→(ds.getD k zD).2.2.2≠0→(ds.getD j zD).2.2.2=(ds.getD k zD).2.2.2→(ds.getD (k-1) zD).2.2.2=(ds.getD k zD).2.2.2
theorem grpK_own {i:Nat}{own:List Int}{ds:List Dd}(hl:own.length=10):∀(k:Nat) (o:List Int),grpK i own ds k=some o→(∀j,j<k→okD (ds.getD j zD)=true) →
  ∀j,j<k→(ds.getD j zD).2.2.2≠0→o.getD (ds.getD j zD).2.2.2.toNat 0=(i:Int)+1
 | 0,o,h,_,j,hj,_=>by omega
 |k+1,o',h,hok,j,hj,h0=>by
  rw[grpK] at h
  cases hq:grpK i own ds k with
  |none=>rw[hq] at h;cases h
  |some o=>
   rw[hq] at h;have ih:=grpK_own hl k o hq (fun j hj=>hok j (by omega));have hol:=grpK_len hq;simp only at h;have okj:=okD_restE (hok j hj);split at h
   ·
    rename_i hz;simp only[Option.some.injEq] at h;subst h;by_cases e:j=k
    · subst e;exact absurd hz h0
    · exact ih j (by omega) h0
   ·
    rename_i hz;split at h
    · cases h
    ·
     simp only[Option.some.injEq] at h;subst h;have okk:=okD_restE (hok k (by omega));rw[getD_setE o _ _ _ (by omega)];by_cases e:(ds.getD k zD).2.2.2.toNat=(ds.getD j zD).2.2.2.toNat
     · rw[if_pos e]
     ·
      rw[if_neg e];by_cases e2:j=k
      · subst e2;exact absurd rfl e
      · exact ih j (by omega) h0
theorem grpK_tog {i:Nat}{own:List Int}{ds:List Dd}(hl:own.length=10){o:List Int}(h:grpK i own ds ds.length=some o)(hok:∀j,j<ds.length→okD (ds.getD j zD)=true):Tog ds:=by
 intro k j hk hj h0 he
 have step:∃o',grpK i own ds (k+1)=some o':=by
  cases hq:grpK i own ds (k+1) with
  |none=>rw[grpK_none hq ds.length (by omega)] at h;cases h
  |some o'=>exact⟨o',rfl⟩
 obtain⟨o',ho'⟩:=step;rw[grpK] at ho'
 cases hq:grpK i own ds k with
 |none=>rw[hq] at ho';cases ho'
 |some o1=>
  rw[hq] at ho';have hown:=grpK_own hl k o1 hq (fun j hj=>hok j (by omega)) j hj (by rw[he];exact h0);rw[he] at hown;simp only at ho';rw[if_neg h0] at ho';split at ho'
  · cases ho'
  ·
   rename_i hn;apply Classical.byContradiction;intro hc;exact hn ⟨by rw[hown];omega,.inr (.inr hc)⟩
theorem work_tog {dss:List (List Dd)}(hb:workB dss=true):∀i,i<dss.length→Tog (dss.getD i []):=by
 intro i hi;simp only[workB,Bool.and_eq_true,decide_eq_true_eq] at hb;obtain⟨⟨⟨⟨_,h2⟩,_⟩,_⟩,hg⟩:=hb;have hok:=all_get [] h2 i hi;simp only[okL,Bool.and_eq_true,decide_eq_true_eq] at hok
 have hs:∀n,n≤dss.length→∃o,grpW dss n=some o:=by
  intro n hn
  cases hq:grpW dss n with
  |none=>rw[grpB,grpW_none hq dss.length hn] at hg;cases hg
  |some o=>exact⟨o,rfl⟩
 obtain⟨o,ho⟩:=hs i (by omega);obtain⟨o',ho'⟩:=hs (i+1) (by omega);rw[grpW,ho] at ho';exact grpK_tog (grpW_len ho) ho' (fun j hj=>all_get zD hok.1 j hj)
theorem last_snoc (out t:List Ev)(e:Ev):lastC (out++(t++[e]))=csE e:=by
 unfold lastC;rw[←List.append_assoc,List.length_append,List.getD_eq_getElem?_getD];simp
theorem clkP_same {i:Nat}{ds:List Dd}{out:List Ev}(ht:Tog ds)(hok:∀j,j<ds.length→okD (ds.getD j zD)=true)(ho:1≤out.length):
  ∀k:Nat,k≤ds.length→clkP i ds out k=(clkE i ds out k).1∧(clkE i ds out k).2.length=10∧1≤(clkE i ds out k).1.length ∧
   (∀g:Nat,0<g→g<10→(∀j,j<k→(ds.getD j zD).2.2.2≠(g:Int))→(clkE i ds out k).2.getD g 0=0) ∧
   (∀j,j<k→(ds.getD j zD).2.2.2≠0→(clkE i ds out k).2.getD (ds.getD j zD).2.2.2.toNat 0≠0) ∧
   (0<k→(ds.getD (k-1) zD).2.2.2≠0→(clkE i ds out k).2.getD (ds.getD (k-1) zD).2.2.2.toNat 0=lastC (clkE i ds out k).1)
 | 0,_=>⟨rfl,by simp[clkE],ho,fun g _ hg _=>by simp only[clkE];rw[List.getD_eq_getElem?_getD,List.getElem?_replicate,if_pos hg];rfl,fun j hj=>by omega,fun h=>by omega⟩
 |k+1,hk=>by
  obtain⟨h1,h2,h3,h4,h5,h6⟩:=clkP_same ht hok ho k (by omega);have hd:=hok k (by omega);obtain⟨r0,r1,r2,r3,r4⟩:=okD_restE hd;have hkd:=okD_kindE hd;rw[clkP,clkE,h1,Nat.add_sub_cancel];generalize hS:clkE i ds out k=S at h2 h3 h4 h5 h6;obtain⟨L,f⟩:=S;simp only at h2 h3 h4 h5 h6;generalize hdd:ds.getD k zD=d at hd r0 r1 r2 r3 r4 hkd;have hg:goB ds k=(decide (0<k)&&(d.2.2.2 != 0)&&(d.2.2.2==(ds.getD (k-1) zD).2.2.2)):=by rw[goB,hdd]
  have old5:∀j,j<k→(ds.getD j zD).2.2.2≠0→(ds.getD j zD).2.2.2.toNat<10:=fun j hj _=>by
   have:=okD_restE (hok j (by omega));omega
  by_cases h4k:d.1=4
  ·
   have g0:d.2.2.2=0:=r4 (by omega);have e1:oneE i k d (ncE L (goB ds k))=[]:=by unfold oneE;rw[if_pos h4k]
   rw[stepE,if_pos h4k,e1,List.append_nil];refine⟨rfl,h2,h3,fun g hg0 hg10 hn=>h4 g hg0 hg10 (fun j hj=>hn j (by omega)),fun j hj hne=>?_,fun _ hne=>absurd g0 hne⟩;by_cases e:j=k
   · subst e;rw[hdd] at hne;exact absurd g0 hne
   · exact h5 j (by omega) hne
  ·
   rw[stepE,if_neg h4k];by_cases g0:d.2.2.2=0
   ·
    have e1:ncE L (goB ds k)=clsE d.2.2.2 L.length f:=by
     rw[hg,g0];simp[ncE,clsE]
    have e2:fstE d.2.2.2 L.length f=f:=by unfold fstE;rw[if_neg (by rw[g0];omega)]
    rw[e1];simp only;rw[e2];refine⟨by trivial,h2,by rw[List.length_append];omega,fun g hg0 hg10 hn=>h4 g hg0 hg10 (fun j hj=>hn j (by omega)),fun j hj hne=>?_,fun _ hne=>absurd g0 hne⟩;by_cases e:j=k
    · subst e;rw[hdd] at hne;exact absurd g0 hne
    · exact h5 j (by omega) hne
   ·
    have gp:(0:Int)<d.2.2.2:=by omega
    have k2:d.1=1∨d.1=2:=by
     apply Classical.byContradiction;intro hn;exact g0 (r4 (by omega))
    have one:∀c,∃e,oneE i k d c=[e]∧csE e=c:=by
     intro c;unfold oneE;rcases k2 with e|e
     · exact⟨_,by rw[if_neg h4k,if_neg (by omega),if_neg (by omega)],rfl⟩
     · exact⟨_,by rw[if_neg h4k,if_neg (by omega),if_pos e],rfl⟩
    have fin:∀c,lastC (L++oneE i k d c)=c:=fun c=>by
     obtain⟨e,he,hc⟩:=one c;rw[he,←hc];exact last_snoc L [] e
    by_cases hgo:0<k∧(ds.getD (k-1) zD).2.2.2=d.2.2.2
    ·
     obtain⟨k0,hgo⟩:=hgo;have e0:goB ds k=true:=by rw[hg,hgo];simp[k0,g0]
     have f0:f.getD d.2.2.2.toNat 0≠0:=by have:=h5 (k-1) (by omega) (by rw[hgo];exact g0);rw[hgo] at this;exact this
     have f1:f.getD d.2.2.2.toNat 0=lastC L:=by have:=h6 k0 (by rw[hgo];exact g0);rw[hgo] at this;exact this
     have e2:fstE d.2.2.2 L.length f=f:=by unfold fstE;rw[if_neg (fun h=>f0 h.2)]
     have e1:ncE L (goB ds k)=clsE d.2.2.2 L.length f:=by
      rw[e0];unfold ncE clsE;rw[if_pos rfl,if_pos gp,e2,f1]
     have e3:clsE d.2.2.2 L.length f=f.getD d.2.2.2.toNat 0:=by unfold clsE;rw[if_pos gp,e2]
     rw[e1];simp only;rw[e2];refine⟨by trivial,h2,by rw[List.length_append];omega,fun g hg0 hg10 hn=>h4 g hg0 hg10 (fun j hj=>hn j (by omega)),fun j hj hne=>?_,fun _ _=>?_⟩
     ·
      by_cases e:j=k
      · subst e;rw[hdd];exact f0
      · exact h5 j (by omega) hne
     · rw[fin,e3]
    ·
     have none:∀j,j<k→(ds.getD j zD).2.2.2≠d.2.2.2:=by
      intro j hj he;refine hgo ⟨by omega,?_⟩;have:=ht k j (by omega) hj (by rw[hdd];exact g0) (by rw[hdd];exact he);rw[hdd] at this;exact this
     obtain⟨g,hgg⟩:=Int.eq_ofNat_of_zero_le r2;have g10:g<10:=by omega
     have f0:f.getD d.2.2.2.toNat 0=0:=by
      rw[hgg,Int.toNat_natCast];exact h4 g (by omega) g10 (fun j hj=>by rw[←hgg];exact none j hj)
     have e0:goB ds k=false:=by
      rw[hg];by_cases k0:0<k
      ·
       have:¬(d.2.2.2=(ds.getD (k-1) zD).2.2.2):=fun e=>hgo ⟨k0,e.symm⟩
       have e:(d.2.2.2==(ds.getD (k-1) zD).2.2.2)=false:=by simpa using this
       rw[e,Bool.and_false]
      · simp[k0]
     have e2:fstE d.2.2.2 L.length f=f.set d.2.2.2.toNat (L.length:Int):=by unfold fstE;rw[if_pos ⟨gp,f0⟩]
     have e3:clsE d.2.2.2 L.length f=(L.length:Int):=by
      unfold clsE;rw[if_pos gp,e2,getD_setE f _ _ _ (by omega),if_pos rfl]
     have e1:ncE L (goB ds k)=clsE d.2.2.2 L.length f:=by rw[e0,e3];simp[ncE]
     rw[e1];simp only;rw[e2];refine⟨by trivial,by rw[List.length_set];exact h2,by rw[List.length_append];omega,fun q hq0 hq10 hn=>?_,fun j hj hne=>?_,fun _ _=>?_⟩
     ·
      have hqk:=hn k (by omega);rw[hdd] at hqk;rw[getD_setE f _ _ _ (by omega),if_neg (by omega)];exact h4 q hq0 hq10 (fun j hj=>hn j (by omega))
     ·
      by_cases e:j=k
      ·
       subst e;rw[hdd,getD_setE f _ _ _ (by omega),if_pos rfl];omega
      ·
       have nj:=none j (by omega);have okj:=okD_restE (hok j (by omega));rw[getD_setE f _ _ _ (by omega),if_neg (by omega)];exact h5 j (by omega) hne
     · rw[fin,e3,getD_setE f _ _ _ (by omega),if_pos rfl]
theorem evsP_same {dss:List (List Dd)}(hb:workB dss=true):∀n:Nat,n≤dss.length→evsP dss n=evsW dss n∧1≤(evsW dss n).length
 | 0,_=>⟨rfl,by simp[evsW,evBeg]⟩
 |n+1,h=>by
  obtain⟨h1,h2⟩:=evsP_same hb n (by omega);have ht:=work_tog hb n (by omega);simp only[workB,Bool.and_eq_true,decide_eq_true_eq] at hb;obtain⟨⟨⟨⟨_,ha⟩,_⟩,_⟩,_⟩:=hb;have hok:=all_get [] ha n (by omega);simp only[okL,Bool.and_eq_true,decide_eq_true_eq] at hok;obtain⟨q1,_,q3,_⟩:=clkP_same (i:=n) ht (fun j hj=>all_get zD hok.1 j hj) h2 (dss.getD n []).length (Nat.le_refl _);rw[evsP,evsW,h1,q1];exact⟨rfl,q3⟩
def fac:Nat→Int
 | 0=>1
 |n+1=>fac n*((n:Int)+1)
theorem fac_pos:∀n:Nat,0<fac n
 | 0=>by decide
 |n+1=>Int.mul_pos (fac_pos n) (by omega)
theorem fac_top {n:Nat}(h:n≤12):fac n≤479001600:=by
 have:∀j:Nat,j≤12→fac j≤479001600:=by decide +kernel
 exact this n h
def ordL:Nat→List Int→Int→List Int
 | 0,_,_=>[]
 |m+1,l,n=>l.getD (n / fac m).toNat 0::ordL m (l.eraseIdx (n / fac m).toNat) (n % fac m)
theorem ordL_len:∀(m:Nat) (l:List Int) (n:Int),(ordL m l n).length=m
 | 0,_,_=>rfl
 |m+1,l,n=>by rw[ordL,List.length_cons,ordL_len m]
theorem ord_next {m:Nat}{n:Int}(h0:0≤n)(h1:n<fac (m+1)):0≤n / fac m∧n / fac m<(m:Int)+1∧0≤n % fac m∧n % fac m<fac m:=by
 have hp:=fac_pos m;refine⟨Int.ediv_nonneg h0 (by omega),?_,Int.emod_nonneg _ (by omega),Int.emod_lt_of_pos _ hp⟩;refine Int.ediv_lt_of_lt_mul hp ?_;rw[fac,Int.mul_comm] at h1;exact h1
theorem erase_len {l:List Int}{k m:Nat}(hl:l.length=m+1)(hk:k<m+1):(l.eraseIdx k).length=m:=by
 rw[List.length_eraseIdx,if_pos (by omega)];omega
theorem erase_perm:∀ {l:List Int} {k:Nat},k<l.length→(l.getD k 0::l.eraseIdx k).Perm l
 | [],k,h=>by simp at h
 |x::r,0,_=>by simp
 |x::r,k+1,h=>by
  have ih:=erase_perm (l:=r) (k:=k) (by simpa using h);rw[List.eraseIdx_cons_succ,List.getD_cons_succ];exact (List.Perm.swap x _ _).trans (List.Perm.cons x ih)
theorem ord_perm:∀ {m:Nat} {l:List Int} {n:Int},l.length=m→0≤n→n<fac m→(ordL m l n).Perm l
 | 0,l,n,hl,_,_=>by
  have:l=[]:=List.eq_nil_of_length_eq_zero hl;subst this;exact List.Perm.refl _
 |m+1,l,n,hl,h0,h1=>by
  obtain⟨k0,k1,n0,n1⟩:=ord_next h0 h1;have hk:(n / fac m).toNat<m+1:=by omega
  rw[ordL];exact (List.Perm.cons _ (ord_perm (erase_len hl hk) n0 n1)).trans (erase_perm (by omega))
theorem nodup_get {l:List Int}(hn:l.Nodup){p q:Nat}(hp:p<l.length)(hq:q<l.length)(e:l.getD p 0=l.getD q 0):p=q:=by
 rw[List.getD_eq_getElem?_getD,List.getElem?_eq_getElem hp,List.getD_eq_getElem?_getD,List.getElem?_eq_getElem hq] at e;exact (List.getElem_inj hn).1 e
theorem erase_nodup {l:List Int}(hn:l.Nodup)(k:Nat):(l.eraseIdx k).Nodup:=hn.sublist (List.eraseIdx_sublist l k)
theorem ord_inj:∀ {m:Nat} {l:List Int} {n n':Int},l.length=m→l.Nodup→0≤n→n<fac m→0≤n'→n'<fac m→ordL m l n=ordL m l n'→n=n'
 | 0,l,n,n',_,_,h0,h1,g0,g1,_=>by simp only[fac] at h1 g1;omega
 |m+1,l,n,n',hl,hn,h0,h1,g0,g1,e=>by
  obtain⟨k0,k1,n0,n1⟩:=ord_next h0 h1;obtain⟨j0,j1,m0,m1⟩:=ord_next g0 g1;rw[ordL,ordL,List.cons.injEq] at e;have ek:=nodup_get hn (p:=(n / fac m).toNat) (q:=(n' / fac m).toNat) (by omega) (by omega) e.1;have e2:=e.2;rw[←ek] at e2;have ih:=ord_inj (erase_len hl (by omega)) (erase_nodup hn _) n0 n1 m0 m1 e2;have q:n / fac m=n' / fac m:=by omega
  have a:=Int.mul_ediv_add_emod n (fac m);have b:=Int.mul_ediv_add_emod n' (fac m);rw[q,ih] at a;omega
def partL (l:List Int)(n:Int):List Int:=l.getD 0 0::ordL (l.length-1) (l.drop 1) n
theorem part_len {l:List Int}(h:0<l.length)(n:Int):(partL l n).length=l.length:=by rw[partL,List.length_cons,ordL_len];omega
theorem part_perm {l:List Int}{n:Int}(h:0<l.length)(h0:0≤n)(h1:n<fac (l.length-1)):(partL l n).Perm l:=by
 match l,h with
 |x::r,_=>
  rw[partL];simp only[List.length_cons,Nat.add_sub_cancel,List.drop_succ_cons,List.drop_zero,List.getD_cons_zero] at h1 ⊢;exact List.Perm.cons x (ord_perm rfl h0 h1)
theorem part_inj {l:List Int}{n n':Int}(hn:l.Nodup)(h0:0≤n)(h1:n<fac (l.length-1))(g0:0≤n')(g1:n'<fac (l.length-1))(e:partL l n=partL l n'):n=n':=by
 rw[partL,partL,List.cons.injEq] at e;refine ord_inj ?_ (hn.sublist (List.drop_sublist 1 l)) h0 h1 g0 g1 e.2;rw[List.length_drop]
def plcW (es:List Ev)(p:Nat):List Int:=idxB (toE (p:Int)) es
def rcntL (es:List Ev):Int:=fac ((plcW es 0).length-1)*fac ((plcW es 1).length-1)*fac ((plcW es 2).length-1)
def ratL (es:List Ev)(n:Int):List Int:=
 partL (plcW es 0) (n / fac ((plcW es 2).length-1) / fac ((plcW es 1).length-1) % fac ((plcW es 0).length-1))++partL (plcW es 1) (n / fac ((plcW es 2).length-1) % fac ((plcW es 1).length-1))++partL (plcW es 2) (n % fac ((plcW es 2).length-1))
def okP (rows:List Int)(at0:Nat)(p:List Int)(i:Nat):Bool:=decide (at0+p.length≤rows.length)&&(rows.getD at0 0==(i:Int))&&p.all (fun x=>isB ((rows.drop at0).take p.length) x)
def rowsL (es:List Ev)(rows:List Int):Bool:=
 okP rows 0 (plcW es 0) 0&&okP rows (plcW es 0).length (plcW es 1) 1&&okP rows ((plcW es 0).length+(plcW es 1).length) (plcW es 2) 2&&decide ((plcW es 0).length+(plcW es 1).length+(plcW es 2).length=rows.length)
def rowsB (dss:List (List Dd))(rows:List Int):Bool:=workB dss&&rowsL (eventsB dss) rows
def rcntB (dss:List (List Dd)):Int:=if workB dss=true then rcntL (eventsB dss) else -1
def ratB (dss:List (List Dd))(n:Int):List Int:=if 0≤n∧n<rcntB dss then ratL (eventsB dss) n else []
theorem perm_of:∀ {p b:List Int},p.Nodup→(∀x∈p,x∈b)→b.length≤p.length→p.Perm b
 | [],b,_,_,hl=>by
  have:b=[]:=List.eq_nil_of_length_eq_zero (by simpa using hl);subst this;exact List.Perm.refl _
 |x::t,b,hn,hs,hl=>by
  have hx:=hs x (by simp);rw[List.nodup_cons] at hn;have hb:(b.erase x).length=b.length-1:=List.length_erase_of_mem hx
  have ih:=perm_of (p:=t) (b:=b.erase x) hn.2 (fun y hy=>by
   have h1:=hs y (by simp[hy])
   exact (List.mem_erase_of_ne (fun e=>hn.1 (by rw[←e];exact hy))).2 h1) (by rw[hb];simp only[List.length_cons] at hl;omega)
  exact (List.Perm.cons x ih).trans (List.perm_cons_erase hx).symm
theorem mem_isB {l:List Int}{n:Int}(h:n∈l):isB l n=true:=by
 unfold isB;rw[List.any_eq_true];exact⟨n,h,by simp⟩
theorem okP_perm {rows p:List Int}{at0 i:Nat}(hn:p.Nodup)(h:okP rows at0 p i=true):at0+p.length≤rows.length∧p.Perm ((rows.drop at0).take p.length):=by
 unfold okP at h;simp only[Bool.and_eq_true,decide_eq_true_eq,List.all_eq_true] at h;refine⟨h.1.1,perm_of hn (fun x hx=>isB_mem (h.2 x hx)) ?_⟩;rw[List.length_take];omega
theorem plcW_nodup {es:List Ev}(hx:es.length≤12)(p:Nat):(plcW es p).Nodup:=by
 unfold plcW idxB;rw[if_pos hx];exact (idxK_rises _ _ _).imp (fun h e=>by omega)
theorem plcW_mem {es:List Ev}(hx:es.length≤12){p:Nat}{x:Int}(h:x∈plcW es p):(0≤x∧x<(es.length:Int))∧(es.getD x.toNat zE).2.2.2.1=(p:Int):=by
 unfold plcW idxB at h;rw[if_pos hx] at h;have h1:=idxK_lt _ _ _ _ h;have h2:=idxK_mem _ _ _ _ h;unfold toE at h2;simp only[Bool.and_eq_true,beq_iff_eq] at h2;exact⟨h1,h2.2⟩
theorem plcW_len {es:List Ev}(hx:es.length≤12)(p:Nat):(plcW es p).length≤12:=by
 unfold plcW idxB;rw[if_pos hx];have:=idxK_len (toE (p:Int)) es es.length;omega
def allW (es:List Ev):List Int:=plcW es 0++plcW es 1++plcW es 2
theorem allW_nodup {es:List Ev}(hx:es.length≤12):(allW es).Nodup:=by
 have dis:∀ {p q:Nat},p≠q→∀a∈plcW es p,∀b∈plcW es q,a≠b:=fun {p q} hpq a ha b hb e=>by
  have h1:=(plcW_mem hx ha).2;have h2:=(plcW_mem hx hb).2;rw[e,h2] at h1;omega
 unfold allW;rw[List.nodup_append,List.nodup_append];refine⟨⟨plcW_nodup hx 0,plcW_nodup hx 1,dis (by decide)⟩,plcW_nodup hx 2,fun a ha b hb=>?_⟩;rcases List.mem_append.1 ha with h|h
 · exact dis (p:=0) (q:=2) (by decide) a h b hb
 · exact dis (p:=1) (q:=2) (by decide) a h b hb
theorem rows_perm {es:List Ev}{rows:List Int}(hx:es.length≤12)(h:rowsL es rows=true):(allW es).Perm rows:=by
 unfold rowsL at h;simp only[Bool.and_eq_true,decide_eq_true_eq] at h;obtain⟨⟨⟨h0,h1⟩,h2⟩,hl⟩:=h;obtain⟨l0,p0⟩:=okP_perm (plcW_nodup hx 0) h0;obtain⟨l1,p1⟩:=okP_perm (plcW_nodup hx 1) h1;obtain⟨l2,p2⟩:=okP_perm (plcW_nodup hx 2) h2
 have e:rows=rows.take (plcW es 0).length++(rows.drop (plcW es 0).length).take (plcW es 1).length++(rows.drop ((plcW es 0).length+(plcW es 1).length)).take (plcW es 2).length:=by
  have t2:(rows.drop ((plcW es 0).length+(plcW es 1).length)).take (plcW es 2).length=rows.drop ((plcW es 0).length+(plcW es 1).length):=List.take_of_length_le (by rw[List.length_drop];omega);rw[t2,List.append_assoc,←List.drop_drop,List.take_append_drop,List.take_append_drop]
 rw[List.drop_zero] at p0;unfold allW;rw[e];exact (p0.append p1).append p2
theorem rows_use {es:List Ev}{rows:List Int}(hx:es.length≤12)(h:rowsL es rows=true):rows.Nodup∧rows.length≤36∧∀i,i<rows.length→0≤rows.getD i 0∧rows.getD i 0<(es.length:Int):=by
 have hp:=rows_perm hx h;refine⟨hp.nodup_iff.1 (allW_nodup hx),?_,fun i hi=>?_⟩
 ·
  rw[←hp.length_eq];unfold allW;rw[List.length_append,List.length_append];have:=plcW_len hx 0;have:=plcW_len hx 1;have:=plcW_len hx 2;omega
 ·
  have hm:rows.getD i 0∈rows:=by
   rw[List.getD_eq_getElem?_getD,List.getElem?_eq_getElem hi];exact List.getElem_mem hi
  have hm:=hp.mem_iff.2 hm;unfold allW at hm;rcases List.mem_append.1 hm with hm|hm
  ·
   rcases List.mem_append.1 hm with hm|hm
   · exact (plcW_mem hx hm).1
   · exact (plcW_mem hx hm).1
  · exact (plcW_mem hx hm).1
theorem okP_mk {A P C p:List Int}{i:Nat}(hl:P.length=p.length)(hp:P.Perm p)(h0:0<p.length)(hi:P.getD 0 0=(i:Int)):okP (A++P++C) A.length p i=true:=by
 unfold okP;simp only[Bool.and_eq_true,decide_eq_true_eq,beq_iff_eq,List.all_eq_true];refine⟨⟨by rw[List.length_append,List.length_append];omega,?_⟩,fun x hx=>?_⟩
 ·
  rw[List.append_assoc,List.getD_eq_getElem?_getD,List.getElem?_append_right (Nat.le_refl _),Nat.sub_self,List.getElem?_append_left (by omega),←List.getD_eq_getElem?_getD];exact hi
 ·
  refine mem_isB ?_;rw[List.append_assoc,List.drop_left,←hl,List.take_left];exact hp.mem_iff.2 hx
theorem plcW_first {dss:List (List Dd)}(hb:workB dss=true)(p:Nat)(hp:p<3):0<(plcW (eventsB dss) p).length∧(plcW (eventsB dss) p).getD 0 0=(p:Int):=by
 obtain⟨h12,_,_,hf,_⟩:=events_law hb;obtain⟨r,hr⟩:=hf p hp;unfold plcW idxB;rw[eventsB,if_pos hb,if_pos h12,hr];exact⟨by simp,rfl⟩
theorem eventsB_12 (dss:List (List Dd)):(eventsB dss).length≤12:=by
 unfold eventsB;split
 ·
  rename_i hb;exact (events_law hb).1
 · simp
theorem rat_parts {es:List Ev}{n:Int}(h0:0≤n)(h1:n<rcntL es):
  (0≤n % fac ((plcW es 2).length-1)∧n % fac ((plcW es 2).length-1)<fac ((plcW es 2).length-1)) ∧
  (0≤n / fac ((plcW es 2).length-1) % fac ((plcW es 1).length-1)∧n / fac ((plcW es 2).length-1) % fac ((plcW es 1).length-1)<fac ((plcW es 1).length-1)) ∧
  (0≤n / fac ((plcW es 2).length-1) / fac ((plcW es 1).length-1)∧n / fac ((plcW es 2).length-1) / fac ((plcW es 1).length-1)<fac ((plcW es 0).length-1)):=by
 have f0:=fac_pos ((plcW es 0).length-1);have f1:=fac_pos ((plcW es 1).length-1);have f2:=fac_pos ((plcW es 2).length-1);unfold rcntL at h1;refine⟨⟨Int.emod_nonneg _ (by omega),Int.emod_lt_of_pos _ f2⟩,⟨Int.emod_nonneg _ (by omega),Int.emod_lt_of_pos _ f1⟩,Int.ediv_nonneg (Int.ediv_nonneg h0 (by omega)) (by omega),?_⟩;exact Int.ediv_lt_of_lt_mul f1 (Int.ediv_lt_of_lt_mul f2 h1)
theorem rat_ok {dss:List (List Dd)}{n:Int}(hb:workB dss=true)(h0:0≤n)(h1:n<rcntL (eventsB dss)):rowsL (eventsB dss) (ratL (eventsB dss) n)=true:=by
 obtain⟨⟨a0,a1⟩,⟨b0,b1⟩,c0,c1⟩:=rat_parts h0 h1;have e0:n / fac ((plcW (eventsB dss) 2).length-1) / fac ((plcW (eventsB dss) 1).length-1) % fac ((plcW (eventsB dss) 0).length-1)=n / fac ((plcW (eventsB dss) 2).length-1) / fac ((plcW (eventsB dss) 1).length-1):=Int.emod_eq_of_lt c0 c1;obtain⟨p0,q0⟩:=plcW_first hb 0 (by decide);obtain⟨p1,q1⟩:=plcW_first hb 1 (by decide);obtain⟨p2,q2⟩:=plcW_first hb 2 (by decide);unfold ratL;rw[e0];generalize n / fac ((plcW (eventsB dss) 2).length-1) / fac ((plcW (eventsB dss) 1).length-1)=x0 at c0 c1;generalize n / fac ((plcW (eventsB dss) 2).length-1) % fac ((plcW (eventsB dss) 1).length-1)=x1 at b0 b1;generalize n % fac ((plcW (eventsB dss) 2).length-1)=x2 at a0 a1;have L0:=part_len p0 x0;have L1:=part_len p1 x1;have L2:=part_len p2 x2;unfold rowsL;simp only[Bool.and_eq_true,decide_eq_true_eq];refine⟨⟨⟨?_,?_⟩,?_⟩,?_⟩
 ·
  have:=okP_mk (A:=[]) (C:=partL (plcW (eventsB dss) 1) x1++partL (plcW (eventsB dss) 2) x2) L0 (part_perm p0 c0 c1) p0 (i:=0) q0;rw[List.nil_append,←List.append_assoc] at this;exact this
 ·
  have:=okP_mk (A:=partL (plcW (eventsB dss) 0) x0) (C:=partL (plcW (eventsB dss) 2) x2) L1 (part_perm p1 b0 b1) p1 (i:=1) q1;rw[L0] at this;exact this
 ·
  have:=okP_mk (A:=partL (plcW (eventsB dss) 0) x0++partL (plcW (eventsB dss) 1) x1) (C:=[]) L2 (part_perm p2 a0 a1) p2 (i:=2) q2;rw[List.append_nil,List.length_append,L0,L1] at this;exact this
 · rw[List.length_append,List.length_append,L0,L1,L2]
theorem rat_inj {dss:List (List Dd)}{n m:Int}(hb:workB dss=true)(h0:0≤n)(h1:n<rcntL (eventsB dss))(g0:0≤m)(g1:m<rcntL (eventsB dss))(e:ratL (eventsB dss) m=ratL (eventsB dss) n):m=n:=by
 have hx:=eventsB_12 dss;obtain⟨⟨a0,a1⟩,⟨b0,b1⟩,c0,c1⟩:=rat_parts h0 h1;obtain⟨⟨d0,d1⟩,⟨i0,i1⟩,j0,j1⟩:=rat_parts g0 g1;obtain⟨p0,_⟩:=plcW_first hb 0 (by decide);obtain⟨p1,_⟩:=plcW_first hb 1 (by decide);obtain⟨p2,_⟩:=plcW_first hb 2 (by decide);unfold ratL at e;rw[Int.emod_eq_of_lt c0 c1,Int.emod_eq_of_lt j0 j1] at e;obtain⟨e01,e2⟩:=List.append_inj' e (by rw[part_len p2,part_len p2]);obtain⟨e0,e1⟩:=List.append_inj' e01 (by rw[part_len p1,part_len p1]);have r2:=part_inj (plcW_nodup hx 2) d0 d1 a0 a1 e2;have r1:=part_inj (plcW_nodup hx 1) i0 i1 b0 b1 e1;have r0:=part_inj (plcW_nodup hx 0) j0 j1 c0 c1 e0;have x2:=Int.mul_ediv_add_emod m (fac ((plcW (eventsB dss) 2).length-1));have y2:=Int.mul_ediv_add_emod n (fac ((plcW (eventsB dss) 2).length-1));have x1:=Int.mul_ediv_add_emod (m / fac ((plcW (eventsB dss) 2).length-1)) (fac ((plcW (eventsB dss) 1).length-1));have y1:=Int.mul_ediv_add_emod (n / fac ((plcW (eventsB dss) 2).length-1)) (fac ((plcW (eventsB dss) 1).length-1));rw[r0,r1,y1] at x1;rw[←x1,r2] at x2;omega
theorem rcnt_in {es:List Ev}(hx:es.length≤9):0<rcntL es∧rcntL es≤47784725839872000:=by
 have b:∀p,(plcW es p).length-1≤8:=fun p=>by
  unfold plcW idxB;rw[if_pos (by omega)];have:=idxK_len (toE (p:Int)) es es.length;omega
 have top:∀j:Nat,j≤8→fac j≤40320:=by decide +kernel
 have f0:=fac_pos ((plcW es 0).length-1);have f1:=fac_pos ((plcW es 1).length-1);have f2:=fac_pos ((plcW es 2).length-1);have t0:=top _ (b 0);have t1:=top _ (b 1);have t2:=top _ (b 2);unfold rcntL;refine⟨Int.mul_pos (Int.mul_pos f0 f1) f2,?_⟩;have m1:fac ((plcW es 0).length-1)*fac ((plcW es 1).length-1)≤40320*40320:=Int.mul_le_mul t0 t1 (by omega) (by decide);have m2:fac ((plcW es 0).length-1)*fac ((plcW es 1).length-1)*fac ((plcW es 2).length-1)≤40320*40320*40320:=Int.mul_le_mul m1 t2 (by omega) (by decide);omega
def seatAt (l:List Int)(i:Nat):List Int:=if i=0 then l.take 1 else l.drop 1
def seatK (l:List Int)(i:Nat):List (List Int):=(List.range i).map (seatAt l)
theorem seatK_more (l:List Int)(i:Nat):seatK l (i+1)=seatK l i++[seatAt l i]:=by
 unfold seatK;rw[List.range_succ,List.map_append];rfl
def seatP (l:List Int):List (List Int):=seatK l l.length
theorem seatP_cons (x:Int)(r:List Int):seatP (x::r)=[x]::List.replicate r.length r:=by
 unfold seatP seatK;rw[List.length_cons,List.range_succ_eq_map,List.map_cons,List.map_map]
 congr 1
 refine List.ext_getElem (by simp) (fun i h1 h2=>?_);simp[seatAt]
theorem seatP_len (l:List Int):(seatP l).length=l.length:=by simp[seatP,seatK]
def seatsL (es:List Ev):List (List Int):=seatP (plcW es 0)++seatP (plcW es 1)++seatP (plcW es 2)
def nextL (s ahead:List Int)(last:Int):List Int:=s.filter (fun x=>decide (last<x)&&!isB ahead x)
def nextB (s ahead:List Int)(last:Int):Int:=(nextL s ahead last).headD (-1)
theorem next_step {s ahead t:List Int}{last x:Int}(hs:s.Pairwise (·<·))(h:nextL s ahead last=x::t):nextL s ahead x=t∧last<x∧isB ahead x=false:=by
 have hx:x∈nextL s ahead last:=by rw[h];simp
 unfold nextL at hx;rw[List.mem_filter] at hx;simp only[Bool.and_eq_true,decide_eq_true_eq,Bool.not_eq_true'] at hx;refine⟨?_,hx.2.1,hx.2.2⟩
 have h1:nextL s ahead x=(nextL s ahead last).filter (fun y=>decide (x<y)):=by
  unfold nextL;rw[List.filter_filter];refine List.filter_congr (fun y _=>?_);by_cases hy:x<y
  ·
   have:last<y:=by omega
   simp[hy,this]
  · simp[hy]
 have hp:(x::t).Pairwise (·<·):=by
  rw[←h];exact hs.filter _
 rw[List.pairwise_cons] at hp;rw[h1,h,List.filter_cons,if_neg (by simp),List.filter_eq_self];intro y hy
 simpa using hp.1 y hy
def allT:List (List Int)→List Int→List (Option (List Int))
 | [],a=>[some a]
 |s::ss,a=>(nextL s a (-1)).flatMap (fun x=>none::allT ss (a++[x]))++[none]
def hereT (ss:List (List Int))(rows:List Int)(last:Int):List (Option (List Int)):=
 match ss.drop rows.length with
 | []=>[some rows]
 |s::r=>(nextL s rows last).flatMap (fun x=>none::allT r (rows++[x]))++[none]
theorem here_all (ss:List (List Int))(rows:List Int):hereT ss rows (-1)=allT (ss.drop rows.length) rows:=by
 unfold hereT;cases ss.drop rows.length<;>rfl
def backT (ss:List (List Int))(rows:List Int):Nat→List (Option (List Int))
 | 0=>[]
 |k+1=>hereT ss (rows.take k) (rows.getD k 0)++backT ss rows k
theorem back_more (ss:List (List Int))(rows:List Int)(x:Int):∀k:Nat,k≤rows.length→backT ss (rows++[x]) k=backT ss rows k
 | 0,_=>rfl
 |k+1,h=>by
  rw[backT,backT,back_more ss rows x k (by omega),List.take_append_of_le_length (by omega)]
  congr 2
  rw[List.getD_eq_getElem?_getD,List.getElem?_append_left (by omega),←List.getD_eq_getElem?_getD]
def comeT (ss:List (List Int))(rows:List Int)(last:Int):List (Option (List Int)):=hereT ss rows last++backT ss rows rows.length
theorem back_snoc (ss:List (List Int))(rows:List Int)(x:Int):backT ss (rows++[x]) (rows++[x]).length=comeT ss rows x:=by
 rw[List.length_append,List.length_singleton,backT,back_more ss rows x _ (Nat.le_refl _),comeT]
 congr 2
 · rw[List.take_append_of_le_length (Nat.le_refl _),List.take_length]
 · rw[List.getD_eq_getElem?_getD,List.getElem?_append_right (Nat.le_refl _),Nat.sub_self];rfl
theorem come_give {ss:List (List Int)}{rows t:List Int}{last x:Int}(hlt:rows.length<ss.length)(hs:(ss.getD rows.length []).Pairwise (·<·))(h:nextL (ss.getD rows.length []) rows last=x::t):
  comeT ss rows last=none::comeT ss (rows++[x]) (-1):=by
 have hd:ss.drop rows.length=ss.getD rows.length []::ss.drop (rows.length+1):=by
  rw[List.getD_eq_getElem?_getD,List.getElem?_eq_getElem hlt];exact List.drop_eq_getElem_cons hlt
 have hn:=(next_step hs h).1
 conv=>rhs;rw[comeT,back_snoc,here_all,List.length_append,List.length_singleton,comeT]
 rw[comeT,hereT,hereT,hd];simp only[h,hn,List.flatMap_cons,List.cons_append,List.append_assoc]
theorem come_none {ss:List (List Int)}{rows:List Int}{last:Int}(hlt:rows.length<ss.length)(h:nextL (ss.getD rows.length []) rows last=[]):
  comeT ss rows last=none::backT ss rows rows.length:=by
 have hd:ss.drop rows.length=ss.getD rows.length []::ss.drop (rows.length+1):=by
  rw[List.getD_eq_getElem?_getD,List.getElem?_eq_getElem hlt];exact List.drop_eq_getElem_cons hlt
 rw[comeT,hereT,hd];simp only[h,List.flatMap_nil,List.nil_append,List.cons_append]
theorem come_full {ss:List (List Int)}{rows:List Int}{last:Int}(hl:rows.length=ss.length):comeT ss rows last=some rows::backT ss rows rows.length:=by
 rw[comeT,hereT,List.drop_of_length_le (by omega)];rfl
def allS:List (List Int)→List Int→List (List Int)
 | [],a=>[a]
 |s::ss,a=>(nextL s a (-1)).flatMap (fun x=>allS ss (a++[x]))
theorem all_found:∀(ss:List (List Int)) (a:List Int),(allT ss a).filterMap id=allS ss a
 | [],a=>rfl
 |s::ss,a=>by
  rw[allT,allS,List.filterMap_append];simp only[List.filterMap_cons,List.filterMap_nil,id,List.append_nil];rw[List.filterMap_flatMap]
  congr 1
  funext x;rw[List.filterMap_cons];exact all_found ss _
end Go.Proofs.YtkmjmnljkidobaaGreat
