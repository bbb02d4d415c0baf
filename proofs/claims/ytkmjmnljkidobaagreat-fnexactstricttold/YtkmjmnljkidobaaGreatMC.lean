/- Gathered texts. -/
import Derived.Scope
import Derived.WalkMore
import Derived.Test.YtkmjmnljkidobaaGreatMB
set_option maxRecDepth 100000
set_option maxHeartbeats 8000000
namespace Go.Proofs.YtkmjmnljkidobaaGreat
open Go.RowKit
def atLabel (J:Nat→Act→World→Prop)(Q:Exit→Act→World→Prop):Exit→Act→World→Prop
 | .goto l,a,w=>J l a w
 |e,a,w=>Q e a w
theorem wp_scope_labels {P:Program}{Q:Exit→Act→World→Prop}{c:Code}{a:Act}{w:World}(rest:Nat→Code)(J:Nat→Nat→Act→World→Prop)
  (hf:∀l m a w,J l m a w→findLabel c l=some (rest l)) (first:c.wp P (atLabel (fun l a w=>∃m,J l m a w) Q) a w)
  (pass:∀l m a w,J l m a w→(rest l).wp P (atLabel (fun l' a' w'=>∃m',m'<m∧J l' m' a' w') Q) a w):(Code.scope c).wp P Q a w:=by
 intro b k cs
 have on:∀m l a w,J l m a w→∃e a' w',Q e a' w'∧Arrives P (lone (b.at a (.code (rest l) :: .inScope c::k)) cs w) b k cs e a' w':=by
  intro m
  induction m using Nat.strongRecOn with
  |_ m ih=>
   intro l a w hJ;obtain⟨e,a₁,w₁,hq,harr⟩:=pass l m a w hJ b (.inScope c::k) cs
   cases e with
   |goto l'=>
    obtain⟨m',hlt,hJ'⟩:∃m',m'<m∧J l' m' a₁ w₁:=hq;obtain⟨e₂,a₂,w₂,hq₂,harr₂⟩:=ih _ hlt l' a₁ w₁ hJ';have hg:gotoIn l' (.inScope c::k)=some (.code (rest l') :: .inScope c::k):=by simp[gotoIn,hf l' m' a₁ w₁ hJ']
    exact⟨e₂,a₂,w₂,hq₂,.of_steps (harr _ hg) harr₂⟩
   |normal=>exact⟨.normal,a₁,w₁,hq,Steps.trans harr (.one step_inScope)⟩
   |exit id=>exact⟨.exit id,a₁,w₁,hq,fun k' hk=>harr k' (by simp[exitTo,hk])⟩
   |ret=>exact⟨_,a₁,w₁,hq,harr⟩
   |panic ch=>exact⟨_,a₁,w₁,hq,harr⟩
   |outgrown=>exact⟨_,a₁,w₁,hq,harr⟩
 obtain⟨e,a₁,w₁,hq,harr⟩:=first b (.inScope c::k) cs
 cases e with
 |goto l'=>
  obtain⟨m,hJ'⟩:∃m,J l' m a₁ w₁:=hq;obtain⟨e₂,a₂,w₂,hq₂,harr₂⟩:=on m l' a₁ w₁ hJ';have hg:gotoIn l' (.inScope c::k)=some (.code (rest l') :: .inScope c::k):=by simp[gotoIn,hf l' m a₁ w₁ hJ']
  exact⟨e₂,a₂,w₂,hq₂,.of_steps (.head step_scope (harr _ hg)) harr₂⟩
 |normal=>exact⟨.normal,a₁,w₁,hq,.head step_scope (Steps.trans harr (.one step_inScope))⟩
 |exit id=>exact⟨.exit id,a₁,w₁,hq,fun k' hk => .head step_scope (harr k' (by simp[exitTo,hk]))⟩
 |ret=>exact⟨_,a₁,w₁,hq,.of_steps (.one step_scope) harr⟩
 |panic ch=>exact⟨_,a₁,w₁,hq,.of_steps (.one step_scope) harr⟩
 |outgrown=>exact⟨_,a₁,w₁,hq,.of_steps (.one step_scope) harr⟩
def ofTwo {α:Type}(x0 x1 d:α):Nat→α
 | 0=>x0
 | 1=>x1
 |_=>d
def below2 (J0 J1:Nat→Act→World→Prop)(Q:Exit→Act→World→Prop)(m:Nat):Exit→Act→World→Prop:=atLabel (ofTwo (fun a' w'=>∃m',m'<m∧J0 m' a' w') (fun a' w'=>∃m',m'<m∧J1 m' a' w') (fun _ _=>False)) Q
def any2 (J0 J1:Nat→Act→World→Prop)(Q:Exit→Act→World→Prop):Exit→Act→World→Prop:=atLabel (ofTwo (fun a w=>∃m,J0 m a w) (fun a w=>∃m,J1 m a w) (fun _ _=>False)) Q
theorem below2_ret {J0 J1:Nat→Act→World→Prop}{Q:Exit→Act→World→Prop}{m:Nat}{a:Act}{w:World}:below2 J0 J1 Q m .ret a w=Q .ret a w:=rfl
theorem below2_to0 {J0 J1:Nat→Act→World→Prop}{Q:Exit→Act→World→Prop}{m:Nat}{a:Act}{w:World}(h:∃m',m'<m∧J0 m' a w):below2 J0 J1 Q m (.goto 0) a w:=h
theorem below2_to1 {J0 J1:Nat→Act→World→Prop}{Q:Exit→Act→World→Prop}{m:Nat}{a:Act}{w:World}(h:∃m',m'<m∧J1 m' a w):below2 J0 J1 Q m (.goto 1) a w:=h
theorem below2_any {J0 J1:Nat→Act→World→Prop}{Q:Exit→Act→World→Prop}{m:Nat}(e:Exit)(a:Act)(w:World)(h:below2 J0 J1 Q m e a w):any2 J0 J1 Q e a w:=by
 cases e with
 |goto l=>
  match l,h with
  | 0,h=>obtain⟨m',_,h⟩:∃m',m'<m∧J0 m' a w:=h;exact⟨m',h⟩
  | 1,h=>obtain⟨m',_,h⟩:∃m',m'<m∧J1 m' a w:=h;exact⟨m',h⟩
 |_=>exact h
theorem below2_le {J0 J1:Nat→Act→World→Prop}{Q:Exit→Act→World→Prop}{k m:Nat}(hk:k≤m)(e:Exit)(a:Act)(w:World)(h:below2 J0 J1 Q k e a w):below2 J0 J1 Q m e a w:=by
 cases e with
 |goto l=>
  match l,h with
  | 0,h=>obtain⟨m',hl,h⟩:∃m',m'<k∧J0 m' a w:=h;exact⟨m',by omega,h⟩
  | 1,h=>obtain⟨m',hl,h⟩:∃m',m'<k∧J1 m' a w:=h;exact⟨m',by omega,h⟩
 |_=>exact h
theorem wp_scope_two {P:Program}{Q:Exit→Act→World→Prop}{c r0 r1:Code}{a:Act}{w:World}(J0 J1:Nat→Act→World→Prop)
  (hf0:findLabel c 0=some (Code.skip.seq r0)) (hf1:findLabel c 1=some (Code.skip.seq r1))
  (pass0:∀m a w,J0 m a w→r0.wp P (below2 J0 J1 Q m) a w)
  (pass1:∀m,(∀m' a w,m'<m→J0 m' a w→r0.wp P (below2 J0 J1 Q m) a w)→∀a w,J1 m a w→r1.wp P (below2 J0 J1 Q m) a w)
  (first:(∀m a w,J1 m a w→r1.wp P (any2 J0 J1 Q) a w)→c.wp P (any2 J0 J1 Q) a w):(Code.scope c).wp P Q a w:=by
 have p1:∀m a w,J1 m a w→r1.wp P (below2 J0 J1 Q m) a w:=fun m a w h=>pass1 m (fun m' a w hm h0=>Code.wp_mono (below2_le (Nat.le_of_lt hm)) (pass0 m' a w h0)) a w h
 have e1:(fun l a w=>∃m,ofTwo J0 J1 (fun _ _ _=>False) l m a w)=ofTwo (fun a w=>∃m,J0 m a w) (fun a w=>∃m,J1 m a w) (fun _ _=>False):=by
  funext l a w
  match l with
  | 0=>rfl
  | 1=>rfl
  |l+2=>simp[ofTwo]
 have e2:∀m:Nat,(fun l a w=>∃m',m'<m∧ofTwo J0 J1 (fun _ _ _=>False) l m' a w)=ofTwo (fun a w=>∃m',m'<m∧J0 m' a w) (fun a w=>∃m',m'<m∧J1 m' a w) (fun _ _=>False):=by
  intro m;funext l a w
  match l with
  | 0=>rfl
  | 1=>rfl
  |l+2=>simp[ofTwo]
 refine wp_scope_labels (ofTwo (Code.skip.seq r0) (Code.skip.seq r1) r0) (ofTwo J0 J1 (fun _ _ _=>False)) (fun l m a w h=>?_) (by rw[e1];exact first (fun m a w h=>Code.wp_mono below2_any (p1 m a w h))) (fun l m a w h=>?_)
 ·
  match l,h with
  | 0,_=>exact hf0
  | 1,_=>exact hf1
 ·
  rw[e2]
  match l,h with
  | 0,h=>exact wp_seq (wp_skip (pass0 m a w h))
  | 1,h=>exact wp_seq (wp_skip (p1 m a w h))
theorem isB_take {l:List Int}{n:Int}(h:∀i,i<l.length→l.getD i 0≠n):isB l n=false:=by
 unfold isB;rw[List.any_eq_false];intro x hx;obtain⟨i,hi,e⟩:=List.getElem_of_mem hx;have:=h i hi;rw[List.getD_eq_getElem?_getD,List.getElem?_eq_getElem hi] at this;simp only[Option.getD_some] at this;rw[←e]
 simpa using this
theorem isB_at {l:List Int}{n:Int}{i:Nat}(hi:i<l.length)(h:l.getD i 0=n):isB l n=true:=by
 unfold isB;rw[List.any_eq_true];refine⟨n,?_,by simp⟩;rw[←h,List.getD_eq_getElem?_getD,List.getElem?_eq_getElem hi];exact List.getElem_mem hi
theorem all_app:∀(s1 s2:List (List Int)) (a:List Int),allS (s1++s2) a=(allS s1 a).flatMap (allS s2)
 | [],s2,a=>by simp[allS]
 |s::r,s2,a=>by
  rw[List.cons_append,allS,allS,List.flatMap_assoc]
  congr 1
  funext x;exact all_app r s2 _
theorem flat_congr {α β:Type}{l:List α}{f g:α→List β}(h:∀x∈l,f x=g x):l.flatMap f=l.flatMap g:=by
 induction l with
 |nil=>rfl
 |cons x r ih=>rw[List.flatMap_cons,List.flatMap_cons,h x (by simp),ih (fun y hy=>h y (by simp[hy]))]
theorem range_flat {β:Type}(b:Nat)(hb:0<b)(g:Nat→Nat→β):∀a:Nat,(List.range a).flatMap (fun i=>(List.range b).map (g i))=(List.range (a*b)).map (fun n=>g (n / b) (n % b))
 | 0=>by simp
 |a+1=>by
  rw[List.range_succ,List.flatMap_append,range_flat b hb g a,Nat.succ_mul,List.range_add,List.map_append,List.map_map]
  congr 1
  simp only[List.flatMap_cons,List.flatMap_nil,List.append_nil];refine List.map_congr_left (fun j hj=>?_);rw[List.mem_range] at hj;have h1:(a*b+j) / b=a:=by rw[Nat.mul_comm,Nat.mul_add_div hb,Nat.div_eq_of_lt hj];omega
  have h2:(a*b+j) % b=j:=by rw[Nat.mul_comm,Nat.mul_add_mod,Nat.mod_eq_of_lt hj]
  simp only[Function.comp,h1,h2]
def facN (m:Nat):Nat:=(fac m).toNat
theorem facN_cast (m:Nat):((facN m:Nat):Int)=fac m:=by
 have:=fac_pos m;unfold facN;omega
theorem facN_pos (m:Nat):0<facN m:=by
 have:=fac_pos m;unfold facN;omega
theorem facN_more (m:Nat):facN (m+1)=(m+1)*facN m:=by
 have h:=facN_cast (m+1);rw[fac,←facN_cast m] at h
 have:((facN m:Nat):Int)*((m:Int)+1)=(((m+1)*facN m:Nat):Int):=by
  rw[Int.natCast_mul,Int.mul_comm];rfl
 rw[this] at h;exact Int.ofNat.inj h
theorem filter_erase:∀(l:List Int) (k:Nat),l.Nodup→k<l.length→l.filter (fun y=>!(l.getD k 0==y))=l.eraseIdx k
 | [],k,_,h=>by simp at h
 |x::r,0,hn,_=>by
  rw[List.nodup_cons] at hn;rw[List.getD_cons_zero,List.eraseIdx_cons_zero,List.filter_cons,if_neg (by simp),List.filter_eq_self];intro y hy;have:x≠y:=fun e=>hn.1 (by rw[e];exact hy)
  simpa using this
 |x::r,k+1,hn,h=>by
  rw[List.nodup_cons] at hn;have hk:k<r.length:=by simpa using h
  have hm:r.getD k 0∈r:=by
   rw[List.getD_eq_getElem?_getD,List.getElem?_eq_getElem hk];exact List.getElem_mem hk
  have hne:r.getD k 0≠x:=fun e=>hn.1 (by rw[←e];exact hm)
  rw[List.getD_cons_succ,List.eraseIdx_cons_succ,List.filter_cons,if_pos (by simpa using hne),filter_erase r k hn.2 hk]
theorem isB_snoc (a:List Int)(x y:Int):isB (a++[x]) y=(isB a y||(x==y)):=by
 unfold isB;rw[List.any_append];simp
theorem next_snoc (l a:List Int)(x:Int):nextL l (a++[x]) (-1)=(nextL l a (-1)).filter (fun y=>!(x==y)):=by
 unfold nextL;rw[List.filter_filter];refine List.filter_congr (fun y _=>?_);rw[isB_snoc];cases isB a y<;>cases (x==y)<;>simp
theorem list_range (l:List Int):l=(List.range l.length).map (fun k=>l.getD k 0):=by
 refine List.ext_getElem (by simp) (fun i h1 h2=>?_);simp[List.getElem?_eq_getElem h1]
theorem ord_all:∀(m:Nat) (l a:List Int),(nextL l a (-1)).Nodup→(nextL l a (-1)).length=m→allS (List.replicate m l) a=(List.range (facN m)).map (fun n:Nat=>a++ordL m (nextL l a (-1)) (n:Int))
 | 0,l,a,_,_=>by
  have:facN 0=1:=by decide
  rw[this];simp[allS,ordL]
 |m+1,l,a,hn,hl=>by
  rw[List.replicate_succ,allS]
  have e1:(nextL l a (-1)).flatMap (fun x=>allS (List.replicate m l) (a++[x]))=(List.range (m+1)).flatMap (fun k=>(List.range (facN m)).map (fun n:Nat=>a++[(nextL l a (-1)).getD k 0]++ordL m ((nextL l a (-1)).eraseIdx k) (n:Int))):=by
   have e0:=list_range (nextL l a (-1));rw[hl] at e0
   conv=>lhs;rw[e0,List.flatMap_map]
   refine flat_congr (fun k hk=>?_);rw[List.mem_range] at hk;have hx:=next_snoc l a ((nextL l a (-1)).getD k 0);rw[filter_erase _ k hn (by omega)] at hx;have ih:=ord_all m l (a++[(nextL l a (-1)).getD k 0]) (by rw[hx];exact erase_nodup hn k) (by rw[hx];exact erase_len hl hk);rw[hx] at ih;exact ih
  rw[e1,range_flat _ (facN_pos m) (fun k n=>a++[(nextL l a (-1)).getD k 0]++ordL m ((nextL l a (-1)).eraseIdx k) (n:Int)),facN_more];refine List.map_congr_left (fun n _=>?_);rw[ordL,←facN_cast m,←Int.natCast_ediv,←Int.natCast_emod,Int.toNat_natCast,List.append_assoc];rfl
theorem next_all {l a:List Int}(h0:∀x∈l,0≤x)(hd:∀x∈l,isB a x=false):nextL l a (-1)=l:=by
 unfold nextL;rw[List.filter_eq_self];intro x hx;have:=h0 x hx;rw[hd x hx];simp;omega
theorem isB_false {l:List Int}{x:Int}:isB l x=false↔x∉l:=by
 constructor
 ·
  intro h hm;rw[mem_isB hm] at h;cases h
 ·
  intro h;cases hb:isB l x
  · rfl
  · exact absurd (isB_mem hb) h
theorem place_all {l a:List Int}(hl:0<l.length)(hn:l.Nodup)(h0:∀x∈l,0≤x)(hd:∀x∈l,x∉a):allS (seatP l) a=(List.range (facN (l.length-1))).map (fun n:Nat=>a++partL l (n:Int)):=by
 match l,hl with
 |x::r,_=>
  rw[List.nodup_cons] at hn;have e1:nextL [x] a (-1)=[x]:=next_all (fun y hy=>h0 y (by simp at hy;simp[hy])) (fun y hy=>isB_false.2 (hd y (by simp at hy;simp[hy])))
  have e2:nextL r (a++[x]) (-1)=r:=next_all (fun y hy=>h0 y (by simp[hy])) (fun y hy=>isB_false.2 (by
   rw[List.mem_append];rintro (h|h)
   · exact hd y (by simp[hy]) h
   ·
    rw[List.mem_singleton] at h
    exact hn.1 (by rw[←h];exact hy)))
  have e3:=ord_all r.length r (a++[x]) (by rw[e2];exact hn.2) (by rw[e2]);rw[e2] at e3;rw[seatP_cons,allS,e1,List.flatMap_cons,List.flatMap_nil,List.append_nil,e3];simp only[List.length_cons,Nat.add_sub_cancel];refine List.map_congr_left (fun n _=>?_);rw[partL,List.append_assoc];simp
theorem part_mem {l:List Int}{n:Nat}(hl:0<l.length)(h:n<facN (l.length-1)){x:Int}:x∈partL l (n:Int)↔x∈l:=by
 have hc:=facN_cast (l.length-1);exact (part_perm hl (Int.natCast_nonneg _) (by omega)).mem_iff
theorem rcnt_nat (es:List Ev):((facN ((plcW es 0).length-1)*facN ((plcW es 1).length-1)*facN ((plcW es 2).length-1):Nat):Int)=rcntL es:=by
 unfold rcntL;rw[Int.natCast_mul,Int.natCast_mul,facN_cast,facN_cast,facN_cast]
theorem all_rows {dss:List (List Dd)}(hb:workB dss=true):allS (seatsL (eventsB dss)) []=(List.range (rcntL (eventsB dss)).toNat).map (fun n:Nat=>ratL (eventsB dss) (n:Int)):=by
 obtain⟨p0,-⟩:=plcW_first hb 0 (by decide);obtain⟨p1,-⟩:=plcW_first hb 1 (by decide);obtain⟨p2,-⟩:=plcW_first hb 2 (by decide);have h12:=eventsB_12 dss;generalize eventsB dss=es at *
 have dis:∀ {p q:Nat},p≠q→∀a∈plcW es p,a∉plcW es q:=fun {p q} hpq a ha hb=>by
  have h1:=(plcW_mem h12 ha).2;have h2:=(plcW_mem h12 hb).2;rw[h2] at h1;omega
 have e0:=place_all (a:=[]) p0 (plcW_nodup h12 0) (fun x hx=>(plcW_mem h12 hx).1.1) (fun x _=>by simp);unfold seatsL;rw[all_app,all_app,e0]
 have e1:((List.range (facN ((plcW es 0).length-1))).map (fun n:Nat=>[]++partL (plcW es 0) (n:Int))).flatMap (allS (seatP (plcW es 1)))=(List.range (facN ((plcW es 0).length-1)*facN ((plcW es 1).length-1))).map (fun n:Nat=>partL (plcW es 0) ((n / facN ((plcW es 1).length-1):Nat):Int)++partL (plcW es 1) ((n % facN ((plcW es 1).length-1):Nat):Int)):=by
  rw[List.flatMap_map,←range_flat _ (facN_pos _) (fun i j=>partL (plcW es 0) ((i:Nat):Int)++partL (plcW es 1) ((j:Nat):Int))];refine flat_congr (fun n hn=>?_);rw[List.mem_range] at hn;rw[List.nil_append];exact place_all p1 (plcW_nodup h12 1) (fun x hx=>(plcW_mem h12 hx).1.1) (fun x hx h=>dis (by decide) x hx ((part_mem p0 hn).1 h))
 rw[e1,List.flatMap_map]
 have e2:(List.range (facN ((plcW es 0).length-1)*facN ((plcW es 1).length-1))).flatMap (fun n:Nat=>allS (seatP (plcW es 2)) (partL (plcW es 0) ((n / facN ((plcW es 1).length-1):Nat):Int)++partL (plcW es 1) ((n % facN ((plcW es 1).length-1):Nat):Int))) =
   (List.range (facN ((plcW es 0).length-1)*facN ((plcW es 1).length-1))).flatMap (fun n:Nat=>(List.range (facN ((plcW es 2).length-1))).map (fun m:Nat=>partL (plcW es 0) ((n / facN ((plcW es 1).length-1):Nat):Int)++partL (plcW es 1) ((n % facN ((plcW es 1).length-1):Nat):Int)++partL (plcW es 2) (m:Int))):=by
  refine flat_congr (fun n hn=>?_);rw[List.mem_range] at hn;refine place_all p2 (plcW_nodup h12 2) (fun x hx=>(plcW_mem h12 hx).1.1) (fun x hx h=>?_);rcases List.mem_append.1 h with h|h
  · exact dis (by decide) x hx ((part_mem p0 (Nat.div_lt_of_lt_mul (by rw[Nat.mul_comm];exact hn))).1 h)
  · exact dis (by decide) x hx ((part_mem p1 (Nat.mod_lt _ (facN_pos _))).1 h)
 rw[e2,range_flat _ (facN_pos _) (fun n m=>partL (plcW es 0) ((n / facN ((plcW es 1).length-1):Nat):Int)++partL (plcW es 1) ((n % facN ((plcW es 1).length-1):Nat):Int)++partL (plcW es 2) ((m:Nat):Int))];rw[←rcnt_nat,Int.toNat_natCast];refine List.map_congr_left (fun n hn=>?_);rw[List.mem_range] at hn;have hr:=rat_parts (es:=es) (n:=(n:Int)) (Int.natCast_nonneg _) (by rw[←rcnt_nat];exact Int.ofNat_lt.2 hn);unfold ratL;rw[Int.emod_eq_of_lt hr.2.2.1 hr.2.2.2,←facN_cast,←facN_cast,←Int.natCast_ediv,←Int.natCast_ediv,←Int.natCast_emod,←Int.natCast_emod]
theorem rcnt_pos (es:List Ev):0<rcntL es:=Int.mul_pos (Int.mul_pos (fac_pos _) (fac_pos _)) (fac_pos _)
theorem fac_mono9 {m:Nat}(h:m≤9):fac m≤362880:=by
 have:∀j:Nat,j≤9→fac j≤362880:=by decide +kernel
 exact this m h
theorem plcW_9 {es:List Ev}(hx:es.length≤9)(p:Nat):(plcW es p).length≤9:=by
 unfold plcW idxB;rw[if_pos (by omega)];have:=idxK_len (toE (p:Int)) es es.length;omega
theorem all_none {dss:List (List Dd)}(hb:workB dss=false):allS (seatsL (eventsB dss)) []=[[]]:=by
 have:eventsB dss=[]:=by rw[eventsB,hb];rfl
 rw[this];rfl
def rwP (es:List Ev)(rows:List Int)(i k:Nat):Bool:=decide (i<k)&&(plE es (rows.getD i 0)==plE es (rows.getD k 0))
def rwIn (es:List Ev)(rows:List Int)(i:Nat)(st:List Int):Nat→List Int
 | 0=>st
 |k+1=>if rwP es rows i k=true then (rwIn es rows i st k).set (rows.getD i 0).toNat (gAdd ((rwIn es rows i st k).getD (rows.getD i 0).toNat 0) (rows.getD k 0)) else rwIn es rows i st k
def rwAll (es:List Ev)(rows:List Int):Nat→List Int
 | 0=>List.replicate es.length 0
 |i+1=>rwIn es rows i (rwAll es rows i) rows.length
def rwL (es:List Ev)(rows:List Int):List Int:=rwAll es rows rows.length
def rwB (dss:List (List Dd))(rows:List Int):List Int:=if rowsB dss rows=true then rwL (eventsB dss) rows else []
theorem rwIn_hit {es:List Ev}{rows:List Int}{i k:Nat}(st:List Int)(h:rwP es rows i k=true):rwIn es rows i st (k+1)=(rwIn es rows i st k).set (rows.getD i 0).toNat (gAdd ((rwIn es rows i st k).getD (rows.getD i 0).toNat 0) (rows.getD k 0)):=if_pos h
theorem rwIn_miss {es:List Ev}{rows:List Int}{i k:Nat}(st:List Int)(h:rwP es rows i k=false):rwIn es rows i st (k+1)=rwIn es rows i st k:=if_neg (by simp[h])
theorem rwIn_none {es:List Ev}{rows:List Int}{i:Nat}(st:List Int):∀k:Nat,(∀j,j<k→rwP es rows i j=false)→rwIn es rows i st k=st
 | 0,_=>rfl
 |k+1,h=>by rw[rwIn_miss st (h k (by omega))];exact rwIn_none st k (fun j hj=>h j (by omega))
theorem rwP_up {es:List Ev}{rows:List Int}{i j:Nat}(h:j≤i):rwP es rows i j=false:=by unfold rwP;rw[decide_eq_false (show ¬i<j by omega)];rfl
theorem web_rwIn {es:List Ev}{rows:List Int}{n i:Nat}{st:List Int}(hr:∀j,j<rows.length→0≤rows.getD j 0∧rows.getD j 0<(n:Int))(hi:i<rows.length)(hst:Web n st):∀m:Nat,m≤rows.length →
  Web n (rwIn es rows i st m)∧∀a b:Nat,a<n→(line (rwIn es rows i st m) a b=true↔line st a b=true∨∃q,q<m∧rwP es rows i q=true∧rows.getD i 0=(a:Int)∧rows.getD q 0=(b:Int))
 | 0,_=>⟨hst,fun a b _=>by simp[rwIn]⟩
 |m+1,hm=>by
  obtain⟨h1,h2⟩:=web_rwIn (es:=es) hr hi hst m (by omega)
  cases hp:rwP es rows i m with
  |false=>
   rw[rwIn_miss st hp];refine⟨h1,fun a b ha=>?_⟩;rw[h2 a b ha];constructor
   ·
    rintro (h|⟨q,hq,r⟩)
    · exact .inl h
    · exact .inr ⟨q,by omega,r⟩
   ·
    rintro (h|⟨q,hq,r⟩)
    · exact .inl h
    ·
     by_cases e:q=m
     · subst e;rw[hp] at r;cases r.1
     · exact .inr ⟨q,by omega,r⟩
  |true=>
   obtain⟨a0,ha0⟩:=Int.eq_ofNat_of_zero_le (hr i hi).1;obtain⟨b0,hb0⟩:=Int.eq_ofNat_of_zero_le (hr m (by omega)).1;have ha:a0<n:=by have:=(hr i hi).2;omega
   have hb:b0<n:=by have:=(hr m (by omega)).2;omega
   have e0:rwIn es rows i st (m+1)=(rwIn es rows i st m).set a0 (gAdd ((rwIn es rows i st m).getD a0 0) (b0:Int)):=by rw[rwIn_hit st hp,ha0,hb0,Int.toNat_natCast]
   rw[e0];have hadd:=ok_add (h1.2.2 a0 ha) hb;refine⟨h1.set hadd.1,fun a b haa=>?_⟩;have e1:=h2 a b haa;unfold line at e1 ⊢;rw[getD_set _ _ _ _ (by rw[h1.2.1];exact ha)];by_cases e:a0=a
   ·
    subst e;simp only[if_true];rw[hadd.2 b,Bool.or_eq_true,e1,decide_eq_true_eq];constructor
    ·
     rintro ((h|⟨q,hq,r1,r2,r3⟩)|h)
     · exact .inl h
     · exact .inr ⟨q,by omega,r1,r2,r3⟩
     · exact .inr ⟨m,by omega,hp,ha0,by rw[hb0,h]⟩
    ·
     rintro (h|⟨q,hq,r1,r2,r3⟩)
     · exact .inl (.inl h)
     ·
      by_cases eq:q=m
      ·
       subst eq;right;rw[hb0] at r3;omega
      · exact .inl (.inr ⟨q,by omega,r1,r2,r3⟩)
   ·
    simp only[e,if_false];rw[e1];constructor
    ·
     rintro (h|⟨q,hq,r1,r2,r3⟩)
     · exact .inl h
     · exact .inr ⟨q,by omega,r1,r2,r3⟩
    ·
     rintro (h|⟨q,hq,r1,r2,r3⟩)
     · exact .inl h
     · exfalso;rw[ha0] at r2;omega
theorem web_rwAll {es:List Ev}{rows:List Int}(hx:es.length≤12)(hr:∀j,j<rows.length→0≤rows.getD j 0∧rows.getD j 0<(es.length:Int)):∀m:Nat,m≤rows.length →
  Web es.length (rwAll es rows m)∧∀a b:Nat,a<es.length→(line (rwAll es rows m) a b=true↔∃i q,i<m∧q<rows.length∧rwP es rows i q=true∧rows.getD i 0=(a:Int)∧rows.getD q 0=(b:Int))
 | 0,_=>⟨Web.zero hx,fun a b _=>by unfold rwAll;rw[line_zero];simp⟩
 |m+1,hm=>by
  obtain⟨h1,h2⟩:=web_rwAll hx hr m (by omega);obtain⟨g1,g2⟩:=web_rwIn (es:=es) hr (show m<rows.length by omega) h1 rows.length (Nat.le_refl _);refine⟨g1,fun a b ha=>?_⟩;show line (rwIn es rows m (rwAll es rows m) rows.length) a b=true↔_;rw[g2 a b ha,h2 a b ha];constructor
  ·
   rintro (⟨i,q,hi,r⟩|⟨q,hq,r⟩)
   · exact⟨i,q,by omega,r⟩
   · exact⟨m,q,by omega,hq,r⟩
  ·
   rintro⟨i,q,hi,hq,r⟩;by_cases e:i=m
   · subst e;exact .inr ⟨q,hq,r⟩
   · exact .inl ⟨i,q,by omega,hq,r⟩
theorem row_cell {es:List Ev}{rows:List Int}(hx:es.length≤12)(h:rowsL es rows=true){i k:Nat}(hi:i<rows.length)(hk:k<rows.length):
  line (rwL es rows) (rows.getD i 0).toNat (rows.getD k 0).toNat=rwP es rows i k:=by
 obtain⟨hn,_,hr⟩:=rows_use hx h;obtain⟨_,h2⟩:=web_rwAll hx hr rows.length (Nat.le_refl _);obtain⟨a,ha⟩:=Int.eq_ofNat_of_zero_le (hr i hi).1;obtain⟨b,hb⟩:=Int.eq_ofNat_of_zero_le (hr k hk).1;have hal:a<es.length:=by have:=(hr i hi).2;omega
 rw[ha,hb,Int.toNat_natCast,Int.toNat_natCast];have e:=h2 a b hal;unfold rwL
 cases hp:rwP es rows i k with
 |true=>exact e.2 ⟨i,k,hi,hk,hp,ha,hb⟩
 |false=>
  cases hl:line (rwAll es rows rows.length) a b with
  |false=>rfl
  |true=>
   exfalso;obtain⟨i',k',hi',hk',hp',ha',hb'⟩:=e.1 hl;have e1:=nodup_get hn hi' hi (by rw[ha',ha]);have e2:=nodup_get hn hk' hk (by rw[hb',hb]);subst e1 e2;rw[hp] at hp';cases hp'
def sitK (ss:List (List Int))(rows:List Int):Nat→Bool
 | 0=>true
 |k+1=>sitK ss rows k&&(isB (ss.getD k []) (rows.getD k 0)&&!isB (rows.take k) (rows.getD k 0))
theorem sitK_false {ss:List (List Int)}{rows:List Int}{k:Nat}(h:sitK ss rows k=false):∀m:Nat,k≤m→sitK ss rows m=false
 | 0,hm=>by
  obtain rfl:k=0:=by omega
  exact h
 |m+1,hm=>by
  by_cases e:k=m+1
  · subst e;exact h
  · rw[sitK,sitK_false h m (by omega)];rfl
theorem sitK_iff {ss:List (List Int)}{rows:List Int}:∀k:Nat,sitK ss rows k=true↔∀i,i<k→rows.getD i 0∈ss.getD i []∧rows.getD i 0∉rows.take i
 | 0=>by simp[sitK]
 |k+1=>by
  rw[sitK,Bool.and_eq_true,sitK_iff k,Bool.and_eq_true,Bool.not_eq_true',isB_false];constructor
  ·
   rintro⟨h1,h2,h3⟩ i hi;by_cases e:i=k
   · subst e;exact⟨isB_mem h2,h3⟩
   · exact h1 i (by omega)
  ·
   intro h;exact⟨fun i hi=>h i (by omega),mem_isB (h k (by omega)).1,(h k (by omega)).2⟩
theorem getD_at {l:List Int}{i:Nat}(h:i<l.length):l.getD i 0=l[i]:=by
 rw[List.getD_eq_getElem?_getD,List.getElem?_eq_getElem h];rfl
theorem nodup_of_take {rows:List Int}(h:∀i,i<rows.length→rows.getD i 0∉rows.take i):rows.Nodup:=by
 rw[List.nodup_iff_pairwise_ne,List.pairwise_iff_getElem];intro i j hi hj hij e;refine h j hj ?_;rw[getD_at hj,←e];exact List.mem_take_iff_getElem.2 ⟨i,by omega,rfl⟩
theorem take_of_nodup {rows:List Int}(h:rows.Nodup){i:Nat}(hi:i<rows.length):rows.getD i 0∉rows.take i:=by
 intro hm;obtain⟨j,hj,e⟩:=List.mem_take_iff_getElem.1 hm;rw[getD_at hi] at e;have:=(List.getElem_inj h).1 e;omega
theorem part_sits {rows l:List Int}{at0 p:Nat}(hn:rows.Nodup)(hl:l.Nodup)(h0:0<l.length)(hf:l.getD 0 0=(p:Int))(hle:at0+l.length≤rows.length):
  okP rows at0 l p=true↔∀j,j<l.length→rows.getD (at0+j) 0∈seatAt l j:=by
 have hpl:((rows.drop at0).take l.length).length=l.length:=by rw[List.length_take,List.length_drop];omega
 have hpart:∀j,j<l.length→rows.getD (at0+j) 0∈(rows.drop at0).take l.length:=fun j hj=>by
  refine List.mem_take_iff_getElem.2 ⟨j,by rw[List.length_drop];omega,?_⟩;rw[List.getElem_drop,getD_at (by omega)]
 have hpn:((rows.drop at0).take l.length).Nodup:=(hn.sublist (List.drop_sublist at0 rows)).sublist (List.take_sublist _ _)
 have htk:l.take 1=[l.getD 0 0]:=by
  match l,h0 with
  |x::r,_=>simp
 have hcons:l=l.getD 0 0::l.drop 1:=by
  match l,h0 with
  |x::r,_=>simp
 constructor
 ·
  intro h j hj;have hperm:=(okP_perm hl h).2;have hm:=hperm.mem_iff.2 (hpart j hj);unfold okP at h;simp only[Bool.and_eq_true,decide_eq_true_eq,beq_iff_eq] at h;unfold seatAt;by_cases e:j=0
  ·
   subst e;rw[if_pos rfl,htk,hf,Nat.add_zero,h.1.2];simp
  ·
   rw[if_neg e];rw[hcons] at hm;rcases List.mem_cons.1 hm with hm|hm
   ·
    exfalso;rw[hf,←h.1.2,getD_at (by omega),getD_at (by omega)] at hm;have:=(List.getElem_inj hn).1 hm;omega
   · exact hm
 ·
  intro h
  have hin:∀x∈(rows.drop at0).take l.length,x∈l:=fun x hx=>by
   obtain⟨j,hj,e⟩:=List.mem_take_iff_getElem.1 hx;have hj2:j<l.length:=by omega
   have hs:=h j hj2;rw[List.getElem_drop] at e;rw[getD_at (by rw[List.length_drop] at hj;omega),e] at hs;unfold seatAt at hs;split at hs
   · exact List.mem_of_mem_take hs
   · exact List.mem_of_mem_drop hs
  have hperm:=perm_of hpn hin (by omega)
  have hfirst:rows.getD at0 0=(p:Int):=by
   have:=h 0 h0;rw[Nat.add_zero] at this;unfold seatAt at this;rw[if_pos rfl,htk,List.mem_singleton,hf] at this;exact this
  unfold okP;simp only[Bool.and_eq_true,decide_eq_true_eq,beq_iff_eq,List.all_eq_true];exact⟨⟨hle,hfirst⟩,fun x hx=>mem_isB (hperm.mem_iff.2 hx)⟩
theorem seatP_get {l:List Int}{j:Nat}(h:j<l.length):(seatP l).getD j []=seatAt l j:=by
 unfold seatP seatK;rw[List.getD_eq_getElem?_getD,List.getElem?_map,List.getElem?_range h];rfl
theorem seat_left {a b:List (List Int)}{i:Nat}(h:i<a.length):(a++b).getD i []=a.getD i []:=by
 rw[List.getD_eq_getElem?_getD,List.getElem?_append_left h,←List.getD_eq_getElem?_getD]
theorem seat_right {a b:List (List Int)}{i n:Nat}(h:n=a.length):(a++b).getD (n+i) []=b.getD i []:=by
 subst h;rw[List.getD_eq_getElem?_getD,List.getElem?_append_right (by omega),←List.getD_eq_getElem?_getD]
 congr 1
 omega
theorem seats_len (es:List Ev):(seatsL es).length=(plcW es 0).length+(plcW es 1).length+(plcW es 2).length:=by
 unfold seatsL;rw[List.length_append,List.length_append,seatP_len,seatP_len,seatP_len]
theorem seats_0 {es:List Ev}{j:Nat}(h:j<(plcW es 0).length):(seatsL es).getD (0+j) []=seatAt (plcW es 0) j:=by
 unfold seatsL;rw[Nat.zero_add,seat_left (by rw[List.length_append,seatP_len];omega),seat_left (by rw[seatP_len];omega),seatP_get h]
theorem seats_1 {es:List Ev}{j:Nat}(h:j<(plcW es 1).length):(seatsL es).getD ((plcW es 0).length+j) []=seatAt (plcW es 1) j:=by
 unfold seatsL;rw[seat_left (by rw[List.length_append,seatP_len,seatP_len];omega),seat_right (by rw[seatP_len]),seatP_get h]
theorem seats_2 {es:List Ev}{j:Nat}(h:j<(plcW es 2).length):(seatsL es).getD ((plcW es 0).length+(plcW es 1).length+j) []=seatAt (plcW es 2) j:=by
 unfold seatsL;rw[seat_right (by rw[List.length_append,seatP_len,seatP_len]),seatP_get h]
theorem sit_same {dss:List (List Dd)}(hb:workB dss=true)(rows:List Int):(decide (rows.length=(seatsL (eventsB dss)).length)&&sitK (seatsL (eventsB dss)) rows rows.length)=rowsL (eventsB dss) rows:=by
 obtain⟨p0,f0⟩:=plcW_first hb 0 (by decide);obtain⟨p1,f1⟩:=plcW_first hb 1 (by decide);obtain⟨p2,f2⟩:=plcW_first hb 2 (by decide);have h12:=eventsB_12 dss;generalize eventsB dss=es at *;rw[Bool.eq_iff_iff,Bool.and_eq_true,decide_eq_true_eq,sitK_iff,seats_len];constructor
 ·
  rintro⟨hl,hs⟩;have hn:=nodup_of_take (fun i hi=>(hs i hi).2);have o0:=(part_sits (at0:=0) hn (plcW_nodup h12 0) p0 f0 (by omega)).2 (fun j hj=>by rw[←seats_0 hj];exact (hs _ (by omega)).1);have o1:=(part_sits (at0:=(plcW es 0).length) hn (plcW_nodup h12 1) p1 f1 (by omega)).2 (fun j hj=>by rw[←seats_1 hj];exact (hs _ (by omega)).1);have o2:=(part_sits (at0:=(plcW es 0).length+(plcW es 1).length) hn (plcW_nodup h12 2) p2 f2 (by omega)).2 (fun j hj=>by rw[←seats_2 hj];exact (hs _ (by omega)).1);unfold rowsL;rw[o0,o1,o2];simp only[Bool.true_and,decide_eq_true_eq];omega
 ·
  intro h;have hn:=(rows_use h12 h).1;unfold rowsL at h;simp only[Bool.and_eq_true,decide_eq_true_eq] at h;obtain⟨⟨⟨o0,o1⟩,o2⟩,hl⟩:=h;refine⟨by omega,fun i hi=>⟨?_,take_of_nodup hn hi⟩⟩;have q0:=(part_sits (at0:=0) hn (plcW_nodup h12 0) p0 f0 (by omega)).1 o0;have q1:=(part_sits (at0:=(plcW es 0).length) hn (plcW_nodup h12 1) p1 f1 (by omega)).1 o1;have q2:=(part_sits (at0:=(plcW es 0).length+(plcW es 1).length) hn (plcW_nodup h12 2) p2 f2 (by omega)).1 o2;by_cases c0:i<(plcW es 0).length
  ·
   have:=q0 i c0;rw[←seats_0 c0,Nat.zero_add] at this;exact this
  ·
   by_cases c1:i<(plcW es 0).length+(plcW es 1).length
   ·
    obtain⟨j,rfl⟩:∃j,i=(plcW es 0).length+j:=⟨i-(plcW es 0).length,by omega⟩;have hj:j<(plcW es 1).length:=by omega
    have:=q1 j hj;rw[←seats_1 hj] at this;exact this
   ·
    obtain⟨j,rfl⟩:∃j,i=(plcW es 0).length+(plcW es 1).length+j:=⟨i-((plcW es 0).length+(plcW es 1).length),by omega⟩;have hj:j<(plcW es 2).length:=by omega
    have:=q2 j hj;rw[←seats_2 hj] at this;exact this
def pwIn (es:List Ev)(rows:List Int)(i:Nat)(st:List Int):Nat→List Int
 | 0=>st
 |k+1=>if (plE es (rows.getD k 0)==plE es (rows.getD i 0))=true then (pwIn es rows i st k).set (rows.getD k 0).toNat (gAdd ((pwIn es rows i st k).getD (rows.getD k 0).toNat 0) (rows.getD i 0)) else pwIn es rows i st k
def pwAll (es:List Ev)(rows:List Int):Nat→List Int
 | 0=>List.replicate es.length 0
 |i+1=>pwIn es rows i (pwAll es rows i) i
theorem web_pwIn {es:List Ev}{rows:List Int}{n i:Nat}{st:List Int}(hr:∀j,j<rows.length→0≤rows.getD j 0∧rows.getD j 0<(n:Int))(hi:i<rows.length)(hst:Web n st):∀m:Nat,m≤i →
  Web n (pwIn es rows i st m)∧∀a b:Nat,a<n→(line (pwIn es rows i st m) a b=true↔line st a b=true∨∃q,q<m∧plE es (rows.getD q 0)=plE es (rows.getD i 0)∧rows.getD q 0=(a:Int)∧rows.getD i 0=(b:Int))
 | 0,_=>⟨hst,fun a b _=>by simp[pwIn]⟩
 |m+1,hm=>by
  obtain⟨h1,h2⟩:=web_pwIn (es:=es) hr hi hst m (by omega);by_cases hp:plE es (rows.getD m 0)=plE es (rows.getD i 0)
  ·
   obtain⟨a0,ha0⟩:=Int.eq_ofNat_of_zero_le (hr m (by omega)).1;obtain⟨b0,hb0⟩:=Int.eq_ofNat_of_zero_le (hr i hi).1;have ha:a0<n:=by have:=(hr m (by omega)).2;omega
   have hb:b0<n:=by have:=(hr i hi).2;omega
   have e0:pwIn es rows i st (m+1)=(pwIn es rows i st m).set a0 (gAdd ((pwIn es rows i st m).getD a0 0) (b0:Int)):=by rw[pwIn,if_pos (by simpa using hp),ha0,hb0,Int.toNat_natCast]
   rw[e0];have hadd:=ok_add (h1.2.2 a0 ha) hb;refine⟨h1.set hadd.1,fun a b haa=>?_⟩;have e1:=h2 a b haa;unfold line at e1 ⊢;rw[getD_set _ _ _ _ (by rw[h1.2.1];exact ha)];by_cases e:a0=a
   ·
    subst e;simp only[if_true];rw[hadd.2 b,Bool.or_eq_true,e1,decide_eq_true_eq];constructor
    ·
     rintro ((h|⟨q,hq,r1,r2,r3⟩)|h)
     · exact .inl h
     · exact .inr ⟨q,by omega,r1,r2,r3⟩
     · exact .inr ⟨m,by omega,hp,ha0,by rw[hb0,h]⟩
    ·
     rintro (h|⟨q,hq,r1,r2,r3⟩)
     · exact .inl (.inl h)
     ·
      right;rw[hb0] at r3;omega
   ·
    simp only[e,if_false];rw[e1];constructor
    ·
     rintro (h|⟨q,hq,r1,r2,r3⟩)
     · exact .inl h
     · exact .inr ⟨q,by omega,r1,r2,r3⟩
    ·
     rintro (h|⟨q,hq,r1,r2,r3⟩)
     · exact .inl h
     ·
      by_cases eq:q=m
      · exfalso;subst eq;rw[ha0] at r2;omega
      · exact .inr ⟨q,by omega,r1,r2,r3⟩
  ·
   have e0:pwIn es rows i st (m+1)=pwIn es rows i st m:=by rw[pwIn,if_neg (by simpa using hp)]
   rw[e0];refine⟨h1,fun a b ha=>?_⟩;rw[h2 a b ha];constructor
   ·
    rintro (h|⟨q,hq,r⟩)
    · exact .inl h
    · exact .inr ⟨q,by omega,r⟩
   ·
    rintro (h|⟨q,hq,r⟩)
    · exact .inl h
    ·
     by_cases e:q=m
     · subst e;exact absurd r.1 hp
     · exact .inr ⟨q,by omega,r⟩
theorem web_pwAll {es:List Ev}{rows:List Int}(hx:es.length≤12)(hr:∀j,j<rows.length→0≤rows.getD j 0∧rows.getD j 0<(es.length:Int)):∀m:Nat,m≤rows.length →
  Web es.length (pwAll es rows m)∧∀a b:Nat,a<es.length→(line (pwAll es rows m) a b=true↔∃i q,i<m∧q<i∧plE es (rows.getD q 0)=plE es (rows.getD i 0)∧rows.getD q 0=(a:Int)∧rows.getD i 0=(b:Int))
 | 0,_=>⟨Web.zero hx,fun a b _=>by unfold pwAll;rw[line_zero];simp⟩
 |m+1,hm=>by
  obtain⟨h1,h2⟩:=web_pwAll hx hr m (by omega);obtain⟨g1,g2⟩:=web_pwIn (es:=es) hr (show m<rows.length by omega) h1 m (Nat.le_refl _);refine⟨g1,fun a b ha=>?_⟩;show line (pwIn es rows m (pwAll es rows m) m) a b=true↔_;rw[g2 a b ha,h2 a b ha];constructor
  ·
   rintro (⟨i,q,hi,r⟩|⟨q,hq,r⟩)
   · exact⟨i,q,by omega,r⟩
   · exact⟨m,q,by omega,hq,r⟩
  ·
   rintro⟨i,q,hi,hq,r⟩;by_cases e:i=m
   · subst e;exact .inr ⟨q,hq,r⟩
   · exact .inl ⟨i,q,by omega,hq,r⟩
theorem pw_same {es:List Ev}{rows:List Int}(hx:es.length≤12)(hr:∀j,j<rows.length→0≤rows.getD j 0∧rows.getD j 0<(es.length:Int)):pwAll es rows rows.length=rwL es rows:=by
 obtain⟨a1,a2⟩:=web_pwAll hx hr rows.length (Nat.le_refl _);obtain⟨b1,b2⟩:=web_rwAll hx hr rows.length (Nat.le_refl _);unfold rwL;refine Web.ext a1 b1 (fun a b ha _=>?_);rw[Bool.eq_iff_iff,a2 a b ha,b2 a b ha];unfold rwP;constructor
 ·
  rintro⟨i,q,hi,hq,h1,h2,h3⟩;exact⟨q,i,by omega,hi,by rw[decide_eq_true hq,h1];simp,h2,h3⟩
 ·
  rintro⟨i,q,hi,hq,h1,h2,h3⟩;rw[Bool.and_eq_true,decide_eq_true_eq,beq_iff_eq] at h1;exact⟨q,i,hq,h1.1,h1.2,h2,h3⟩
theorem seat_rises {es:List Ev}(hx:es.length≤12){i:Nat}(hi:i<(seatsL es).length):((seatsL es).getD i []).Pairwise (·<·)∧((seatsL es).getD i []).length≤12:=by
 have at1:∀(p j:Nat),(seatAt (plcW es p) j).Pairwise (·<·)∧(seatAt (plcW es p) j).length≤12:=fun p j=>by
  have h1:(plcW es p).Pairwise (·<·):=by
   unfold plcW idxB;rw[if_pos hx];exact idxK_rises _ _ _
  have h2:=plcW_len hx p;unfold seatAt;split
  · exact⟨h1.sublist (List.take_sublist _ _),by rw[List.length_take];omega⟩
  · exact⟨h1.sublist (List.drop_sublist _ _),by rw[List.length_drop];omega⟩
 rw[seats_len] at hi;by_cases c0:i<(plcW es 0).length
 ·
  have:=seats_0 c0;rw[Nat.zero_add] at this;rw[this];exact at1 0 i
 ·
  by_cases c1:i<(plcW es 0).length+(plcW es 1).length
  ·
   obtain⟨j,rfl⟩:∃j,i=(plcW es 0).length+j:=⟨i-(plcW es 0).length,by omega⟩;rw[seats_1 (by omega)];exact at1 1 j
  ·
   obtain⟨j,rfl⟩:∃j,i=(plcW es 0).length+(plcW es 1).length+j:=⟨i-((plcW es 0).length+(plcW es 1).length),by omega⟩;rw[seats_2 (by omega)];exact at1 2 j
theorem seats_36 {es:List Ev}(hx:es.length≤12):(seatsL es).length≤36:=by
 rw[seats_len];have:=plcW_len hx 0;have:=plcW_len hx 1;have:=plcW_len hx 2;omega
theorem getD_zip (f:Int→Int→Int){n:Nat}{a b:List Int}(ha:a.length=n)(hb:b.length=n){i:Nat}(hi:i<n):(List.zipWith f a b).getD i 0=f (a.getD i 0) (b.getD i 0):=by
 rw[List.getD_eq_getElem?_getD,List.getElem?_zipWith,List.getD_eq_getElem?_getD,List.getD_eq_getElem?_getD,List.getElem?_eq_getElem (show i<a.length by omega),List.getElem?_eq_getElem (show i<b.length by omega)];rfl
theorem web_mix (f:Int→Int→Int)(hf:∀ {n:Nat} {s t:Int},okB n s=true→okB n t=true→okB n (f s t)=true){n:Nat}{a b:List Int}(ha:Web n a)(hb:Web n b):Web n (List.zipWith f a b):=by
 refine⟨ha.1,by rw[List.length_zipWith,ha.2.1,hb.2.1];omega,fun i hi=>?_⟩;rw[getD_zip f ha.2.1 hb.2.1 hi];exact hf (ha.2.2 i hi) (hb.2.2 i hi)
theorem mixL_web (f:Int→Int→Int){n:Nat}{a b:List Int}(ha:Web n a)(hb:Web n b):mixL f a b=List.zipWith f a b:=by
 unfold mixL;rw[if_pos (twoB_iff.2 ⟨by rw[ha.2.1,hb.2.1],ha.b,hb.b⟩)]
theorem web_join {n:Nat}{a b:List Int}(ha:Web n a)(hb:Web n b):Web n (mixL orI a b)∧∀i j,i<n→line (mixL orI a b) i j=(line a i j||line b i j):=by
 rw[mixL_web _ ha hb];refine⟨web_mix orI (fun h k=>(ok_or h k).1) ha hb,fun i j hi=>?_⟩;unfold line;rw[getD_zip orI ha.2.1 hb.2.1 hi];exact (ok_or (ha.2.2 i hi) (hb.2.2 i hi)).2 j
theorem web_less {n:Nat}{a b:List Int}(ha:Web n a)(hb:Web n b):Web n (mixL notI a b)∧∀i j,i<n→line (mixL notI a b) i j=(line a i j&&!line b i j):=by
 rw[mixL_web _ ha hb];refine⟨web_mix notI (fun h k=>(ok_not h k).1) ha hb,fun i j hi=>?_⟩;unfold line;rw[getD_zip notI ha.2.1 hb.2.1 hi];exact (ok_not (ha.2.2 i hi) (hb.2.2 i hi)).2 j
theorem web_then {n:Nat}{a b:List Int}(ha:Web n a)(hb:Web n b):Web n (thenL a b)∧∀i j,i<n→(line (thenL a b) i j=true↔∃k,k<n∧line a i k=true∧line b k j=true):=by
 have e:thenL a b=a.map (fun x=>thenS x b 12):=by
  unfold thenL;rw[if_pos (twoB_iff.2 ⟨by rw[ha.2.1,hb.2.1],ha.b,hb.b⟩)]
 have hg:∀i,i<n→(a.map (fun x=>thenS x b 12)).getD i 0=thenS (a.getD i 0) b 12:=by
  intro i hi;rw[List.getD_eq_getElem?_getD,List.getElem?_map,List.getD_eq_getElem?_getD,List.getElem?_eq_getElem (show i<a.length by rw[ha.2.1];exact hi)];rfl
 rw[e];refine⟨⟨ha.1,by simp[ha.2.1],fun i hi=>?_⟩,fun i j hi=>?_⟩
 · rw[hg i hi];exact (ok_then (ha.2.2 i hi) hb 12).1
 ·
  have h:=(ok_then (ha.2.2 i hi) hb 12).2 j;unfold line at h ⊢;rw[hg i hi,h];constructor
  · rintro⟨k,_,h1,h2⟩;exact⟨k,inSetB_iff (ha.2.2 i hi) h1,h1,h2⟩
  · rintro⟨k,hk,h1,h2⟩;exact⟨k,by have:=ha.1;omega,h1,h2⟩
theorem web_back {n:Nat}{a:List Int}(ha:Web n a):Web n (backL a)∧∀i j,i<n→j<n→line (backL a) i j=line a j i:=by
 have e:backL a=backAll a n:=by
  unfold backL;rw[if_pos ha.b,ha.2.1]
 rw[e];have h:=web_backAll ha n (Nat.le_refl _);exact⟨h.1,fun i j hi hj=>by rw[h.2 i j hi];simp[hj]⟩
inductive Way (zs:List Int):Nat→Nat→Prop
 |one {i j:Nat} (h:line zs i j=true):Way zs i j
 |more {i k j:Nat} (h:Way zs i k) (g:line zs k j=true):Way zs i j
theorem Way.trans {zs:List Int}{i k j:Nat}(h:Way zs i k)(g:Way zs k j):Way zs i j:=by
 induction g with
 |one g=>exact .more h g
 |more _ g ih=>exact .more ih g
theorem Way.lt {n:Nat}{zs:List Int}(hz:Web n zs){i j:Nat}(hi:i<n)(h:Way zs i j):j<n:=by
 induction h with
 |one g=>exact hz.lt hi g
 |more _ g ih=>exact hz.lt ih g
theorem wayAll_sound {n:Nat}{zs:List Int}(hz:Web n zs)(m:Nat)(hm:m≤n){i:Nat}(hi:i<n){j:Nat}(h:line (wayAll zs m) i j=true):Way zs i j:=by
 induction m generalizing i j with
 |zero=>exact .one h
 |succ m ih=>
  rw[line_wayAll hz m (by omega) hi,Bool.or_eq_true,Bool.and_eq_true] at h;rcases h with h|⟨h1,h2⟩
  · exact ih (by omega) hi h
  · exact (ih (by omega) hi h1).trans (ih (by omega) (by omega) h2)
theorem wayAll_mono {n:Nat}{zs:List Int}(hz:Web n zs)(m:Nat)(hm:m<n){i:Nat}(hi:i<n){j:Nat}(h:line (wayAll zs m) i j=true):line (wayAll zs (m+1)) i j=true:=by
 rw[line_wayAll hz m hm hi,h];rfl
theorem wayAll_meet {n:Nat}{zs:List Int}(hz:Web n zs)(m:Nat)(hm:m≤n){i k j:Nat}(hi:i<n)(hk:k<m)(h1:line (wayAll zs m) i k=true)(h2:line (wayAll zs m) k j=true):line (wayAll zs m) i j=true:=by
 induction m generalizing i k j with
 |zero=>omega
 |succ m ih=>
  have hmn:m<n:=by omega
  have ihm:=@ih (by omega);rw[line_wayAll hz m hmn hi,Bool.or_eq_true,Bool.and_eq_true] at h1;rw[line_wayAll hz m hmn (show k<n by omega),Bool.or_eq_true,Bool.and_eq_true] at h2;rw[line_wayAll hz m hmn hi,Bool.or_eq_true,Bool.and_eq_true];by_cases e:k=m
  ·
   subst e
   have h1':line (wayAll zs k) i k=true:=by
    rcases h1 with h|h
    · exact h
    · exact h.1
   have h2':line (wayAll zs k) k j=true:=by
    rcases h2 with h|h
    · exact h
    · exact h.2
   exact .inr ⟨h1',h2'⟩
  ·
   have hkm:k<m:=by omega
   rcases h1 with h1|⟨h1,h1'⟩<;>rcases h2 with h2|⟨h2,h2'⟩
   · exact .inl (ihm hi hkm h1 h2)
   · exact .inr ⟨ihm hi hkm h1 h2,h2'⟩
   · exact .inr ⟨h1,ihm hmn hkm h1' h2⟩
   · exact .inr ⟨h1,h2'⟩
theorem ways_eq {n:Nat}{zs:List Int}(hz:Web n zs):waysL zs=wayAll zs n:=by
 unfold waysL;rw[if_pos hz.b,hz.2.1]
theorem web_ways {n:Nat}{zs:List Int}(hz:Web n zs):Web n (waysL zs):=by rw[ways_eq hz];exact web_wayAll hz n (Nat.le_refl _)
theorem wayAll_old {n:Nat}{zs:List Int}(hz:Web n zs)(m:Nat)(hm:m≤n){i:Nat}(hi:i<n){j:Nat}(h:line zs i j=true):line (wayAll zs m) i j=true:=by
 induction m with
 |zero=>exact h
 |succ m ih=>exact wayAll_mono hz m (by omega) hi (ih (by omega))
theorem ways_line {n:Nat}{zs:List Int}(hz:Web n zs){i:Nat}(hi:i<n){j:Nat}:line (waysL zs) i j=true↔Way zs i j:=by
 rw[ways_eq hz];constructor
 · exact wayAll_sound hz n (Nat.le_refl _) hi
 ·
  intro h
  induction h with
  |one g=>exact wayAll_old hz n (Nat.le_refl _) hi g
  |more h g ih=>
   have hk:=h.lt hz hi;exact wayAll_meet hz n (Nat.le_refl _) hi hk ih (wayAll_old hz n (Nat.le_refl _) hk g)
theorem countP_lt {p q:Nat→Bool}{l:List Nat}(h:∀x∈l,p x=true→q x=true){y:Nat}(hy:y∈l)(h1:p y=false)(h2:q y=true):l.countP p<l.countP q:=by
 induction l with
 |nil=>simp at hy
 |cons a l ih=>
  have hle:l.countP p≤l.countP q:=List.countP_mono_left fun x hx hp=>h x (by simp[hx]) hp
  rw[List.countP_cons,List.countP_cons];rcases List.mem_cons.1 hy with rfl|hy
  · simp[h1,h2];omega
  ·
   have:=ih (fun x hx=>h x (by simp[hx])) hy;have ha:=h a (by simp)
   cases hp:p a with
   |false=>simp;split<;>omega
   |true=>rw[ha hp];simp;omega
def roundB (zs:List Int):Bool:=webB zs&&(List.range zs.length).any fun i=>line (waysL zs) i i
def mayB (zs:List Int)(done:Int)(i:Nat):Bool:=!inSetB done i&&(notI ((backL zs).getD i 0) done==0)
def pick (zs:List Int)(done:Int):Nat→Int
 | 0=>-1
 |m+1=>if 0≤pick zs done m then pick zs done m else if mayB zs done m=true then (m:Int) else -1
def sortK (zs:List Int):Nat→Option (List Int×Int)
 | 0=>some ([],0)
 |k+1=>match sortK zs k with
  |none=>none
  |some (l,d)=>if pick zs d zs.length<0 then none else some (l++[pick zs d zs.length],gAdd d (pick zs d zs.length))
def sortedO (zs:List Int):Option (List Int×Int):=if webB zs=true then sortK zs zs.length else none
def sortedL (zs:List Int):List Int:=match sortedO zs with
 |none=>[]
 |some (l,_)=>l
def sortedB (zs:List Int):Bool:=(sortedO zs).isSome
theorem round_iff {n:Nat}{zs:List Int}(hz:Web n zs):roundB zs=true↔∃i,i<n∧Way zs i i:=by
 unfold roundB;rw[hz.b,Bool.true_and,List.any_eq_true,hz.2.1];constructor
 · rintro⟨i,hi,h⟩;exact⟨i,List.mem_range.1 hi,(ways_line hz (List.mem_range.1 hi)).1 h⟩
 · rintro⟨i,hi,h⟩;exact⟨i,List.mem_range.2 hi,(ways_line hz hi).2 h⟩
theorem pick_spec (zs:List Int)(d:Int)(m:Nat):(pick zs d m=-1∧∀i,i<m→mayB zs d i=false)∨∃i,i<m∧pick zs d m=(i:Int)∧mayB zs d i=true∧∀j,j<i→mayB zs d j=false:=by
 induction m with
 |zero=>exact .inl ⟨rfl,fun i hi=>by omega⟩
 |succ m ih=>
  unfold pick;rcases ih with ⟨h,hall⟩|⟨i,hi,h,hm,hl⟩
  ·
   rw[h,if_neg (by omega)]
   cases hb:mayB zs d m with
   |false=>
    refine .inl ⟨by simp,fun i hi=>?_⟩;by_cases e:i=m
    · rw[e];exact hb
    · exact hall i (by omega)
   |true=>exact .inr ⟨m,by omega,by simp,hb,hall⟩
  ·
   rw[h,if_pos (by omega)];exact .inr ⟨i,by omega,rfl,hm,hl⟩
theorem may_iff {n:Nat}{zs:List Int}(hz:Web n zs){d:Int}(hd:okB n d=true){i:Nat}(hi:i<n):mayB zs d i=true↔inSetB d i=false∧∀j,j<n→line zs j i=true→inSetB d j=true:=by
 have hb:=web_back hz;have ho:=ok_not (hb.1.2.2 i hi) hd;unfold mayB;rw[Bool.and_eq_true,Bool.not_eq_true',beq_iff_eq];refine and_congr_right fun _=>?_
 constructor
 ·
  intro h j hj hl;have h1:=ho.2 j;rw[h,zero_bit] at h1;have h2:inSetB ((backL zs).getD i 0) j=true:=by have:=hb.2 i j hi hj;unfold line at this hl;rw[this];exact hl
  rw[h2] at h1
  cases h3:inSetB d j with
  |true=>rfl
  |false=>rw[h3] at h1;cases h1
 ·
  intro h;refine ok_ext ho.1 (ok_zero hz.1) fun j hj=>?_
  rw[ho.2 j,zero_bit]
  cases h2:inSetB ((backL zs).getD i 0) j with
  |false=>rfl
  |true=>
   have:line zs j i=true:=by have e:=hb.2 i j hi hj;unfold line at e ⊢;rw[←e];exact h2
   rw[h j hj this];rfl
structure Stands (zs:List Int)(n k:Nat)(l:List Int)(d:Int):Prop where
 ok:okB n d=true
 len:l.length=k
 mem:∀j:Nat,j<n→(inSetB d j=true↔(j:Int)∈l)
 low:∀x∈l,∃j:Nat,x=j∧j<n
 once:l.Nodup
 ahead:∀p,p<l.length→∀i j:Nat,l.getD p 0=(i:Int)→j<n→line zs j i=true→(j:Int)∈l.take p
theorem sort_stands {n:Nat}{zs:List Int}(hz:Web n zs)(k:Nat){l:List Int}{d:Int}(h:sortK zs k=some (l,d)):Stands zs n k l d:=by
 induction k generalizing l d with
 |zero=>
  simp only[sortK,Option.some.injEq,Prod.mk.injEq] at h;obtain⟨rfl,rfl⟩:=h;exact⟨ok_zero hz.1,rfl,fun j _=>by rw[zero_bit];simp,by simp,List.nodup_nil,fun p hp=>by simp at hp⟩
 |succ k ih=>
  unfold sortK at h
  cases hs:sortK zs k with
  |none=>rw[hs] at h;cases h
  |some q=>
   obtain⟨l0,d0⟩:=q;rw[hs] at h;have S:=ih hs;simp only at h;split at h
   · cases h
   ·
    rename_i hneg;simp only[Option.some.injEq,Prod.mk.injEq] at h;obtain⟨rfl,rfl⟩:=h;rcases pick_spec zs d0 zs.length with ⟨e,_⟩|⟨i,hi,e,hm,_⟩
    · rw[e] at hneg;omega
    ·
     rw[hz.2.1] at hi;rw[e];have hmi:=(may_iff hz S.ok hi).1 hm;have ha:=ok_add S.ok hi
     have hnot:¬(i:Int)∈l0:=fun hin=>by
      have:=(S.mem i hi).2 hin;rw[hmi.1] at this;cases this
     refine⟨ha.1,by simp[S.len],fun j hj=>?_,fun x hx=>?_,?_,fun p hp a b hab hb hl=>?_⟩
     ·
      rw[ha.2 j,Bool.or_eq_true,S.mem j hj,List.mem_append,List.mem_singleton,decide_eq_true_eq];constructor
      ·
       rintro (h|h)
       · exact .inl h
       · exact .inr (by rw[h])
      ·
       rintro (h|h)
       · exact .inl h
       · exact .inr (by omega)
     ·
      rcases List.mem_append.1 hx with hx|hx
      · exact S.low x hx
      · rw[List.mem_singleton] at hx;exact⟨i,hx,hi⟩
     ·
      rw[List.nodup_append];refine⟨S.once,by simp,fun a ha b hb=>?_⟩;rw[List.mem_singleton] at hb;subst hb;intro e2;subst e2;exact hnot ha
     ·
      by_cases hpl:p<l0.length
      ·
       rw[List.getD_eq_getElem?_getD,List.getElem?_append_left hpl,←List.getD_eq_getElem?_getD] at hab;rw[List.take_append_of_le_length (by omega)];exact S.ahead p hpl a b hab hb hl
      ·
       have hpe:p=l0.length:=by simp at hp;omega
       subst hpe;rw[List.getD_eq_getElem?_getD,List.getElem?_append_right (Nat.le_refl _),Nat.sub_self] at hab;have hai:i=a:=by simp at hab;omega
       subst hai;rw[List.take_append_of_le_length (Nat.le_refl _),List.take_length];exact (S.mem b hb).1 (hmi.2 b hb hl)
theorem at_of_mem {l:List Int}{x:Int}(h:x∈l):∃p,p<l.length∧l.getD p 0=x:=by
 obtain⟨p,hp,e⟩:=List.getElem_of_mem h;exact⟨p,hp,by rw[List.getD_eq_getElem?_getD,List.getElem?_eq_getElem hp];exact e⟩
theorem at_one {l:List Int}(h:l.Nodup){p q:Nat}(hp:p<l.length)(hq:q<l.length)(e:l.getD p 0=l.getD q 0):p=q:=by
 rw[List.getD_eq_getElem?_getD,List.getD_eq_getElem?_getD,List.getElem?_eq_getElem hp,List.getElem?_eq_getElem hq] at e;simp only[Option.getD_some] at e;have hp2:=List.pairwise_iff_getElem.1 (List.nodup_iff_pairwise_ne.1 h);apply Classical.byContradiction;intro hne;by_cases hlt:p<q
 · exact hp2 p q hp hq hlt e
 · exact hp2 q p hq hp (by omega) e.symm
theorem at_take {l:List Int}{x:Int}{p:Nat}(h:x∈l.take p):∃q,q<p∧q<l.length∧l.getD q 0=x:=by
 obtain⟨q,hq,e⟩:=List.getElem_of_mem h;rw[List.length_take] at hq;refine⟨q,by omega,by omega,?_⟩;rw[List.getElem_take] at e;rw[List.getD_eq_getElem?_getD,List.getElem?_eq_getElem (show q<l.length by omega)];exact e
theorem nodup_sub_len {a b:List Int}(h:a.Nodup)(hs:∀x∈a,x∈b):a.length≤b.length:=by
 induction a generalizing b with
 |nil=>simp
 |cons x a ih=>
  rw[List.nodup_cons] at h;have hx:=hs x (by simp);have:=ih (b:=b.erase x) h.2 (fun y hy=>(List.mem_erase_of_ne (fun e=>h.1 (by rw[←e];exact hy))).2 (hs y (by simp[hy])));rw[List.length_erase_of_mem hx] at this;have:=List.length_pos_of_mem hx;simp;omega
theorem all_in {n:Nat}{l:List Int}(hl:l.length=n)(hlow:∀x∈l,∃j:Nat,x=j∧j<n)(h1:l.Nodup){j:Nat}(hj:j<n):(j:Int)∈l:=by
 apply Classical.byContradiction;intro hno
 have hsub:∀x∈l,x∈((List.range n).erase j).map (fun k:Nat=>(k:Int)):=by
  intro x hx;obtain⟨k,rfl,hk⟩:=hlow x hx;rw[List.mem_map];refine⟨k,?_,rfl⟩;rw[List.Nodup.mem_erase_iff List.nodup_range];exact⟨fun e=>hno (by rw[←e];exact hx),List.mem_range.2 hk⟩
 have hle:=nodup_sub_len h1 hsub;rw[List.length_map,List.length_erase_of_mem (List.mem_range.2 hj),List.length_range,hl] at hle;omega
theorem sorted_no_round {n:Nat}{zs:List Int}(hz:Web n zs){l:List Int}{d:Int}(h:sortK zs n=some (l,d)):roundB zs=false:=by
 have S:=sort_stands hz n h
 have hw:∀i j,i<n→Way zs i j→∀p q,p<l.length→q<l.length→l.getD p 0=(i:Int)→l.getD q 0=(j:Int)→p<q:=by
  intro i j hi w
  induction w with
  |one g=>
   intro p q hp hq ep eq;obtain⟨p',h1,h2,h3⟩:=at_take (S.ahead q hq _ _ eq hi g);have:=at_one S.once hp h2 (by rw[ep,h3]);omega
  |more w g ih=>
   intro p q hp hq ep eq;have hk:=w.lt hz hi;obtain⟨r,h1,h2,h3⟩:=at_take (S.ahead q hq _ _ eq hk g);have:=ih p r hp h2 ep h3;omega
 cases hr:roundB zs with
 |false=>rfl
 |true=>
  obtain⟨i,hi,w⟩:=(round_iff hz).1 hr;obtain⟨p,hp,e⟩:=at_of_mem (all_in S.len S.low S.once hi);have:=hw i i hi w p p hp hp e e;omega
def leads (zs:List Int)(n i:Nat):Nat:=(List.range n).countP fun j=>line (waysL zs) j i
theorem may_some {n:Nat}{zs:List Int}(hz:Web n zs)(hr:roundB zs=false){d:Int}(hd:okB n d=true)(m:Nat):∀i,i<n→leads zs n i≤m→inSetB d i=false→∃j,j<n∧mayB zs d j=true:=by
 have nr:∀i,i<n→¬Way zs i i:=fun i hi w=>by
  have:=(round_iff hz).2 ⟨i,hi,w⟩;rw[hr] at this;cases this
 induction m with
 |zero=>
  intro i hi hm hn;refine⟨i,hi,(may_iff hz hd hi).2 ⟨hn,fun j hj hl=>?_⟩⟩;exfalso;have h0:(List.range n).countP (fun j=>line (waysL zs) j i)=0:=by unfold leads at hm;omega
  rw[List.countP_eq_zero] at h0;exact h0 j (List.mem_range.2 hj) ((ways_line hz hj).2 (.one hl))
 |succ m ih=>
  intro i hi hm hn;by_cases hall:∀j,j<n→line zs j i=true→inSetB d j=true
  · exact⟨i,hi,(may_iff hz hd hi).2 ⟨hn,hall⟩⟩
  ·
   obtain⟨j,hj,hl,hdj⟩:∃j,j<n∧line zs j i=true∧inSetB d j=false:=by
    apply Classical.byContradiction;intro hno;apply hall;intro j hj hl
    cases hdj:inSetB d j with
    |true=>rfl
    |false=>exact absurd ⟨j,hj,hl,hdj⟩ hno
   refine ih j hj ?_ hdj
   have hlt:leads zs n j<leads zs n i:=by
    refine countP_lt (fun k hk hp=>?_) (List.mem_range.2 hj) ?_ ?_
    ·
     have hk:=List.mem_range.1 hk;exact (ways_line hz hk).2 (((ways_line hz hk).1 hp).trans (.one hl))
    ·
     cases h:line (waysL zs) j j with
     |false=>rfl
     |true=>exact absurd ((ways_line hz hj).1 h) (nr j hj)
    · exact (ways_line hz hj).2 (.one hl)
   omega
theorem sort_goes {n:Nat}{zs:List Int}(hz:Web n zs)(hr:roundB zs=false)(k:Nat)(hk:k≤n):∃l d,sortK zs k=some (l,d):=by
 induction k with
 |zero=>exact⟨[],0,rfl⟩
 |succ k ih=>
  obtain⟨l,d,hs⟩:=ih (by omega);have S:=sort_stands hz k hs
  obtain⟨i,hi,hn⟩:∃i,i<n∧inSetB d i=false:=by
   apply Classical.byContradiction;intro hno
   have hsub:∀x∈(List.range n).map (fun k:Nat=>(k:Int)),x∈l:=by
    intro x hx;rw[List.mem_map] at hx;obtain⟨j,hj,rfl⟩:=hx;have hj:=List.mem_range.1 hj;refine (S.mem j hj).1 ?_
    cases h:inSetB d j with
    |true=>rfl
    |false=>exact absurd ⟨j,hj,h⟩ hno
   have hnd:((List.range n).map (fun k:Nat=>(k:Int))).Nodup:=by
    rw[List.nodup_iff_pairwise_ne,List.pairwise_map];exact List.Pairwise.imp (fun h e=>h (by omega)) List.nodup_range
   have hle:=nodup_sub_len hnd hsub;rw[List.length_map,List.length_range,S.len] at hle;omega
  obtain⟨j,hj,hm⟩:=may_some hz hr S.ok _ i hi (Nat.le_refl _) hn;unfold sortK;rw[hs];simp only;rcases pick_spec zs d zs.length with ⟨_,hall⟩|⟨a,_,e,_,_⟩
  ·
   have:=hall j (by rw[hz.2.1];exact hj);rw[this] at hm;cases hm
  ·
   rw[if_neg (by omega)];exact⟨_,_,rfl⟩
theorem sorted_iff {n:Nat}{zs:List Int}(hz:Web n zs):sortedB zs=!roundB zs:=by
 have e:sortedO zs=sortK zs n:=by unfold sortedO;rw[if_pos hz.b,hz.2.1]
 unfold sortedB;rw[e]
 cases hr:roundB zs with
 |false=>obtain⟨l,d,h⟩:=sort_goes hz hr n (Nat.le_refl _);rw[h];rfl
 |true=>
  cases h:sortK zs n with
  |none=>rfl
  |some q=>obtain⟨l,d⟩:=q;have:=sorted_no_round hz h;rw[hr] at this;cases this
theorem mem_take_step {l:List Int}{m:Nat}(hm:m<l.length)(x:Int):x∈l.take (m+1)↔x∈l.take m∨x=l.getD m 0:=by
 rw[take_snoc l m hm,List.mem_append,List.mem_singleton]
def liftA (zs cl:List Int)(c:Int):Nat→Int
 | 0=>0
 |m+1=>if cl.getD m 0=c then orI (liftA zs cl c m) (zs.getD m 0) else liftA zs cl c m
def hitB (cl:List Int)(c all:Int):Nat→Bool
 | 0=>false
 |m+1=>hitB cl c all m||(decide (cl.getD m 0=c)&&inSetB all m)
def liftR (zs cl:List Int)(c:Int):Nat→Int
 | 0=>0
 |m+1=>if cl.getD m 0=c then liftR zs cl c m else if hitB cl (cl.getD m 0) (liftA zs cl c zs.length) zs.length=true then gAdd (liftR zs cl c m) m else liftR zs cl c m
def liftL (zs cl:List Int):List Int:=if webB zs=true∧cl.length=zs.length then cl.map (fun c=>liftR zs cl c zs.length) else []
theorem ok_liftA {n:Nat}{zs:List Int}(hz:Web n zs)(cl:List Int)(c:Int)(m:Nat)(hm:m≤n):okB n (liftA zs cl c m)=true∧∀j:Nat,inSetB (liftA zs cl c m) j=true↔∃a,a<m∧cl.getD a 0=c∧line zs a j=true:=by
 induction m with
 |zero=>exact⟨ok_zero hz.1,fun j=>by rw[show liftA zs cl c 0=0 from rfl,zero_bit];simp⟩
 |succ m ih=>
  have ih:=ih (by omega);unfold liftA;by_cases hc:cl.getD m 0=c
  ·
   have ho:=ok_or ih.1 (hz.2.2 m (by omega));rw[if_pos hc];refine⟨ho.1,fun j=>?_⟩;rw[ho.2 j,Bool.or_eq_true,ih.2 j];constructor
   ·
    rintro (⟨a,h1,h2,h3⟩|h)
    · exact⟨a,by omega,h2,h3⟩
    · exact⟨m,by omega,hc,h⟩
   ·
    rintro⟨a,h1,h2,h3⟩;by_cases e:a=m
    · subst e;exact .inr h3
    · exact .inl ⟨a,by omega,h2,h3⟩
  ·
   rw[if_neg hc];refine⟨ih.1,fun j=>?_⟩;rw[ih.2 j];constructor
   · rintro⟨a,h1,h2,h3⟩;exact⟨a,by omega,h2,h3⟩
   ·
    rintro⟨a,h1,h2,h3⟩;have:a≠m:=fun e=>hc (by rw[←e];exact h2)
    exact⟨a,by omega,h2,h3⟩
theorem hit_iff (cl:List Int)(c all:Int)(m:Nat):hitB cl c all m=true↔∃b,b<m∧cl.getD b 0=c∧inSetB all b=true:=by
 induction m with
 |zero=>simp[hitB]
 |succ m ih=>
  unfold hitB;rw[Bool.or_eq_true,Bool.and_eq_true,decide_eq_true_eq,ih];constructor
  ·
   rintro (⟨b,h1,h2,h3⟩|⟨h2,h3⟩)
   · exact⟨b,by omega,h2,h3⟩
   · exact⟨m,by omega,h2,h3⟩
  ·
   rintro⟨b,h1,h2,h3⟩;by_cases e:b=m
   · subst e;exact .inr ⟨h2,h3⟩
   · exact .inl ⟨b,by omega,h2,h3⟩
theorem ok_liftR {n:Nat}{zs:List Int}(hz:Web n zs)(cl:List Int)(c:Int)(m:Nat)(hm:m≤n):
  okB n (liftR zs cl c m)=true∧∀j:Nat,inSetB (liftR zs cl c m) j=true↔j<m∧cl.getD j 0≠c∧∃a b,a<n∧b<n∧cl.getD a 0=c∧cl.getD b 0=cl.getD j 0∧line zs a b=true:=by
 induction m with
 |zero=>exact⟨ok_zero hz.1,fun j=>by rw[show liftR zs cl c 0=0 from rfl,zero_bit];simp⟩
 |succ m ih=>
  have ih:=ih (by omega);have hA:=ok_liftA hz cl c n (Nat.le_refl _)
  have hH:hitB cl (cl.getD m 0) (liftA zs cl c zs.length) zs.length=true↔∃a b,a<n∧b<n∧cl.getD a 0=c∧cl.getD b 0=cl.getD m 0∧line zs a b=true:=by
   rw[hit_iff,hz.2.1];constructor
   ·
    rintro⟨b,h1,h2,h3⟩;obtain⟨a,h4,h5,h6⟩:=(hA.2 b).1 h3;exact⟨a,b,h4,h1,h5,h2,h6⟩
   ·
    rintro⟨a,b,h1,h2,h3,h4,h5⟩;exact⟨b,h2,h4,(hA.2 b).2 ⟨a,h1,h3,h5⟩⟩
  unfold liftR;by_cases hc:cl.getD m 0=c
  ·
   rw[if_pos hc];refine⟨ih.1,fun j=>?_⟩;rw[ih.2 j];constructor
   · rintro⟨h1,h2⟩;exact⟨by omega,h2⟩
   ·
    rintro⟨h1,h2,h3⟩;have:j≠m:=fun e=>h2 (by rw[e];exact hc)
    exact⟨by omega,h2,h3⟩
  ·
   rw[if_neg hc];by_cases hh:hitB cl (cl.getD m 0) (liftA zs cl c zs.length) zs.length=true
   ·
    rw[if_pos hh];have ha:=ok_add ih.1 (show m<n by omega);refine⟨ha.1,fun j=>?_⟩;rw[ha.2 j,Bool.or_eq_true,ih.2 j,decide_eq_true_eq];constructor
    ·
     rintro (⟨h1,h2⟩|h)
     · exact⟨by omega,h2⟩
     · subst h;exact⟨by omega,hc,hH.1 hh⟩
    ·
     rintro⟨h1,h2⟩;by_cases e:m=j
     · exact .inr e
     · exact .inl ⟨by omega,h2⟩
   ·
    rw[if_neg hh];refine⟨ih.1,fun j=>?_⟩;rw[ih.2 j];constructor
    · rintro⟨h1,h2⟩;exact⟨by omega,h2⟩
    ·
     rintro⟨h1,h2,h3⟩;have:j≠m:=fun e=>hh (hH.2 (by rw[←e];exact h3))
     exact⟨by omega,h2,h3⟩
theorem web_lift {n:Nat}{zs cl:List Int}(hz:Web n zs)(hc:cl.length=n):Web n (liftL zs cl) ∧
  (∀i,i<n→(liftL zs cl).getD i 0=liftR zs cl (cl.getD i 0) n) ∧
  ∀i j,i<n→(line (liftL zs cl) i j=true↔j<n∧cl.getD j 0≠cl.getD i 0∧∃a b,a<n∧b<n∧cl.getD a 0=cl.getD i 0∧cl.getD b 0=cl.getD j 0∧line zs a b=true):=by
 have e:liftL zs cl=cl.map (fun c=>liftR zs cl c n):=by unfold liftL;rw[if_pos ⟨hz.b,by rw[hc,hz.2.1]⟩,hz.2.1]
 have hg:∀i,i<n→(cl.map (fun c=>liftR zs cl c n)).getD i 0=liftR zs cl (cl.getD i 0) n:=by
  intro i hi;rw[List.getD_eq_getElem?_getD,List.getElem?_map,List.getD_eq_getElem?_getD,List.getElem?_eq_getElem (show i<cl.length by omega)];rfl
 rw[e];refine⟨⟨hz.1,by simp[hc],fun i hi=>?_⟩,hg,fun i j hi=>?_⟩
 · rw[hg i hi];exact (ok_liftR hz cl _ n (Nat.le_refl _)).1
 ·
  unfold line;rw[hg i hi];exact (ok_liftR hz cl _ n (Nat.le_refl _)).2 j
theorem liftL_len (zs cl:List Int):(liftL zs cl).length≤12:=by
 unfold liftL;split
 · rename_i h;have:=webB_len h.1;simp;omega
 · simp
theorem rw_way {es:List Ev}{rows:List Int}(hx:es.length≤12)(h:rowsL es rows=true){a b:Nat}(ha:a<es.length)(hw:Way (rwL es rows) a b):∃i k,i<k∧k<rows.length∧rows.getD i 0=(a:Int)∧rows.getD k 0=(b:Int):=by
 obtain⟨hn,_,hr⟩:=rows_use hx h;obtain⟨h1,h2⟩:=web_rwAll hx hr rows.length (Nat.le_refl _)
 have step:∀x y,x<es.length→line (rwL es rows) x y=true→∃i k,i<k∧k<rows.length∧rows.getD i 0=(x:Int)∧rows.getD k 0=(y:Int):=fun x y hx' hl=>by
  obtain⟨i,q,hi,hq,hp,e1,e2⟩:=(h2 x y hx').1 hl;unfold rwP at hp;simp only[Bool.and_eq_true,decide_eq_true_eq] at hp;exact⟨i,q,hp.1,hq,e1,e2⟩
 induction hw with
 |one g=>exact step _ _ ha g
 |more g l ih=>
  obtain⟨i,k,hik,hk,e1,e2⟩:=ih;obtain⟨i',k',hik',hk',e1',e2'⟩:=step _ _ (g.lt h1 ha) l;have:=nodup_get hn (p:=k) (q:=i') hk (by omega) (by rw[e2,e1']);subst this;exact⟨i,k',by omega,hk',e1,e2'⟩
theorem rw_round {es:List Ev}{rows:List Int}(hx:es.length≤12)(h:rowsL es rows=true):roundB (rwL es rows)=false:=by
 obtain⟨hn,_,hr⟩:=rows_use hx h;have h1:=(web_rwAll hx hr rows.length (Nat.le_refl _)).1
 cases hq:roundB (rwL es rows) with
 |false=>rfl
 |true=>
  exfalso;obtain⟨a,ha,hw⟩:=(round_iff h1).1 hq;obtain⟨i,k,hik,hk,e1,e2⟩:=rw_way hx h ha hw;have:=nodup_get hn (p:=i) (q:=k) (by omega) hk (by rw[e1,e2]);omega
theorem row_all {dss:List (List Dd)}{n:Int}(h0:0≤n)(h1:n<rcntB dss):
  workB dss=true∧rowsB dss (ratB dss n)=true∧(ratB dss n).length≤36∧(rwB dss (ratB dss n)).length=(eventsB dss).length∧roundB (rwB dss (ratB dss n))=false ∧
  (∀i,i<(ratB dss n).length→∃a:Nat,(ratB dss n).getD i 0=(a:Int)∧a<(eventsB dss).length) ∧
  (∀i k a b:Nat,i<(ratB dss n).length→k<(ratB dss n).length→(ratB dss n).getD i 0=(a:Int)→(ratB dss n).getD k 0=(b:Int)→inSetB ((rwB dss (ratB dss n)).getD a 0) b=(((eventsB dss).getD a zE).2.2.2.1==((eventsB dss).getD b zE).2.2.2.1&&decide (i<k))) ∧
  ∀m,0≤m→m<rcntB dss→decide (ratB dss m=ratB dss n)=decide (m=n):=by
 have hb:workB dss=true:=by
  cases hb:workB dss with
  |true=>rfl
  |false=>rw[rcntB,hb] at h1;simp at h1;omega
 have hx:=eventsB_12 dss;have hc:rcntB dss=rcntL (eventsB dss):=by rw[rcntB,if_pos hb]
 have ha:∀m,0≤m→m<rcntB dss→ratB dss m=ratL (eventsB dss) m:=fun m g0 g1=>by unfold ratB;rw[if_pos ⟨g0,g1⟩]
 have hs:rowsL (eventsB dss) (ratB dss n)=true:=by rw[ha n h0 h1];exact rat_ok hb h0 (by rw[←hc];exact h1)
 have hso:rowsB dss (ratB dss n)=true:=by rw[rowsB,hb,hs];rfl
 have hw:rwB dss (ratB dss n)=rwL (eventsB dss) (ratB dss n):=by rw[rwB,if_pos hso]
 obtain⟨hn,hl,hr⟩:=rows_use hx hs;have h12:=(web_rwAll hx hr (ratB dss n).length (Nat.le_refl _)).1;refine⟨hb,hso,hl,by rw[hw];exact h12.2.1,by rw[hw];exact rw_round hx hs,fun i hi=>?_,fun i k a b hi hk ea eb=>?_,fun m g0 g1=>?_⟩
 ·
  obtain⟨r0,r1⟩:=hr i hi;obtain⟨a,e⟩:=Int.eq_ofNat_of_zero_le r0;exact⟨a,e,by omega⟩
 ·
  have:=row_cell hx hs hi hk;rw[ea,eb,Int.toNat_natCast,Int.toNat_natCast] at this;rw[hw];unfold line at this;rw[this];unfold rwP plE;rw[ea,eb,Int.toNat_natCast,Int.toNat_natCast,Bool.and_comm]
 ·
  rw[ha m g0 g1,ha n h0 h1];rw[hc] at h1 g1;refine decide_eq_decide.2 ⟨fun e=>rat_inj hb h0 h1 g0 g1 e,fun e=>by rw[e]⟩
theorem idxB_range {f:Ev→Bool}{es:List Ev}(hx:es.length≤12){i:Nat}(hi:i<(idxB f es).length):0≤(idxB f es).getD i 0∧(idxB f es).getD i 0<(es.length:Int):=by
 have hm:(idxB f es).getD i 0∈idxB f es:=by
  rw[List.getD_eq_getElem?_getD,List.getElem?_eq_getElem hi];exact List.getElem_mem hi
 unfold idxB at hm ⊢;rw[if_pos hx] at hm ⊢;exact idxK_lt f es _ _ hm
theorem rises_nodup:∀l:List Int,l.Pairwise (·<·)→l.Nodup:=fun l h=>h.imp (fun h e=>by omega)
theorem src_all {dss:List (List Dd)}{n:Int}(h0:0≤n)(h1:n<cntB dss):
  workB dss=true∧sourceB dss (atB dss n)=true∧(fwB dss (atB dss n)).length=(eventsB dss).length∧(idxB rdE (eventsB dss)).length≤12∧(atB dss n).length=(idxB rdE (eventsB dss)).length ∧
  memN (fwB dss (atB dss n)) (eventsB dss).length=(idxB rdE (eventsB dss)).length ∧
  (∀i,i<(idxB rdE (eventsB dss)).length→∃a j:Nat,(atB dss n).getD i 0=(a:Int)∧(idxB rdE (eventsB dss)).getD i 0=(j:Int)∧a<(eventsB dss).length∧j<(eventsB dss).length∧inSetB ((fwB dss (atB dss n)).getD a 0) j=true∧((eventsB dss).getD a zE).2.2.2.1=((eventsB dss).getD j zE).2.2.2.1) ∧
  ∀m,0≤m→m<cntB dss→decide (atB dss m=atB dss n)=decide (m=n):=by
 have hb:workB dss=true:=by
  cases hb:workB dss with
  |true=>rfl
  |false=>rw[cntB,hb] at h1;simp at h1;omega
 have hx:=eventsB_le dss;obtain⟨hf,hn⟩:=chc_full hb;have hc:cntB dss=cntK (chcL (eventsB dss)) (chcL (eventsB dss)).length:=by rw[cntB,if_pos hb]
 have ha:∀m,0≤m→m<cntB dss→atB dss m=atL (chcL (eventsB dss)) m:=fun m g0 g1=>by unfold atB;rw[if_pos ⟨g0,g1⟩]
 have hs:srcB (chcL (eventsB dss)) (atB dss n)=true:=by rw[ha n h0 h1];exact at_src hf n
 have hso:sourceB dss (atB dss n)=true:=by rw[sourceB,hb,hs];rfl
 obtain⟨sl,su⟩:=src_use hx hs;have hw:fwB dss (atB dss n)=fwK (eventsB dss).length (idxB rdE (eventsB dss)) (atB dss n) (idxB rdE (eventsB dss)).length:=by rw[fwB,if_pos hso];rfl
 have rr:∀i,i<(idxB rdE (eventsB dss)).length→0≤(idxB rdE (eventsB dss)).getD i 0∧(idxB rdE (eventsB dss)).getD i 0<((eventsB dss).length:Int):=fun i hi=>idxB_range hx hi
 have hnd:(idxB rdE (eventsB dss)).Nodup:=by
  unfold idxB;rw[if_pos hx];exact rises_nodup _ (idxK_rises rdE _ _)
 have l12:(idxB rdE (eventsB dss)).length≤12:=by
  unfold idxB;rw[if_pos hx];have:=idxK_len rdE (eventsB dss) (eventsB dss).length;omega
 have fl:=fw_line hx (idxB rdE (eventsB dss)).length rr (fun i hi=>(su i hi).1);refine⟨hb,hso,by rw[hw,fwK_len],l12,sl.symm,?_,fun i hi=>?_,fun m g0 g1=>?_⟩
 ·
  rw[hw];exact fw_count hx hnd _ (Nat.le_refl _) rr (fun i hi=>(su i hi).1)
 ·
  obtain⟨⟨f0,f1⟩,pl⟩:=su i hi;obtain⟨r0,r1⟩:=rr i hi;obtain⟨a,ea⟩:=Int.eq_ofNat_of_zero_le f0;obtain⟨j,ej⟩:=Int.eq_ofNat_of_zero_le r0;refine⟨a,j,ea,ej,by omega,by omega,?_,?_⟩
  ·
   rw[hw];exact (fl.2 a j (by omega)).2 ⟨i,hi,ea,ej⟩
  ·
   unfold plE at pl;rw[ea,ej,Int.toNat_natCast,Int.toNat_natCast] at pl;exact pl
 ·
  rw[ha m g0 g1,ha n h0 h1];rw[hc] at h1 g1;exact decide_eq_decide.2 (at_one' hf hn g0 g1 h0 h1)
def taleB (dss:List (List Dd))(f rows:List Int):Bool:=sourceB dss f&&rowsB dss rows
def agK (n:Nat)(rs f row:List Int):Nat→List Int
 | 0=>List.replicate n 0
 |k+1=>(agK n rs f row k).set (rs.getD k 0).toNat (row.getD (f.getD k 0).toNat 0)
def agL (es:List Ev)(f rows:List Int):List Int:=agK es.length (idxB rdE es) f (rwL es rows) (idxB rdE es).length
def agB (dss:List (List Dd))(f rows:List Int):List Int:=if taleB dss f rows=true then agL (eventsB dss) f rows else []
def vlE (es:List Ev)(x:Int):Int:=(es.getD x.toNat zE).2.2.2.2.1
def lastK (es:List Ev)(rows:List Int):Nat→List Int
 | 0=>[0,0,0]
 |k+1=>(lastK es rows k).set (plE es (rows.getD k 0)).toNat (vlE es (rows.getD k 0))
def ocK (es:List Ev)(f:List Int):Nat→List Int
 | 0=>[]
 |k+1=>ocK es f k++[vlE es (f.getD k 0)]
def ocL (es:List Ev)(f rows:List Int):List Int:=ocK es f f.length++lastK es rows rows.length
def ocB (dss:List (List Dd))(f rows:List Int):List Int:=if taleB dss f rows=true then ocL (eventsB dss) f rows else []
def tcB (dss:List (List Dd)):Int:=if workB dss=true then cntB dss*rcntB dss else -1
def taB (dss:List (List Dd))(n:Int):Bool:=decide (0≤n∧n<tcB dss)
def tfB (dss:List (List Dd))(n:Int):List Int:=if taB dss n=true then atB dss (n / rcntB dss) else []
def trB (dss:List (List Dd))(n:Int):List Int:=if taB dss n=true then ratB dss (n % rcntB dss) else []
theorem agK_len (n:Nat)(rs f row:List Int):∀k:Nat,(agK n rs f row k).length=n
 | 0=>by simp[agK]
 |k+1=>by rw[agK,List.length_set,agK_len n rs f row k]
theorem lastK_len (es:List Ev)(rows:List Int):∀k:Nat,(lastK es rows k).length=3
 | 0=>rfl
 |k+1=>by rw[lastK,List.length_set,lastK_len es rows k]
theorem ocK_len (es:List Ev)(f:List Int):∀k:Nat,(ocK es f k).length=k
 | 0=>rfl
 |k+1=>by rw[ocK,List.length_append,ocK_len es f k];rfl
theorem ocK_get (es:List Ev)(f:List Int):∀(k i:Nat),i<k→(ocK es f k).getD i 0=vlE es (f.getD i 0)
 | 0,i,h=>by omega
 |k+1,i,h=>by
  rw[ocK,List.getD_eq_getElem?_getD];by_cases hi:i<k
  · rw[List.getElem?_append_left (by rw[ocK_len];exact hi),←List.getD_eq_getElem?_getD,ocK_get es f k i hi]
  ·
   obtain rfl:i=k:=by omega
   rw[List.getElem?_append_right (by rw[ocK_len];exact Nat.le_refl _),ocK_len,Nat.sub_self];rfl
theorem web_ag {n:Nat}{rs f row:List Int}(hn:n≤12)(hd:rs.Nodup)(hrow:Web n row):∀k:Nat,k≤rs.length→(∀i,i<k→0≤rs.getD i 0∧rs.getD i 0<(n:Int))→(∀i,i<k→0≤f.getD i 0∧f.getD i 0<(n:Int)) →
  Web n (agK n rs f row k)∧∀a j:Nat,a<n→(line (agK n rs f row k) a j=true↔∃i,i<k∧rs.getD i 0=(a:Int)∧line row (f.getD i 0).toNat j=true)
 | 0,_,_,_=>⟨Web.zero hn,fun a j _=>by unfold agK;rw[line_zero];simp⟩
 |k+1,hk,hr,hf=>by
  obtain⟨h1,h2⟩:=web_ag hn hd hrow k (by omega) (fun i hi=>hr i (by omega)) (fun i hi=>hf i (by omega));obtain⟨a0,ha0⟩:=Int.eq_ofNat_of_zero_le (hr k (by omega)).1;obtain⟨b0,hb0⟩:=Int.eq_ofNat_of_zero_le (hf k (by omega)).1;have ha:a0<n:=by have:=(hr k (by omega)).2;omega
  have hb:b0<n:=by have:=(hf k (by omega)).2;omega
  have e0:agK n rs f row (k+1)=(agK n rs f row k).set a0 (row.getD b0 0):=by rw[agK,ha0,hb0,Int.toNat_natCast,Int.toNat_natCast]
  rw[e0];refine⟨h1.set (hrow.2.2 b0 hb),fun a j haa=>?_⟩;have e1:=h2 a j haa;unfold line at e1 ⊢;rw[getD_set _ _ _ _ (by rw[h1.2.1];exact ha)];by_cases e:a0=a
  ·
   subst e;simp only[if_true];constructor
   ·
    intro h;refine⟨k,by omega,ha0,?_⟩;rw[hb0,Int.toNat_natCast];exact h
   ·
    rintro⟨i,hi,r1,r2⟩;have:i=k:=nodup_get hd (by omega) (by omega) (by rw[r1,ha0]);subst this;rw[hb0,Int.toNat_natCast] at r2;exact r2
  ·
   simp only[e,if_false];rw[e1];constructor
   ·
    rintro⟨i,hi,r⟩;exact⟨i,by omega,r⟩
   ·
    rintro⟨i,hi,r1,r2⟩;by_cases ei:i=k
    · subst ei;rw[ha0] at r1;omega
    · exact⟨i,by omega,r1,r2⟩
theorem plW_in {es:List Ev}{rows:List Int}(hx:es.length≤12)(h:rowsL es rows=true){i:Nat}(hi:i<rows.length):0≤plE es (rows.getD i 0)∧plE es (rows.getD i 0)≤2:=by
 have hp:=rows_perm hx h
 have hm:rows.getD i 0∈rows:=by
  rw[List.getD_eq_getElem?_getD,List.getElem?_eq_getElem hi];exact List.getElem_mem hi
 have hm:=hp.mem_iff.2 hm;unfold allW at hm;unfold plE;rcases List.mem_append.1 hm with hm|hm
 ·
  rcases List.mem_append.1 hm with hm|hm
  · rw[(plcW_mem hx hm).2];decide
  · rw[(plcW_mem hx hm).2];decide
 · rw[(plcW_mem hx hm).2];decide
theorem lastK_at {es:List Ev}{rows:List Int}(hx:es.length≤12)(h:rowsL es rows=true){k:Nat}(hk:k<rows.length):∀m:Nat,k<m→m≤rows.length→(∀q,k<q→q<m→plE es (rows.getD q 0)≠plE es (rows.getD k 0)) →
  (lastK es rows m).getD (plE es (rows.getD k 0)).toNat 0=vlE es (rows.getD k 0)
 | 0,h0,_,_=>by omega
 |m+1,hm,hl,hq=>by
  have p1:=plW_in hx h hk;have p2:=plW_in hx h (show m<rows.length by omega);rw[lastK,getD_set _ _ _ _ (by rw[lastK_len];omega)];by_cases e:m=k
  · subst e;rw[if_pos rfl]
  ·
   have hne:=hq m (by omega) (by omega);rw[if_neg (by omega)];exact lastK_at hx h hk m (by omega) (by omega) (fun q h1 h2=>hq q h1 (by omega))
theorem idxK_has (f:Ev→Bool)(l:List Ev){i:Nat}(hf:f (l.getD i zE)=true):∀k:Nat,i<k→(i:Int)∈idxK f l k
 | 0,h=>by omega
 |k+1,h=>by
  rw[idxK];by_cases e:i=k
  ·
   subst e;rw[if_pos hf];exact List.mem_append.2 (.inr (by simp))
  ·
   have ih:=idxK_has f l hf k (by omega);split
   · exact List.mem_append.2 (.inl ih)
   · exact ih
theorem tale_use {dss:List (List Dd)}{f rows:List Int}(h:taleB dss f rows=true):workB dss=true∧srcB (chcL (eventsB dss)) f=true∧rowsL (eventsB dss) rows=true:=by
 unfold taleB sourceB rowsB at h;simp only[Bool.and_eq_true] at h;exact⟨h.1.1,h.1.2,h.2.2⟩
theorem ag_law {dss:List (List Dd)}{f rows:List Int}(h:taleB dss f rows=true):
  agB dss f rows=thenL (backL (fwB dss f)) (rwB dss rows)∧(idxB rdE (eventsB dss)).length=f.length∧f.length≤12∧(ocB dss f rows).length=(idxB rdE (eventsB dss)).length+3∧(rwB dss rows).length=(eventsB dss).length ∧
  (∀i,i<(idxB rdE (eventsB dss)).length→∃a:Nat,f.getD i 0=(a:Int)∧a<(eventsB dss).length∧(ocB dss f rows).getD i 0=((eventsB dss).getD a zE).2.2.2.2.1) ∧
  (∀i,i<(eventsB dss).length→0≤((eventsB dss).getD i zE).2.2.2.1∧((eventsB dss).getD i zE).2.2.2.1≤2) ∧
  ∀i:Nat,i<(eventsB dss).length→((eventsB dss).getD i zE).2.2.1=false→(rwB dss rows).getD i 0=0→(ocB dss f rows).getD ((idxB rdE (eventsB dss)).length+((eventsB dss).getD i zE).2.2.2.1.toNat) 0=((eventsB dss).getD i zE).2.2.2.2.1:=by
 obtain⟨hb,hs,hr⟩:=tale_use h;have hx:=eventsB_12 dss;obtain⟨sl,su⟩:=src_use hx hs;obtain⟨rn,_,ru⟩:=rows_use hx hr;have hso:sourceB dss f=true:=by rw[sourceB,hb,hs];rfl
 have hro:rowsB dss rows=true:=by rw[rowsB,hb,hr];rfl
 have e1:fwB dss f=fwK (eventsB dss).length (idxB rdE (eventsB dss)) f (idxB rdE (eventsB dss)).length:=by rw[fwB,if_pos hso];rfl
 have e2:rwB dss rows=rwL (eventsB dss) rows:=by rw[rwB,if_pos hro]
 have e3:agB dss f rows=agK (eventsB dss).length (idxB rdE (eventsB dss)) f (rwL (eventsB dss) rows) (idxB rdE (eventsB dss)).length:=by rw[agB,if_pos h];rfl
 have e4:ocB dss f rows=ocK (eventsB dss) f f.length++lastK (eventsB dss) rows rows.length:=by rw[ocB,if_pos h];rfl
 have rr:∀i,i<(idxB rdE (eventsB dss)).length→0≤(idxB rdE (eventsB dss)).getD i 0∧(idxB rdE (eventsB dss)).getD i 0<((eventsB dss).length:Int):=fun i hi=>idxB_range hx hi
 have hnd:(idxB rdE (eventsB dss)).Nodup:=by
  unfold idxB;rw[if_pos hx];exact rises_nodup _ (idxK_rises rdE _ _)
 have l12:(idxB rdE (eventsB dss)).length≤12:=by
  unfold idxB;rw[if_pos hx];have:=idxK_len rdE (eventsB dss) (eventsB dss).length;omega
 have wr:=web_rwAll hx ru rows.length (Nat.le_refl _);have wf:=fw_line hx (idxB rdE (eventsB dss)).length rr (fun i hi=>(su i hi).1);have wa:=web_ag hx hnd wr.1 (idxB rdE (eventsB dss)).length (Nat.le_refl _) rr (fun i hi=>(su i hi).1);have wb:=web_back wf.1;have wt:=web_then wb.1 wr.1
 have plin:∀i,i<(eventsB dss).length→0≤((eventsB dss).getD i zE).2.2.2.1∧((eventsB dss).getD i zE).2.2.2.1≤2:=fun i hi=>by
  have:=place_in hb i (by rw[eventsB,if_pos hb] at hi;exact hi);rw[eventsB,if_pos hb];exact this
 refine⟨?_,sl,by omega,?_,?_,fun i hi=>?_,plin,fun i hi hrd h0=>?_⟩
 ·
  rw[e3,e1,e2];refine Web.ext wa.1 wt.1 (fun a j ha hj=>?_)
  have q:line (agK (eventsB dss).length (idxB rdE (eventsB dss)) f (rwL (eventsB dss) rows) (idxB rdE (eventsB dss)).length) a j=true↔line (thenL (backL (fwK (eventsB dss).length (idxB rdE (eventsB dss)) f (idxB rdE (eventsB dss)).length)) (rwL (eventsB dss) rows)) a j=true:=by
   rw[show rwL (eventsB dss) rows=rwAll (eventsB dss) rows rows.length from rfl];rw[wa.2 a j ha,wt.2 a j ha];constructor
   ·
    rintro⟨i,hi,r1,r2⟩;obtain⟨b,hbb⟩:=Int.eq_ofNat_of_zero_le (su i hi).1.1;have hbl:b<(eventsB dss).length:=by have:=(su i hi).1.2;omega
    rw[hbb,Int.toNat_natCast] at r2;refine⟨b,hbl,?_,r2⟩;rw[wb.2 a b ha hbl];exact (wf.2 b a hbl).2 ⟨i,hi,hbb,r1⟩
   ·
    rintro⟨b,hbl,r1,r2⟩;rw[wb.2 a b ha hbl] at r1;obtain⟨i,hi,q1,q2⟩:=(wf.2 b a hbl).1 r1;refine⟨i,hi,q2,?_⟩;rw[q1,Int.toNat_natCast];exact r2
  cases h1:line (agK (eventsB dss).length (idxB rdE (eventsB dss)) f (rwL (eventsB dss) rows) (idxB rdE (eventsB dss)).length) a j with
  |true=>exact (q.1 h1).symm
  |false=>
   cases h2:line (thenL (backL (fwK (eventsB dss).length (idxB rdE (eventsB dss)) f (idxB rdE (eventsB dss)).length)) (rwL (eventsB dss) rows)) a j with
   |false=>rfl
   |true=>rw[q.2 h2] at h1;cases h1
 · rw[e4,List.length_append,ocK_len,lastK_len];omega
 · rw[e2];exact wr.1.2.1
 ·
  obtain⟨a,ea⟩:=Int.eq_ofNat_of_zero_le (su i hi).1.1;refine⟨a,ea,by have:=(su i hi).1.2;omega,?_⟩;rw[e4,List.getD_eq_getElem?_getD,List.getElem?_append_left (by rw[ocK_len];omega),←List.getD_eq_getElem?_getD,ocK_get _ _ _ _ (by omega)];unfold vlE;rw[ea,Int.toNat_natCast]
 ·
  obtain⟨p0,p2⟩:=plin i hi;obtain⟨p,hp⟩:=Int.eq_ofNat_of_zero_le p0;have hp3:p<3:=by omega
  have hmem:(i:Int)∈plcW (eventsB dss) p:=by
   unfold plcW idxB;rw[if_pos hx];refine idxK_has _ _ ?_ _ hi;unfold toE;rw[hrd,hp];simp
  have hall:(i:Int)∈allW (eventsB dss):=by
   unfold allW;have:p=0∨p=1∨p=2:=by omega
   rcases this with rfl|rfl|rfl
   · exact List.mem_append.2 (.inl (List.mem_append.2 (.inl hmem)))
   · exact List.mem_append.2 (.inl (List.mem_append.2 (.inr hmem)))
   · exact List.mem_append.2 (.inr hmem)
  have hin:=(rows_perm hx hr).mem_iff.1 hall;obtain⟨k,hk,ek⟩:=List.getElem_of_mem hin;have ek':rows.getD k 0=(i:Int):=by rw[List.getD_eq_getElem?_getD,List.getElem?_eq_getElem hk];exact ek
  have hlast:=lastK_at hx hr hk rows.length hk (Nat.le_refl _) (fun q hq hql hpl=>by
   have c:=row_cell hx hr hk hql
   have t:rwP (eventsB dss) rows k q=true:=by
    unfold rwP;rw[decide_eq_true hq,hpl];simp
   rw[t,ek',Int.toNat_natCast] at c;unfold line at c;rw[←e2,h0,zero_bit] at c
   cases c)
  unfold plE vlE at hlast;rw[ek',Int.toNat_natCast] at hlast;rw[e4,List.getD_eq_getElem?_getD,List.getElem?_append_right (by rw[ocK_len];omega),ocK_len,←List.getD_eq_getElem?_getD,show (idxB rdE (eventsB dss)).length+((eventsB dss).getD i zE).2.2.2.1.toNat-f.length=((eventsB dss).getD i zE).2.2.2.1.toNat by omega];exact hlast
theorem tale_at {dss:List (List Dd)}{n:Int}(h:taB dss n=true):
  workB dss=true∧0<rcntB dss∧taleB dss (tfB dss n) (trB dss n)=true∧tcB dss=cntB dss*rcntB dss∧∀m,taB dss m=true→(decide (tfB dss m=tfB dss n)&&decide (trB dss m=trB dss n))=decide (m=n):=by
 have hd:=h;unfold taB at hd;rw[decide_eq_true_eq] at hd
 have hb:workB dss=true:=by
  cases hb:workB dss with
  |true=>rfl
  |false=>rw[tcB,hb] at hd;simp at hd;omega
 have hc:tcB dss=cntB dss*rcntB dss:=by rw[tcB,if_pos hb]
 have hrp:0<rcntB dss:=by
  rw[rcntB,if_pos hb];unfold rcntL;exact Int.mul_pos (Int.mul_pos (fac_pos _) (fac_pos _)) (fac_pos _)
 have rng:∀m,taB dss m=true→(0≤m / rcntB dss∧m / rcntB dss<cntB dss)∧(0≤m % rcntB dss∧m % rcntB dss<rcntB dss):=fun m hm=>by
  unfold taB at hm;rw[decide_eq_true_eq,hc] at hm;exact⟨⟨Int.ediv_nonneg hm.1 (by omega),Int.ediv_lt_of_lt_mul hrp hm.2⟩,Int.emod_nonneg _ (by omega),Int.emod_lt_of_pos _ hrp⟩
 obtain⟨⟨a0,a1⟩,b0,b1⟩:=rng n h;have ef:∀m,taB dss m=true→tfB dss m=atB dss (m / rcntB dss):=fun m hm=>by unfold tfB;rw[if_pos hm]
 have er:∀m,taB dss m=true→trB dss m=ratB dss (m % rcntB dss):=fun m hm=>by unfold trB;rw[if_pos hm]
 obtain⟨_,s1,_,_,_,_,_,s2⟩:=src_all a0 a1;obtain⟨_,r1,_,_,_,_,_,r2⟩:=row_all b0 b1;refine⟨hb,hrp,by rw[ef n h,er n h,taleB,s1,r1];rfl,hc,fun m hm=>?_⟩;obtain⟨⟨c0,c1⟩,d0,d1⟩:=rng m hm;rw[ef n h,er n h,ef m hm,er m hm,s2 _ c0 c1,r2 _ d0 d1];by_cases e:m=n
 · subst e;simp
 ·
  have:¬(m / rcntB dss=n / rcntB dss∧m % rcntB dss=n % rcntB dss):=fun q=>by
   have x:=Int.mul_ediv_add_emod m (rcntB dss);have y:=Int.mul_ediv_add_emod n (rcntB dss);rw[q.1,q.2] at x;omega
  rw[decide_eq_false e];rw[Bool.and_eq_false_iff];by_cases e1:m / rcntB dss=n / rcntB dss
  · exact .inr (decide_eq_false (fun e2=>this ⟨e1,e2⟩))
  · exact .inl (decide_eq_false e1)
end Go.Proofs.YtkmjmnljkidobaaGreat
