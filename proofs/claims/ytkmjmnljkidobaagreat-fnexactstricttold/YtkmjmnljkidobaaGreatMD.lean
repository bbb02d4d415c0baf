/- Gathered texts. -/
import Derived.Test.YtkmjmnljkidobaaGreatMC
import Derived.Laws.Tables
set_option maxRecDepth 100000
set_option maxHeartbeats 8000000
namespace Go.Proofs.YtkmjmnljkidobaaGreat
open Go.ChangeShapes Go.WideShapes Go.ChangeAt Go.RowKit
open Go.RowKit
theorem evs_parts {dss:List (List Dd)}(hb:workB dss=true):(idxB rdE (eventsB dss)).length≤6∧∀p,p<3→0<(plcW (eventsB dss) p).length∧(plcW (eventsB dss) p).length≤7:=by
 obtain⟨h12,hl,hsum,_,_⟩:=events_law hb
 have h9:(evsW dss dss.length).length≤9:=by
  simp only[workB,Bool.and_eq_true,decide_eq_true_eq] at hb;obtain⟨⟨⟨⟨_,_⟩,_⟩,h4⟩,_⟩:=hb;omega
 have p0:=(plcW_first hb 0 (by decide)).1;have p1:=(plcW_first hb 1 (by decide)).1;have p2:=(plcW_first hb 2 (by decide)).1
 have e:∀f,idxB f (eventsB dss)=idxK f (evsW dss dss.length) (evsW dss dss.length).length:=fun f=>by
  unfold idxB;rw[eventsB,if_pos hb,if_pos h12]
 unfold plcW at p0 p1 p2 ⊢;rw[e] at p0 p1 p2 ⊢;refine⟨?_,fun p hp=>?_⟩
 ·
  have q0:(idxK (toE ((0:Nat):Int)) (evsW dss dss.length) (evsW dss dss.length).length).length=(idxK (toE 0) (evsW dss dss.length) (evsW dss dss.length).length).length:=rfl;have q1:(idxK (toE ((1:Nat):Int)) (evsW dss dss.length) (evsW dss dss.length).length).length=(idxK (toE 1) (evsW dss dss.length) (evsW dss dss.length).length).length:=rfl;have q2:(idxK (toE ((2:Nat):Int)) (evsW dss dss.length) (evsW dss dss.length).length).length=(idxK (toE 2) (evsW dss dss.length) (evsW dss dss.length).length).length:=rfl;omega
 ·
  have q0:(idxK (toE ((0:Nat):Int)) (evsW dss dss.length) (evsW dss dss.length).length).length=(idxK (toE 0) (evsW dss dss.length) (evsW dss dss.length).length).length:=rfl;have q1:(idxK (toE ((1:Nat):Int)) (evsW dss dss.length) (evsW dss dss.length).length).length=(idxK (toE 1) (evsW dss dss.length) (evsW dss dss.length).length).length:=rfl;have q2:(idxK (toE ((2:Nat):Int)) (evsW dss dss.length) (evsW dss dss.length).length).length=(idxK (toE 2) (evsW dss dss.length) (evsW dss dss.length).length).length:=rfl;rw[e];have:p=0∨p=1∨p=2:=by omega
  rcases this with rfl|rfl|rfl
  · exact⟨p0,by omega⟩
  · exact⟨p1,by omega⟩
  · exact⟨p2,by omega⟩
theorem cnt_nine {c:List (List Int)}(hb:∀i,i<c.length→(c.getD i []).length≤9):∀k:Nat,k≤c.length→0≤cntK c k∧cntK c k≤9 ^ k
 | 0,_=>by simp[cntK]
 |k+1,h=>by
  obtain⟨h1,h2⟩:=cnt_nine hb k (by omega);have h3:=hb k (by omega);rw[cntK];refine⟨Int.mul_nonneg h1 (Int.natCast_nonneg _),?_⟩;rw[Int.pow_succ];exact Int.mul_le_mul h2 (by omega) (Int.natCast_nonneg _) (Int.le_trans h1 h2)
theorem cnt_six {dss:List (List Dd)}(hb:workB dss=true):0≤cntB dss∧cntB dss≤531441:=by
 obtain⟨h6,_⟩:=evs_parts hb;have hl:(chcL (eventsB dss)).length=(idxB rdE (eventsB dss)).length:=chcK_len _ _ _
 have h9:(eventsB dss).length≤9:=by
  rw[eventsB,if_pos hb];have:=(events_law hb).2.1;simp only[workB,Bool.and_eq_true,decide_eq_true_eq] at hb;obtain⟨⟨⟨⟨_,_⟩,_⟩,h4⟩,_⟩:=hb;omega
 have each:∀i,i<(chcL (eventsB dss)).length→((chcL (eventsB dss)).getD i []).length≤9:=fun i hi=>by
  unfold chcL;rw[chcK_get _ _ _ _ (by rw[hl] at hi;exact hi)];unfold idxB;rw[if_pos (by omega)];have:=idxK_len (toE (plE (eventsB dss) ((if (eventsB dss).length≤12 then idxK rdE (eventsB dss) (eventsB dss).length else []).getD i 0))) (eventsB dss) (eventsB dss).length;omega
 have h1:=cnt_nine each _ (Nat.le_refl _);have h2:∀j:Nat,j≤6→(9:Int) ^ j≤531441:=by decide +kernel
 rw[cntB,if_pos hb];exact⟨h1.1,Int.le_trans h1.2 (h2 _ (by omega))⟩
theorem rcnt_six {dss:List (List Dd)}(hb:workB dss=true):0<rcntB dss∧rcntB dss≤373248000:=by
 obtain⟨_,hp⟩:=evs_parts hb;have top:∀j:Nat,j≤6→fac j≤720:=by decide +kernel
 have f0:=fac_pos ((plcW (eventsB dss) 0).length-1);have f1:=fac_pos ((plcW (eventsB dss) 1).length-1);have f2:=fac_pos ((plcW (eventsB dss) 2).length-1);have t0:=top _ (show (plcW (eventsB dss) 0).length-1≤6 by have:=(hp 0 (by decide)).2;omega);have t1:=top _ (show (plcW (eventsB dss) 1).length-1≤6 by have:=(hp 1 (by decide)).2;omega);have t2:=top _ (show (plcW (eventsB dss) 2).length-1≤6 by have:=(hp 2 (by decide)).2;omega);rw[rcntB,if_pos hb];unfold rcntL;refine⟨Int.mul_pos (Int.mul_pos f0 f1) f2,?_⟩;have m1:fac ((plcW (eventsB dss) 0).length-1)*fac ((plcW (eventsB dss) 1).length-1)≤720*720:=Int.mul_le_mul t0 t1 (by omega) (by decide);have m2:fac ((plcW (eventsB dss) 0).length-1)*fac ((plcW (eventsB dss) 1).length-1)*fac ((plcW (eventsB dss) 2).length-1)≤720*720*720:=Int.mul_le_mul m1 t2 (by omega) (by decide);omega
theorem tcB_in (dss:List (List Dd)):-1≤tcB dss∧tcB dss≤198359290368000:=by
 unfold tcB;split
 ·
  rename_i hb;obtain⟨a0,a1⟩:=cnt_six hb;obtain⟨b0,b1⟩:=rcnt_six hb;have m:cntB dss*rcntB dss≤531441*373248000:=Int.mul_le_mul a1 b1 (by omega) (by decide);exact⟨by have:=Int.mul_nonneg a0 (Int.le_of_lt b0);omega,by omega⟩
 · decide
abbrev nilV:Value:= .slice none 0 0
abbrev taleC (x y:Value):Obj:= .cells #[x,y] 52
def StT (w1 wr:World)(D:Nat)(x y:Value):Prop:=wr.heap[D]? = some (taleC x y)∧w1.grownBy wr (some D)
theorem StT.start {w1:World}(x y:Value):StT w1 (w1.alloc (taleC x y)) w1.heap.size x y:=
 ⟨heap_alloc_new w1 _,World.grownBy_alloc w1 _ (some w1.heap.size)⟩
theorem StT.size {w1 wr:World}{D:Nat}{x y:Value}(h:StT w1 wr D x y):D<wr.heap.size:=(Array.getElem?_eq_some_iff.1 h.1).1
theorem StT.keep {w1 wr wr':World}{D:Nat}{x y:Value}(h:StT w1 wr D x y)(hk:Keep wr wr'):StT w1 wr' D x y:=
 ⟨(Below.block hk D h.size).trans h.1,grown_trans h.2 ⟨Below.os hk,Below.tape hk,Below.output hk,Below.size hk,fun i hi _=>Below.block hk i hi⟩⟩
theorem StT.cells {w1 wr:World}{D:Nat}{x y:Value}(h:StT w1 wr D x y):
  wr.cell? ⟨D,0,none⟩=some x∧wr.cell? ⟨D,1,none⟩=some y:=
 ⟨cell_of_row wr D 0 _ _ (0,0) h.1,cell_of_row wr D 1 _ _ (0,0) h.1⟩
theorem StT.free {w1 wr:World}{D:Nat}{x y:Value}(h:StT w1 wr D x y)(i:Nat):wr.frozen? ⟨D,i,none⟩=false:=frozen_of_row wr D i _ _ h.1
theorem StT.set0 {w1 wr:World}{D:Nat}{x y:Value}(h:StT w1 wr D x y)(z:Value):StT w1 (wr.setCell ⟨D,0,none⟩ z) D z y:=
 ⟨by rw[heap_setCell_same wr D 0 _ _ _ h.1];rfl,grown_trans h.2 ⟨rfl,rfl,rfl,by simp,fun i _ hi=>heap_setCell_other wr ⟨D,0,none⟩ i _ (fun e=>hi (by simp[e]))⟩⟩
theorem StT.set1 {w1 wr:World}{D:Nat}{x y:Value}(h:StT w1 wr D x y)(z:Value):StT w1 (wr.setCell ⟨D,1,none⟩ z) D x z:=
 ⟨by rw[heap_setCell_same wr D 1 _ _ _ h.1];rfl,grown_trans h.2 ⟨rfl,rfl,rfl,by simp,fun i _ hi=>heap_setCell_other wr ⟨D,1,none⟩ i _ (fun e=>hi (by simp[e]))⟩⟩
theorem StT.keep1 {w1 wr:World}{x y:Value}(h:StT w1 wr w1.heap.size x y):Keep w1 wr:=
 (Keep.refl w1).grown h.2 (fun k hk=>by simp at hk;omega)
theorem grown_setT (w:World)(g j:Nat)(v:Value):w.grownBy (w.setCell ⟨g,j,none⟩ v) (some g):=
 ⟨rfl,rfl,rfl,by simp,fun i _ hi=>heap_setCell_other w ⟨g,j,none⟩ i _ (fun e=>hi (by simp[e]))⟩
theorem Own.other {wr wr':World}{base D:Nat}{v:Value}{zs:List Int}(h:Own wr base v zs)(hb:D<base)(hg:wr.grownBy wr' (some D)):Own wr' base v zs:=
 h.kept hg (by
  cases hu:v.ownBlock with
  |none=>exact .inl rfl
  |some k=>exact .inr (fun e=>by have:=h.ge k hu;have:=Option.some.inj e;omega))
def addIn (p:Nat→Nat→Bool)(i:Nat)(st:List Int):Nat→List Int
 | 0=>st
 |k+1=>if p i k=true then (addIn p i st k).set i (gAdd ((addIn p i st k).getD i 0) k) else addIn p i st k
def addAll (p:Nat→Nat→Bool)(n:Nat):Nat→List Int
 | 0=>List.replicate n 0
 |i+1=>addIn p i (addAll p n i) n
def bitI (k:Nat):Int:=wrap64 (2 ^ (k:Int).toNat)
def offIn (p:Nat→Nat→Bool)(i:Nat)(st:List Int):Nat→List Int
 | 0=>st
 |k+1=>if p i k=true then (offIn p i st k).set i (notI ((offIn p i st k).getD i 0) (bitI k)) else offIn p i st k
def offAll (p:Nat→Nat→Bool)(n:Nat)(st:List Int):Nat→List Int
 | 0=>st
 |i+1=>offIn p i (offAll p n st i) n
theorem addIn_hit {p:Nat→Nat→Bool}{i k:Nat}(st:List Int)(h:p i k=true):addIn p i st (k+1)=(addIn p i st k).set i (gAdd ((addIn p i st k).getD i 0) k):=if_pos h
theorem addIn_miss {p:Nat→Nat→Bool}{i k:Nat}(st:List Int)(h:p i k=false):addIn p i st (k+1)=addIn p i st k:=if_neg (by simp[h])
theorem offIn_hit {p:Nat→Nat→Bool}{i k:Nat}(st:List Int)(h:p i k=true):offIn p i st (k+1)=(offIn p i st k).set i (notI ((offIn p i st k).getD i 0) (bitI k)):=if_pos h
theorem offIn_miss {p:Nat→Nat→Bool}{i k:Nat}(st:List Int)(h:p i k=false):offIn p i st (k+1)=offIn p i st k:=if_neg (by simp[h])
theorem addIn_none {p:Nat→Nat→Bool}{i:Nat}(st:List Int):∀k:Nat,(∀j,j<k→p i j=false)→addIn p i st k=st
 | 0,_=>rfl
 |k+1,h=>by rw[addIn_miss st (h k (by omega))];exact addIn_none st k (fun j hj=>h j (by omega))
theorem offIn_none {p:Nat→Nat→Bool}{i:Nat}(st:List Int):∀k:Nat,(∀j,j<k→p i j=false)→offIn p i st k=st
 | 0,_=>rfl
 |k+1,h=>by rw[offIn_miss st (h k (by omega))];exact offIn_none st k (fun j hj=>h j (by omega))
theorem bitI_add:∀k:Nat,k<12→bitI k=gAdd 0 k:=by decide +kernel
theorem ok_bit {n k:Nat}(hn:n≤12)(hk:k<n):okB n (bitI k)=true∧∀j:Nat,inSetB (bitI k) j=decide (k=j):=by
 rw[bitI_add k (by omega)];have h:=ok_add (ok_zero hn) hk;exact⟨h.1,fun j=>by rw[h.2 j,zero_bit];simp⟩
theorem web_addIn {p:Nat→Nat→Bool}{n i:Nat}{st:List Int}(hi:i<n)(hst:Web n st):∀m:Nat,m≤n →
  Web n (addIn p i st m)∧∀a j:Nat,a<n→line (addIn p i st m) a j=(line st a j||(decide (i=a)&&decide (j<m)&&p i j))
 | 0,_=>⟨hst,fun a j _=>by simp[addIn]⟩
 |m+1,hm=>by
  have ih:=web_addIn hi hst m (by omega) (p:=p)
  cases hp:p i m with
  |false=>
   rw[addIn_miss st hp];refine⟨ih.1,fun a j ha=>?_⟩;rw[ih.2 a j ha];by_cases e:j=m
   · subst e;simp[hp]
   ·
    have d:decide (j<m+1)=decide (j<m):=decide_eq_decide.2 (by omega);rw[d]
  |true=>
   rw[addIn_hit st hp];have ha:=ok_add (ih.1.2.2 i hi) (show m<n by omega);refine⟨ih.1.set ha.1,fun a j haa=>?_⟩;have e1:=ih.2 a j haa;unfold line at e1 ⊢;rw[getD_set _ _ _ _ (by rw[ih.1.2.1];exact hi)];by_cases e:i=a
   ·
    subst e;simp only[if_true];rw[ha.2 j,e1];by_cases e2:m=j
    · subst e2;simp[hp]
    ·
     have d:decide (j<m+1)=decide (j<m):=decide_eq_decide.2 (by omega);rw[d];simp[e2]
   · simp only[e,if_false];rw[e1];simp[e]
theorem web_addAll {p:Nat→Nat→Bool}{n:Nat}(hn:n≤12):∀m:Nat,m≤n →
  Web n (addAll p n m)∧∀a j:Nat,a<n→line (addAll p n m) a j=(decide (a<m)&&decide (j<n)&&p a j)
 | 0,_=>⟨Web.zero hn,fun a j _=>by unfold addAll;rw[line_zero];simp⟩
 |m+1,hm=>by
  have ih:=web_addAll hn m (by omega) (p:=p);have h1:=web_addIn (p:=p) (show m<n by omega) ih.1 n (Nat.le_refl _);refine⟨h1.1,fun a j ha=>?_⟩;show line (addIn p m (addAll p n m) n) a j=_;rw[h1.2 a j ha,ih.2 a j ha];by_cases e:m=a
  · subst e;simp
  ·
   have d:decide (a<m+1)=decide (a<m):=decide_eq_decide.2 (by omega);rw[d];simp[e]
theorem web_offIn {p:Nat→Nat→Bool}{n i:Nat}{st:List Int}(hi:i<n)(hst:Web n st):∀m:Nat,m≤n →
  Web n (offIn p i st m)∧∀a j:Nat,a<n→line (offIn p i st m) a j=(line st a j&&!(decide (i=a)&&decide (j<m)&&p i j))
 | 0,_=>⟨hst,fun a j _=>by simp[offIn]⟩
 |m+1,hm=>by
  have ih:=web_offIn hi hst m (by omega) (p:=p)
  cases hp:p i m with
  |false=>
   rw[offIn_miss st hp];refine⟨ih.1,fun a j ha=>?_⟩;rw[ih.2 a j ha];by_cases e:j=m
   · subst e;simp[hp]
   ·
    have d:decide (j<m+1)=decide (j<m):=decide_eq_decide.2 (by omega);rw[d]
  |true=>
   rw[offIn_hit st hp];have hb:=ok_bit hst.1 (show m<n by omega);have ha:=ok_not (ih.1.2.2 i hi) hb.1;refine⟨ih.1.set ha.1,fun a j haa=>?_⟩;have e1:=ih.2 a j haa;unfold line at e1 ⊢;rw[getD_set _ _ _ _ (by rw[ih.1.2.1];exact hi)];by_cases e:i=a
   ·
    subst e;simp only[if_true];rw[ha.2 j,e1,hb.2 j];by_cases e2:m=j
    · subst e2;simp[hp]
    ·
     have d:decide (j<m+1)=decide (j<m):=decide_eq_decide.2 (by omega);rw[d];simp[e2]
   · simp only[e,if_false];rw[e1];simp[e]
theorem web_offAll {p:Nat→Nat→Bool}{n:Nat}{st:List Int}(hst:Web n st):∀m:Nat,m≤n →
  Web n (offAll p n st m)∧∀a j:Nat,a<n→line (offAll p n st m) a j=(line st a j&&!(decide (a<m)&&decide (j<n)&&p a j))
 | 0,_=>⟨hst,fun a j _=>by simp[offAll]⟩
 |m+1,hm=>by
  have ih:=web_offAll hst m (by omega) (p:=p);have h1:=web_offIn (p:=p) (show m<n by omega) ih.1 n (Nat.le_refl _);refine⟨h1.1,fun a j ha=>?_⟩;show line (offIn p m (offAll p n st m) n) a j=_;rw[h1.2 a j ha,ih.2 a j ha];by_cases e:m=a
  · subst e;simp
  ·
   have d:decide (a<m+1)=decide (a<m):=decide_eq_decide.2 (by omega);rw[d];simp[e]
def behP (es:List Ev)(i k:Nat):Bool:=decide (i<k)&&((decide (i<3)&&decide (3≤k))||(decide (3≤i)&&((es.getD i zE).1==(es.getD k zE).1)))
def behL (es:List Ev):List Int:=addAll (behP es) es.length es.length
def plcP (es:List Ev)(i k:Nat):Bool:=(es.getD i zE).2.2.2.1 != (es.getD k zE).2.2.2.1
def plcL (es:List Ev):List Int:=offAll (plcP es) es.length (behL es) es.length
theorem behP_up {es:List Ev}{i j:Nat}(h:j≤i):behP es i j=false:=by unfold behP;simp;omega
theorem beh_line {es:List Ev}(h:es.length≤12):Web es.length (behL es)∧∀a j:Nat,a<es.length→line (behL es) a j=(decide (j<es.length)&&behP es a j):=by
 have h1:=web_addAll (p:=behP es) h es.length (Nat.le_refl _);exact⟨h1.1,fun a j ha=>by unfold behL;rw[h1.2 a j ha];simp[ha]⟩
theorem plc_line {es:List Ev}(h:es.length≤12):Web es.length (plcL es)∧∀a j:Nat,a<es.length→line (plcL es) a j=(decide (j<es.length)&&behP es a j&&!plcP es a j):=by
 have h1:=beh_line h;have h2:=web_offAll (p:=plcP es) h1.1 es.length (Nat.le_refl _);refine⟨h2.1,fun a j ha=>?_⟩;unfold plcL;rw[h2.2 a j ha,h1.2 a j ha];by_cases hj:j<es.length
 · simp[ha,hj]
 · simp[hj]
def wholeD (d:Dd):Bool:=(d.1==3)||decide (0<d.2.2.2)
def waitsD (ds:List Dd)(lo hi:Nat):Bool:=(List.range hi).any (fun j=>decide (lo<j)&&((ds.getD j zD).1==4))
theorem waitsD_no {ds:List Dd}{lo hi:Nat}(h:∀j,lo<j→j<hi→(ds.getD j zD).1≠4):waitsD ds lo hi=false:=by
 unfold waitsD;rw[List.any_eq_false];intro j hj;rw[List.mem_range] at hj;by_cases hl:lo<j
 ·
  have:=h j hl hj;simp[hl];simpa using this
 · simp[hl]
theorem waitsD_yes {ds:List Dd}{lo hi j:Nat}(h1:lo<j)(h2:j<hi)(h:(ds.getD j zD).1=4):waitsD ds lo hi=true:=by
 unfold waitsD;rw[List.any_eq_true];exact⟨j,List.mem_range.2 h2,by simp only[h];simp[h1]⟩
def dOf (dss:List (List Dd))(e:Ev):Dd:=(dss.getD e.1.toNat []).getD e.2.1.toNat zD
def kepQ (dss:List (List Dd))(a b:Ev):Bool:=!(rdE a)&&rdE b&&(csE a != csE b)&&(!waitsD (dss.getD a.1.toNat []) a.2.1.toNat b.2.1.toNat&&!wholeD (dOf dss a)&&!wholeD (dOf dss b))
def kepP (dss:List (List Dd))(es:List Ev)(i k:Nat):Bool:=decide (3≤i)&&behP es i k&&kepQ dss (es.getD i zE) (es.getD k zE)
def kepL (dss:List (List Dd))(es:List Ev):List Int:=offAll (kepP dss es) es.length (behL es) es.length
theorem kepP_up {dss:List (List Dd)}{es:List Ev}{i j:Nat}(h:j≤i):kepP dss es i j=false:=by unfold kepP;rw[behP_up h];simp
theorem kep_line {dss:List (List Dd)}{es:List Ev}(h:es.length≤12):Web es.length (kepL dss es)∧∀a j:Nat,a<es.length→line (kepL dss es) a j=(decide (j<es.length)&&behP es a j&&!kepP dss es a j):=by
 have h1:=beh_line h;have h2:=web_offAll (p:=kepP dss es) h1.1 es.length (Nat.le_refl _);refine⟨h2.1,fun a j ha=>?_⟩;unfold kepL;rw[h2.2 a j ha,h1.2 a j ha];by_cases hj:j<es.length
 · simp[ha,hj]
 · simp[hj]
theorem kep_three {dss:List (List Dd)}{es:List Ev}:∀k:Nat,k≤3→offAll (kepP dss es) es.length (behL es) k=behL es
 | 0,_=>rfl
 |k+1,h=>by
  rw[offAll,kep_three k (by omega)];exact offIn_none _ _ (fun j _=>by unfold kepP;simp;omega)
theorem kep_has {dss:List (List Dd)}{es:List Ev}(hn:es.length≤12){k m:Nat}(hk:k<es.length)(hm:m<es.length):
  inSetB ((offIn (kepP dss es) k (offAll (kepP dss es) es.length (behL es) k) m).getD k 0) m=behP es k m:=by
 have h1:=beh_line hn;have h2:=web_offAll (p:=kepP dss es) h1.1 k (by omega);have h3:=web_offIn (p:=kepP dss es) hk h2.1 m (by omega);have e3:=h3.2 k m hk;rw[h2.2 k m hk,h1.2 k m hk] at e3;unfold line at e3;rw[e3];simp[hm]
theorem behP_lt {es:List Ev}{i j:Nat}(h:behP es i j=true):i<j:=by
 apply Classical.byContradiction;intro hn;rw[behP_up (by omega)] at h;cases h
theorem up_way {n:Nat}{zs:List Int}(hz:Web n zs)(μ:Nat→Nat)(h:∀i j,i<n→j<n→line zs i j=true→μ i<μ j){i j:Nat}(hi:i<n)(hw:Way zs i j):μ i<μ j:=by
 induction hw with
 |one g=>exact h _ _ hi (hz.lt hi g) g
 |more g l ih=>exact Nat.lt_trans ih (h _ _ (g.lt hz hi) (hz.lt (g.lt hz hi) l) l)
theorem up_round {n:Nat}{zs:List Int}(hz:Web n zs)(μ:Nat→Nat)(h:∀i j,i<n→j<n→line zs i j=true→μ i<μ j):roundB zs=false:=by
 cases hr:roundB zs with
 |false=>rfl
 |true=>
  obtain⟨i,hi,hw⟩:=(round_iff hz).1 hr;exact absurd (up_way hz μ h hi hw) (Nat.lt_irrefl _)
theorem up_lift {n:Nat}{zs cl:List Int}(hz:Web n zs)(hc:cl.length=n)(τ:Nat→Nat)(h1:∀i j,i<n→j<n→cl.getD i 0=cl.getD j 0→τ i=τ j)
  (h2:∀i j,i<n→j<n→line zs i j=true→cl.getD i 0≠cl.getD j 0→τ i<τ j):roundB (liftL zs cl)=false:=by
 obtain⟨w1,_,w3⟩:=web_lift hz hc;refine up_round w1 τ (fun i j hi hj hl=>?_);obtain⟨_,hne,a,b,ha,hb,ea,eb,hab⟩:=(w3 i j hi).1 hl;have:=h2 a b ha hb hab (by rw[ea,eb];exact fun e=>hne e.symm);rw[h1 a i ha hi ea,h1 b j hb hj eb] at this;exact this
theorem less_way {n:Nat}{a b:List Int}(ha:Web n a)(h:∀i j,i<n→j<n→line a i j=true→line b i j=true){i j:Nat}(hi:i<n)(hw:Way a i j):Way b i j:=by
 induction hw with
 |one g=>exact .one (h _ _ hi (ha.lt hi g) g)
 |more g l ih=>exact .more ih (h _ _ (g.lt ha hi) (ha.lt (g.lt ha hi) l) l)
theorem less_round {n:Nat}{a b:List Int}(ha:Web n a)(hb:Web n b)(h:∀i j,i<n→j<n→line a i j=true→line b i j=true)(hr:roundB b=false):roundB a=false:=by
 cases hq:roundB a with
 |false=>rfl
 |true=>
  obtain⟨i,hi,hw⟩:=(round_iff ha).1 hq;rw[(round_iff hb).2 ⟨i,hi,less_way ha h hi hw⟩] at hr;cases hr
theorem less_lift {n:Nat}{a b cl:List Int}(ha:Web n a)(hb:Web n b)(hc:cl.length=n)(h:∀i j,i<n→j<n→line a i j=true→line b i j=true)(hr:roundB (liftL b cl)=false):roundB (liftL a cl)=false:=by
 obtain⟨wa,_,la⟩:=web_lift ha hc;obtain⟨wb,_,lb⟩:=web_lift hb hc;refine less_round wa wb (fun i j hi hj hl=>?_) hr;obtain⟨h1,h2,x,y,hx,hy,ex,ey,hxy⟩:=(la i j hi).1 hl;exact (lb i j hi).2 ⟨h1,h2,x,y,hx,hy,ex,ey,h x y hx hy hxy⟩
def pwL (es:List Ev)(f rows:List Int):List Int:=mixL orI (mixL orI (plcL es) (fwL es f)) (mixL orI (rwL es rows) (agL es f rows))
def owP (es:List Ev)(i k:Nat):Bool:=decide (3≤i)&&decide (3≤k)&&((es.getD i zE).1==(es.getD k zE).1)
def owL (es:List Ev)(f:List Int):List Int:=offAll (owP es) es.length (fwL es f) es.length
def swL (dss:List (List Dd))(es:List Ev)(f rows:List Int):List Int:=mixL orI (mixL orI (kepL dss es) (owL es f)) (mixL orI (rwL es rows) (agL es f rows))
def xwL (es:List Ev)(f rows:List Int):List Int:=mixL orI (mixL orI (behL es) (fwL es f)) (mixL orI (rwL es rows) (agL es f rows))
def pwB (dss:List (List Dd))(f rows:List Int):List Int:=if taleB dss f rows=true then pwL (eventsB dss) f rows else []
def xwB (dss:List (List Dd))(f rows:List Int):List Int:=if taleB dss f rows=true then xwL (eventsB dss) f rows else []
def eachB (dss:List (List Dd))(f rows:List Int):Bool:=taleB dss f rows&&!roundB (pwL (eventsB dss) f rows)
def slowB (dss:List (List Dd))(f rows:List Int):Bool:=taleB dss f rows&&(!roundB (pwL (eventsB dss) f rows)&&!roundB (liftL (swL dss (eventsB dss) f rows) (clsB (eventsB dss))))
def strictB (dss:List (List Dd))(f rows:List Int):Bool:=taleB dss f rows&&(!roundB (pwL (eventsB dss) f rows)&&!roundB (liftL (xwL (eventsB dss) f rows) (clsB (eventsB dss))))
theorem rd_in {es:List Ev}(hx:es.length≤12){i:Nat}(hi:i<(idxB rdE es).length):0≤(idxB rdE es).getD i 0∧(idxB rdE es).getD i 0<(es.length:Int):=idxB_range hx hi
theorem rd_is {es:List Ev}(hx:es.length≤12){i:Nat}(hi:i<(idxB rdE es).length):(es.getD ((idxB rdE es).getD i 0).toNat zE).2.2.1=true:=by
 have hm:(idxB rdE es).getD i 0∈idxB rdE es:=getD_mem hi;unfold idxB at hm ⊢;rw[if_pos hx] at hm ⊢;exact idxK_mem rdE es _ _ hm
theorem rd_nodup {es:List Ev}(hx:es.length≤12):(idxB rdE es).Nodup:=by
 unfold idxB;rw[if_pos hx];exact rises_nodup _ (idxK_rises rdE es _)
theorem fr_is {es:List Ev}{f:List Int}(hx:es.length≤12)(h:srcB (chcL es) f=true){i:Nat}(hi:i<(idxB rdE es).length):(es.getD (f.getD i 0).toNat zE).2.2.1=false:=by
 unfold srcB at h;rw[Bool.and_eq_true,decide_eq_true_eq] at h;obtain⟨h1,h2⟩:=h;have hc:(chcL es).length=(idxB rdE es).length:=chcK_len _ _ _;have h3:=(srcK_iff (chcL es).length).1 h2 i (by omega);unfold chcL at h3;rw[chcK_get _ _ _ _ hi] at h3;have h4:=isB_mem h3;unfold idxB at h4;rw[if_pos hx] at h4;have h6:=idxK_mem _ _ _ _ h4;unfold toE at h6;simp only[Bool.and_eq_true,Bool.not_eq_true'] at h6;exact h6.1
structure Webs (es:List Ev)(f rows:List Int):Prop where
 fw:Web es.length (fwL es f)
 rw':Web es.length (rwL es rows)
 ag:Web es.length (agL es f rows)
 fwl:∀a j:Nat,a<es.length→(line (fwL es f) a j=true↔∃i,i<(idxB rdE es).length∧f.getD i 0=(a:Int)∧(idxB rdE es).getD i 0=(j:Int))
 rwl:∀a b:Nat,a<es.length→(line (rwL es rows) a b=true↔∃i q,i<rows.length∧q<rows.length∧rwP es rows i q=true∧rows.getD i 0=(a:Int)∧rows.getD q 0=(b:Int))
 agl:∀a j:Nat,a<es.length→(line (agL es f rows) a j=true↔∃i,i<(idxB rdE es).length∧(idxB rdE es).getD i 0=(a:Int)∧line (rwL es rows) (f.getD i 0).toNat j=true)
theorem webs_of {es:List Ev}{f rows:List Int}(hx:es.length≤12)(hs:srcB (chcL es) f=true)(hr:rowsL es rows=true):Webs es f rows:=by
 obtain⟨sl,su⟩:=src_use hx hs;obtain⟨rn,_,ru⟩:=rows_use hx hr;have w1:=web_rwAll hx ru rows.length (Nat.le_refl _);have w2:=fw_line (n:=es.length) (rs:=idxB rdE es) (f:=f) hx (idxB rdE es).length (fun i hi=>rd_in hx hi) (fun i hi=>(su i hi).1);have w3:=web_ag (n:=es.length) (rs:=idxB rdE es) (f:=f) (row:=rwL es rows) hx (rd_nodup hx) w1.1 (idxB rdE es).length (Nat.le_refl _) (fun i hi=>rd_in hx hi) (fun i hi=>(su i hi).1);exact⟨w2.1,w1.1,w3.1,w2.2,w1.2,w3.2⟩
theorem web_four {n:Nat}{a b c d:List Int}(ha:Web n a)(hb:Web n b)(hc:Web n c)(hd:Web n d):Web n (mixL orI (mixL orI a b) (mixL orI c d)) ∧
  ∀i j,i<n→line (mixL orI (mixL orI a b) (mixL orI c d)) i j=(line a i j||line b i j||(line c i j||line d i j)):=by
 obtain⟨h1,l1⟩:=web_join ha hb;obtain⟨h2,l2⟩:=web_join hc hd;obtain⟨h3,l3⟩:=web_join h1 h2;exact⟨h3,fun i j hi=>by rw[l3 i j hi,l1 i j hi,l2 i j hi]⟩
theorem ow_line {es:List Ev}{f rows:List Int}(W:Webs es f rows):Web es.length (owL es f)∧∀a j:Nat,a<es.length→line (owL es f) a j=(line (fwL es f) a j&&!owP es a j):=by
 obtain⟨h1,h2⟩:=web_offAll (p:=owP es) W.fw es.length (Nat.le_refl _);refine⟨h1,fun a j ha=>?_⟩;unfold owL;rw[h2 a j ha]
 cases hl:line (fwL es f) a j with
 |false=>rfl
 |true=>
  have hj:=W.fw.lt ha hl;simp[ha,hj]
theorem mix_none (f:Int→Int→Int)(a:List Int):mixL f a []=[]:=by
 unfold mixL;split<;>simp
def chnL (a b c d:List Int):List Int:=mixL orI (mixL orI (mixL orI a b) c) d
theorem web_chn {n:Nat}{a b c d:List Int}(ha:Web n a)(hb:Web n b)(hc:Web n c)(hd:Web n d):chnL a b c d=mixL orI (mixL orI a b) (mixL orI c d):=by
 obtain⟨h1,l1⟩:=web_join ha hb;obtain⟨h2,l2⟩:=web_join h1 hc;obtain⟨h3,l3⟩:=web_join h2 hd;obtain⟨h4,l4⟩:=web_four ha hb hc hd;refine Web.ext h3 h4 (fun i j hi _=>?_);unfold chnL;rw[l4 i j hi,l3 i j hi,l2 i j hi,l1 i j hi,Bool.or_assoc]
theorem pw_chain (dss:List (List Dd))(f rows:List Int):chnL (plcL (eventsB dss)) (fwB dss f) (rwB dss rows) (agB dss f rows)=pwB dss f rows:=by
 cases hb:taleB dss f rows with
 |false=>
  rw[pwB,agB,hb];exact mix_none _ _
 |true=>
  obtain⟨hw,hs,hr⟩:=tale_use hb;have h12:=(events_law hw).1;have e1:eventsB dss=evsW dss dss.length:=by rw[eventsB,if_pos hw]
  rw[←e1] at h12;have W:=webs_of h12 hs hr;have hb2:=hb;unfold taleB at hb2;rw[Bool.and_eq_true] at hb2;rw[pwB,agB,if_pos hb,if_pos hb,fwB,if_pos hb2.1,rwB,if_pos hb2.2];exact web_chn (plc_line h12).1 W.fw W.rw' W.ag
def mixK (f:Int→Int→Int)(a b:List Int)(k:Nat):List Int:=(List.zipWith f a b).take k++a.drop k
theorem mixK_len (f:Int→Int→Int){a b:List Int}(h:a.length=b.length)(k:Nat):(mixK f a b k).length=a.length:=by
 unfold mixK;rw[List.length_append,List.length_take,List.length_zipWith,List.length_drop];omega
theorem mixK_get (f:Int→Int→Int){a b:List Int}(h:a.length=b.length){k:Nat}(hk:k<a.length):(mixK f a b k).getD k 0=a.getD k 0:=by
 unfold mixK;have hl:((List.zipWith f a b).take k).length=k:=by rw[List.length_take,List.length_zipWith];omega
 rw[List.getD_eq_getElem?_getD,List.getElem?_append_right (by omega),hl,Nat.sub_self,List.getElem?_drop,Nat.add_zero,List.getD_eq_getElem?_getD]
theorem mixK_set (f:Int→Int→Int){a b:List Int}(h:a.length=b.length){k:Nat}(hk:k<a.length):(mixK f a b k).set k (f (a.getD k 0) (b.getD k 0))=mixK f a b (k+1):=by
 unfold mixK;have hz:k<(List.zipWith f a b).length:=by rw[List.length_zipWith];omega
 have hl:((List.zipWith f a b).take k).length=k:=by rw[List.length_take];omega
 rw[List.set_append_right _ _ (by omega),hl,Nat.sub_self,List.drop_eq_getElem_cons hk,List.set_cons_zero,List.take_succ_eq_append_getElem hz,List.append_assoc]
 congr 1
 rw[List.getElem_zipWith,List.getD_eq_getElem?_getD,List.getD_eq_getElem?_getD,List.getElem?_eq_getElem hk,List.getElem?_eq_getElem (show k<b.length by omega)];rfl
theorem mixK_end (f:Int→Int→Int){a b:List Int}(h:a.length=b.length):mixK f a b a.length=List.zipWith f a b:=by
 unfold mixK;rw[List.drop_length,List.append_nil,List.take_of_length_le (by rw[List.length_zipWith];omega)]
def thenK (a b:List Int)(k:Nat):List Int:=(a.map (fun x=>thenS x b 12)).take k++List.replicate (a.length-k) 0
theorem thenK_len (a b:List Int){k:Nat}(hk:k≤a.length):(thenK a b k).length=a.length:=by
 unfold thenK;rw[List.length_append,List.length_take,List.length_map,List.length_replicate];omega
theorem thenK_zero (a b:List Int):thenK a b 0=List.replicate a.length 0:=by simp[thenK]
theorem thenK_end (a b:List Int):thenK a b a.length=a.map (fun x=>thenS x b 12):=by
 unfold thenK;rw[Nat.sub_self,List.replicate_zero,List.append_nil,List.take_of_length_le (by simp)]
theorem thenK_set (a b:List Int){k:Nat}(hk:k<a.length):(thenK a b k).set k (thenS (a.getD k 0) b 12)=thenK a b (k+1):=by
 unfold thenK;have hz:k<(a.map (fun x=>thenS x b 12)).length:=by simpa using hk
 have hl:((a.map (fun x=>thenS x b 12)).take k).length=k:=by rw[List.length_take];omega
 rw[List.set_append_right _ _ (by omega),hl,Nat.sub_self,show a.length-k=(a.length-(k+1))+1 from by omega,List.replicate_succ,List.set_cons_zero,List.take_succ_eq_append_getElem hz,List.append_assoc,List.getElem_map,List.getD_eq_getElem?_getD,List.getElem?_eq_getElem hk];rfl
theorem thenK_same (a b:List Int){k:Nat}(hk:k<a.length):(thenK a b k).set k 0=thenK a b k:=by
 unfold thenK;have hl:((a.map (fun x=>thenS x b 12)).take k).length=k:=by rw[List.length_take,List.length_map];omega
 rw[List.set_append_right _ _ (by omega),hl,Nat.sub_self,show a.length-k=(a.length-(k+1))+1 from by omega,List.replicate_succ,List.set_cons_zero]
theorem mem_at {n:Nat}{p:Int}(hp:okB n p=true){j:Nat}(hj:j<(mem p 12).length):∃m:Nat,(mem p 12).getD j 0=m∧m<n:=by
 have hm:=getD_mem hj;obtain⟨m,_,e,hs⟩:=(mem_iff p 12 _).1 hm;exact⟨m,e,inSetB_iff hp hs⟩
theorem foldl_snoc {α:Type}(f:α→Int→α)(x:α)(l:List Int){j:Nat}(hj:j<l.length):(l.take (j+1)).foldl f x=f ((l.take j).foldl f x) (l.getD j 0):=by
 rw[take_snoc l j hj,List.foldl_append];rfl
theorem set_set_same (l:List Int)(k:Nat)(x y:Int):(l.set k x).set k y=l.set k y:=by simp
theorem getD_set_same (l:List Int){k:Nat}(hk:k<l.length)(x:Int):(l.set k x).getD k 0=x:=by rw[getD_set l k k x hk,if_pos rfl]
theorem wayAll_len (zs:List Int)(m:Nat):(wayAll zs m).length=zs.length:=by
 induction m with
 |zero=>rfl
 |succ m ih=>unfold wayAll;rw[wayIn_len,ih]
theorem mixL_len (f:Int→Int→Int)(a b:List Int):(mixL f a b).length≤12:=by
 unfold mixL
 cases h:twoB a b with
 |false=>simp
 |true=>have:=webB_len (twoB_iff.1 h).2.1;simp;omega
def colIn (q:Nat→Nat→Bool)(j:Nat)(st:List Int):Nat→List Int
 | 0=>st
 |i+1=>if q i j=true then (colIn q j st i).set i (gAdd ((colIn q j st i).getD i 0) j) else colIn q j st i
def colAll (q:Nat→Nat→Bool)(n:Nat):Nat→List Int
 | 0=>List.replicate n 0
 |j+1=>colIn q j (colAll q n j) j
theorem colIn_hit {q:Nat→Nat→Bool}{j i:Nat}(st:List Int)(h:q i j=true):colIn q j st (i+1)=(colIn q j st i).set i (gAdd ((colIn q j st i).getD i 0) j):=if_pos h
theorem colIn_miss {q:Nat→Nat→Bool}{j i:Nat}(st:List Int)(h:q i j=false):colIn q j st (i+1)=colIn q j st i:=if_neg (by simp[h])
theorem web_colIn {q:Nat→Nat→Bool}{n j:Nat}{st:List Int}(hj:j<n)(hst:Web n st):∀m:Nat,m≤n →
  Web n (colIn q j st m)∧∀a b:Nat,a<n→line (colIn q j st m) a b=(line st a b||(decide (a<m)&&decide (j=b)&&q a j))
 | 0,_=>⟨hst,fun a b _=>by simp[colIn]⟩
 |m+1,hm=>by
  have ih:=web_colIn hj hst m (by omega) (q:=q)
  cases hp:q m j with
  |false=>
   rw[colIn_miss st hp];refine⟨ih.1,fun a b ha=>?_⟩;rw[ih.2 a b ha];by_cases e:a=m
   · subst e;simp[hp]
   ·
    have d:decide (a<m+1)=decide (a<m):=decide_eq_decide.2 (by omega);rw[d]
  |true=>
   rw[colIn_hit st hp];have ha:=ok_add (ih.1.2.2 m (by omega)) hj;refine⟨ih.1.set ha.1,fun a b haa=>?_⟩;have e1:=ih.2 a b haa;unfold line at e1 ⊢;rw[getD_set _ _ _ _ (by rw[ih.1.2.1];omega)];by_cases e:m=a
   ·
    subst e;simp only[if_true];rw[ha.2 b,e1];simp[hp]
   ·
    simp only[e,if_false];rw[e1];have d:decide (a<m+1)=decide (a<m):=decide_eq_decide.2 (by omega);rw[d]
theorem web_colAll {q:Nat→Nat→Bool}{n:Nat}(hn:n≤12):∀m:Nat,m≤n →
  Web n (colAll q n m)∧∀a b:Nat,a<n→line (colAll q n m) a b=(decide (b<m)&&decide (a<b)&&q a b)
 | 0,_=>⟨Web.zero hn,fun a b _=>by unfold colAll;rw[line_zero];simp⟩
 |m+1,hm=>by
  have ih:=web_colAll hn m (by omega) (q:=q);have h1:=web_colIn (q:=q) (show m<n by omega) ih.1 m (by omega);refine⟨h1.1,fun a b ha=>?_⟩;show line (colIn q m (colAll q n m) m) a b=_;rw[h1.2 a b ha,ih.2 a b ha];by_cases e:m=b
  · subst e;simp
  ·
   have d:decide (b<m+1)=decide (b<m):=decide_eq_decide.2 (by omega);rw[d];simp[e]
def isbE (a b:Ev):Bool:=(b.1 != -1)&&((a.1 == -1)||(a.1==b.1))
def onpE (a b:Ev):Bool:=a.2.2.2.1==b.2.2.2.1
theorem evs_who {dss:List (List Dd)}(h:workB dss=true){j:Nat}(hj:j<(evsW dss dss.length).length):(j<3→((evsW dss dss.length).getD j zE).1=-1)∧(3≤j→0≤((evsW dss dss.length).getD j zE).1):=by
 obtain⟨_,_,_,_,hG⟩:=events_law h
 have hok:∀i,i<dss.length→okL (dss.getD i [])=true:=by
  simp only[workB,Bool.and_eq_true,decide_eq_true_eq] at h;exact fun i hi=>all_get [] h.1.1.1.2 i hi
 obtain⟨⟨t,ht⟩,_⟩:=evs_good hok dss.length (Nat.le_refl _);obtain⟨b0,b1,b2⟩:=beg_get ht;refine⟨fun h3=>?_,fun h3=>?_⟩
 ·
  have:j=0∨j=1∨j=2:=by omega
  rcases this with rfl|rfl|rfl
  · rw[b0]
  · rw[b1]
  · rw[b2]
 ·
  obtain⟨i,k,c,rd,vl,h1,_⟩:=hG j h3 hj;rw[List.getD_eq_getElem?_getD,h1];exact Int.natCast_nonneg _
theorem isb_beh {dss:List (List Dd)}(h:workB dss=true){i j:Nat}(hij:i<j)(hj:j<(evsW dss dss.length).length):
  isbE ((evsW dss dss.length).getD i zE) ((evsW dss dss.length).getD j zE)=behP (evsW dss dss.length) i j:=by
 have wi:=evs_who h (show i<_ by omega);have wj:=evs_who h hj;unfold isbE behP;generalize (evsW dss dss.length).getD i zE=a at wi ⊢;generalize (evsW dss dss.length).getD j zE=b at wj ⊢;have d0:decide (i<j)=true:=decide_eq_true hij;rw[d0,Bool.true_and];by_cases i3:i<3
 ·
  have e1:(a.1 == -1)=true:=by rw[wi.1 i3];rfl
  have d1:decide (i<3)=true:=decide_eq_true i3;have d2:decide (3≤i)=false:=decide_eq_false (by omega);rw[e1,d1,d2];by_cases j3:j<3
  · rw[wj.1 j3,decide_eq_false (show ¬ 3≤j by omega)];rfl
  ·
   have:=wj.2 (by omega);have e2:(b.1 != -1)=true:=by simp;omega
   rw[e2,decide_eq_true (show 3≤j by omega)];rfl
 ·
  have a0:=wi.2 (by omega);have b0:=wj.2 (by omega);have e1:(a.1 == -1)=false:=by simp;omega
  have e2:(b.1 != -1)=true:=by simp;omega
  rw[e1,e2,decide_eq_false i3,decide_eq_true (show 3≤i by omega)];simp
theorem beh_same {dss:List (List Dd)}(h:workB dss=true):colAll (fun i j=>isbE ((evsW dss dss.length).getD i zE) ((evsW dss dss.length).getD j zE)) (evsW dss dss.length).length (evsW dss dss.length).length=behL (evsW dss dss.length):=by
 have h12:=(events_law h).1;have c1:=web_colAll (q:=fun i j=>isbE ((evsW dss dss.length).getD i zE) ((evsW dss dss.length).getD j zE)) h12 _ (Nat.le_refl _);have b1:=beh_line h12;refine Web.ext c1.1 b1.1 (fun i j hi hj=>?_);rw[c1.2 i j hi,b1.2 i j hi];by_cases hij:i<j
 · rw[isb_beh h hij hj];simp[hij]
 · rw[behP_up (by omega)];simp[hij]
theorem plc_same {dss:List (List Dd)}(h:workB dss=true):colAll (fun i j=>isbE ((evsW dss dss.length).getD i zE) ((evsW dss dss.length).getD j zE)&&onpE ((evsW dss dss.length).getD i zE) ((evsW dss dss.length).getD j zE)) (evsW dss dss.length).length (evsW dss dss.length).length=plcL (evsW dss dss.length):=by
 have h12:=(events_law h).1;have c1:=web_colAll (q:=fun i j=>isbE ((evsW dss dss.length).getD i zE) ((evsW dss dss.length).getD j zE)&&onpE ((evsW dss dss.length).getD i zE) ((evsW dss dss.length).getD j zE)) h12 _ (Nat.le_refl _);have b1:=plc_line h12;refine Web.ext c1.1 b1.1 (fun i j hi hj=>?_);rw[c1.2 i j hi,b1.2 i j hi];by_cases hij:i<j
 · rw[isb_beh h hij hj];unfold onpE plcP;simp[hij,hj,bne]
 · rw[behP_up (by omega)];simp[hij]
abbrev eA (i q:Int)(r:Bool)(pl vl c:Int):Value:= .agg #[.int .i64 i,.int .i64 q,.bool r,.int .i64 pl,.int .i64 vl,.int .i64 c]
def sitS (rows:List Int):Nat→List Int
 | 0=>List.replicate 12 0
 |k+1=>(sitS rows k).set (rows.getD k 0).toNat (k:Int)
def pgK (rs f s:List Int):Nat→List Int
 | 0=>s
 |k+1=>(pgK rs f s k).set (rs.getD k 0).toNat ((pgK rs f s k).getD (f.getD k 0).toNat 0)
def pageL (es:List Ev)(f rows:List Int):List Int:=pgK (idxB rdE es) f (sitS rows rows.length) (idxB rdE es).length
def pageB (dss:List (List Dd))(f rows:List Int):List Int:=if taleB dss f rows=true then pageL (eventsB dss) f rows else List.replicate 12 0
theorem sitS_len (rows:List Int):∀k:Nat,(sitS rows k).length=12
 | 0=>by simp[sitS]
 |k+1=>by rw[sitS,List.length_set,sitS_len rows k]
theorem pgK_len (rs f s:List Int):∀k:Nat,(pgK rs f s k).length=s.length
 | 0=>rfl
 |k+1=>by rw[pgK,List.length_set,pgK_len rs f s k]
theorem pageL_len (es:List Ev)(f rows:List Int):(pageL es f rows).length=12:=by rw[pageL,pgK_len,sitS_len]
theorem pageB_len (dss:List (List Dd))(f rows:List Int):(pageB dss f rows).length=12:=by
 unfold pageB;split
 · exact pageL_len _ _ _
 · simp
theorem seat_get {rows:List Int}(hn:rows.Nodup)(hr:∀i,i<rows.length→0≤rows.getD i 0∧rows.getD i 0<12):∀(k i:Nat),k≤rows.length→i<k→(sitS rows k).getD (rows.getD i 0).toNat 0=(i:Int)
 | 0,i,_,h=>by omega
 |k+1,i,hk,h=>by
  have r1:=hr k (by omega);have r2:=hr i (by omega);rw[sitS,getD_set _ _ _ _ (by rw[sitS_len];omega)];by_cases e:i=k
  · subst e;rw[if_pos rfl]
  ·
   rw[if_neg (fun e2=>e (nodup_get hn (by omega) (by omega) (by omega)))];exact seat_get hn hr k i (by omega) (by omega)
theorem pg_other {rs f s:List Int}{a:Nat}(hs:s.length=12):∀k:Nat,(∀i,i<k→(rs.getD i 0).toNat<12∧(rs.getD i 0).toNat≠a)→(pgK rs f s k).getD a 0=s.getD a 0
 | 0,_=>rfl
 |k+1,h=>by
  rw[pgK,getD_set _ _ _ _ (by rw[pgK_len,hs];exact (h k (by omega)).1),if_neg (h k (by omega)).2];exact pg_other hs k (fun i hi=>h i (by omega))
theorem pg_read {rs f s:List Int}(hs:s.length=12)(hn:rs.Nodup)(hr:∀i,i<rs.length→0≤rs.getD i 0∧rs.getD i 0<12)(hf:∀i j,i<rs.length→j<rs.length→(rs.getD i 0).toNat≠(f.getD j 0).toNat):∀(k i:Nat),k≤rs.length→i<k→(pgK rs f s k).getD (rs.getD i 0).toNat 0=s.getD (f.getD i 0).toNat 0
 | 0,i,_,h=>by omega
 |k+1,i,hk,h=>by
  have r1:=hr k (by omega);have r2:=hr i (by omega);rw[pgK,getD_set _ _ _ _ (by rw[pgK_len,hs];omega)];by_cases e:i=k
  ·
   subst e;rw[if_pos rfl];exact pg_other hs i (fun j hj=>⟨by have:=hr j (by omega);omega,hf j i (by omega) (by omega)⟩)
  ·
   rw[if_neg (fun e2=>e (nodup_get hn (by omega) (by omega) (by omega)))];exact pg_read hs hn hr hf k i (by omega) (by omega)
theorem idx_all {es:List Ev}(hx:es.length≤12){t:Ev→Bool}{x:Int}(h:x∈idxB t es):(0≤x∧x<(es.length:Int))∧t (es.getD x.toNat zE)=true:=by
 unfold idxB at h;rw[if_pos hx] at h;exact⟨idxK_lt _ _ _ _ h,idxK_mem _ _ _ _ h⟩
theorem idx_nodup {es:List Ev}(hx:es.length≤12)(t:Ev→Bool):(idxB t es).Nodup:=by
 unfold idxB;rw[if_pos hx];exact rises_nodup _ (idxK_rises t _ _)
theorem idx_has {es:List Ev}(hx:es.length≤12){t:Ev→Bool}{i:Nat}(hi:i<es.length)(h:t (es.getD i zE)=true):(i:Int)∈idxB t es:=by
 unfold idxB;rw[if_pos hx];exact idxK_has _ _ h _ hi
theorem get_mem {l:List Int}{i:Nat}(h:i<l.length):l.getD i 0∈l:=by
 rw[List.getD_eq_getElem?_getD,List.getElem?_eq_getElem h];exact List.getElem_mem h
theorem mem_get {l:List Int}{x:Int}(h:x∈l):∃i,i<l.length∧l.getD i 0=x:=by
 obtain⟨k,hk,ek⟩:=List.getElem_of_mem h;exact⟨k,hk,by rw[List.getD_eq_getElem?_getD,List.getElem?_eq_getElem hk];exact ek⟩
theorem page_use {dss:List (List Dd)}{f rows:List Int}(h:taleB dss f rows=true):(eventsB dss).length≤12∧(idxB rdE (eventsB dss)).length=f.length∧f.length≤12∧rows.length≤36 ∧
  (∀i,i<rows.length→(pageL (eventsB dss) f rows).getD (rows.getD i 0).toNat 0=(i:Int)) ∧
  (∀i,i<f.length→∃q,q<rows.length∧rows.getD q 0=f.getD i 0∧(pageL (eventsB dss) f rows).getD ((idxB rdE (eventsB dss)).getD i 0).toNat 0=(q:Int)) ∧
  (∀i,i<rows.length→0≤rows.getD i 0∧rows.getD i 0<((eventsB dss).length:Int)) ∧
  (∀i,i<f.length→(0≤f.getD i 0∧f.getD i 0<((eventsB dss).length:Int))∧(0≤(idxB rdE (eventsB dss)).getD i 0∧(idxB rdE (eventsB dss)).getD i 0<((eventsB dss).length:Int))∧plE (eventsB dss) (f.getD i 0)=plE (eventsB dss) ((idxB rdE (eventsB dss)).getD i 0)) ∧
  (∀i,i<(eventsB dss).length→((eventsB dss).getD i zE).2.2.1=false→∃q,q<rows.length∧rows.getD q 0=(i:Int)):=by
 obtain⟨hb,hs,hr⟩:=tale_use h;have hx:=eventsB_12 dss
 have hall:∀i,i<(eventsB dss).length→((eventsB dss).getD i zE).2.2.1=false→∃q,q<rows.length∧rows.getD q 0=(i:Int):=fun i hi hrd=>by
  have plin:0≤((eventsB dss).getD i zE).2.2.2.1∧((eventsB dss).getD i zE).2.2.2.1≤2:=by
   have:=place_in hb i (by rw[eventsB,if_pos hb] at hi;exact hi);rw[eventsB,if_pos hb];exact this
  obtain⟨p,hp⟩:=Int.eq_ofNat_of_zero_le plin.1;have hmem:(i:Int)∈plcW (eventsB dss) p:=idx_has hx hi (by unfold toE;rw[hrd,hp];simp);refine mem_get ((rows_perm hx hr).mem_iff.1 ?_);unfold allW;have:p=0∨p=1∨p=2:=by omega
  rcases this with rfl|rfl|rfl
  · exact List.mem_append.2 (.inl (List.mem_append.2 (.inl hmem)))
  · exact List.mem_append.2 (.inl (List.mem_append.2 (.inr hmem)))
  · exact List.mem_append.2 (.inr hmem)
 obtain⟨rn,r36,ru⟩:=rows_use hx hr
 have hwr:∀i,i<rows.length→((eventsB dss).getD (rows.getD i 0).toNat zE).2.2.1=false:=fun i hi=>by
  have hm:=(rows_perm hx hr).mem_iff.2 (get_mem hi)
  have fin:∀p,rows.getD i 0∈plcW (eventsB dss) p→((eventsB dss).getD (rows.getD i 0).toNat zE).2.2.1=false:=fun p hp=>by
   have:=(idx_all hx hp).2;unfold toE at this;simp only[Bool.and_eq_true,Bool.not_eq_true'] at this;exact this.1
  unfold allW at hm;rcases List.mem_append.1 hm with hm|hm
  ·
   rcases List.mem_append.1 hm with hm|hm
   · exact fin _ hm
   · exact fin _ hm
  · exact fin _ hm
 obtain⟨sl,su⟩:=src_use hx hs
 have hf12:f.length≤12:=by
  rw[←sl];unfold idxB;rw[if_pos hx];have:=idxK_len rdE (eventsB dss) (eventsB dss).length;omega
 have fw:∀i,i<f.length→((eventsB dss).getD (f.getD i 0).toNat zE).2.2.1=false:=fun i hi=>by
  have hs2:=hs;unfold srcB at hs2;rw[Bool.and_eq_true,decide_eq_true_eq] at hs2;have hc:(chcL (eventsB dss)).length=(idxB rdE (eventsB dss)).length:=chcK_len _ _ _;have h3:=(srcK_iff (chcL (eventsB dss)).length).1 hs2.2 i (by omega);unfold chcL at h3;rw[chcK_get _ _ _ _ (by omega)] at h3;have:=(idx_all hx (isB_mem h3)).2;unfold toE at this;simp only[Bool.and_eq_true,Bool.not_eq_true'] at this;exact this.1
 have rd:∀i,i<f.length→(0≤(idxB rdE (eventsB dss)).getD i 0∧(idxB rdE (eventsB dss)).getD i 0<((eventsB dss).length:Int))∧((eventsB dss).getD ((idxB rdE (eventsB dss)).getD i 0).toNat zE).2.2.1=true:=fun i hi=>idx_all hx (get_mem (by omega))
 have r12:∀i,i<rows.length→0≤rows.getD i 0∧rows.getD i 0<12:=fun i hi=>by have:=ru i hi;omega
 refine⟨hx,sl,hf12,?_,fun i hi=>?_,fun i hi=>?_,ru,fun i hi=>⟨(su i (by omega)).1,(rd i hi).1,(su i (by omega)).2⟩,hall⟩
 · exact r36
 ·
  unfold pageL;rw[pg_other (sitS_len _ _) _ (fun j hj=>⟨by have:=(rd j (by omega)).1;omega,fun e=>by have a:=(rd j (by omega)).2;have b:=hwr i hi;rw[e,b] at a;cases a⟩)];exact seat_get rn r12 _ i (Nat.le_refl _) hi
 ·
  obtain⟨q,hq,eq⟩:=hall (f.getD i 0).toNat (by have:=(su i (by omega)).1;omega) (fw i hi);have eq':rows.getD q 0=f.getD i 0:=by have:=(su i (by omega)).1;omega
  refine⟨q,hq,eq',?_⟩;unfold pageL;rw[pg_read (sitS_len _ _) (idx_nodup hx _) (fun j hj=>by have:=(rd j (by omega)).1;omega) (fun a b ha hb e=>by have x:=(rd a (by omega)).2;have y:=fw b (by omega);rw[e,y] at x;cases x) _ i (Nat.le_refl _) (by omega),←eq'];exact seat_get rn r12 _ q (Nat.le_refl _) hq
theorem page_some {dss:List (List Dd)}{f rows:List Int}(h:taleB dss f rows=true):pageL (eventsB dss) f rows≠List.replicate 12 0:=fun e=>by
 obtain⟨hb,hs,hr⟩:=tale_use h;obtain⟨hx,-,-,-,pw,-,-,-,-⟩:=page_use h
 have z:∀p:Nat,p<3→∃q,q<rows.length∧rows.getD q 0=(p:Int):=fun p hp=>by
  obtain⟨f1,f2⟩:=plcW_first hb p hp;have hm:(p:Int)∈plcW (eventsB dss) p:=by rw[←f2];exact get_mem f1
  refine mem_get ((rows_perm hx hr).mem_iff.1 ?_);unfold allW;have:p=0∨p=1∨p=2:=by omega
  rcases this with rfl|rfl|rfl
  · exact List.mem_append.2 (.inl (List.mem_append.2 (.inl hm)))
  · exact List.mem_append.2 (.inl (List.mem_append.2 (.inr hm)))
  · exact List.mem_append.2 (.inr hm)
 have zero:∀a:Nat,(List.replicate 12 (0:Int)).getD a 0=0:=fun a=>by
  rw[List.getD_eq_getElem?_getD,List.getElem?_replicate];split<;>rfl
 obtain⟨a,ha,ea⟩:=z 0 (by omega);obtain⟨b,hb2,eb⟩:=z 1 (by omega);have pa:=pw a ha;have pb:=pw b hb2;rw[e,zero] at pa pb;have:a=b:=by omega
 subst this;omega
def blankB (p:List Int):Bool:=decide (p=List.replicate 12 0)
theorem page_blank (dss:List (List Dd))(f rows:List Int):blankB (pageB dss f rows)=!taleB dss f rows:=by
 unfold blankB pageB
 cases h:taleB dss f rows with
 |false=>simp
 |true=>rw[if_pos rfl,decide_eq_false (page_some h)];rfl
def agI (p:List Int)(r:Nat)(ws st:List Int):Nat→List Int
 | 0=>st
 |j+1=>if decide (p.getD r 0<p.getD (ws.getD j 0).toNat 0)=true then (agI p r ws st j).set r (gAdd ((agI p r ws st j).getD r 0) (ws.getD j 0)) else agI p r ws st j
def agO (es:List Ev)(p rs:List Int):Nat→List Int
 | 0=>List.replicate es.length 0
 |k+1=>agI p (rs.getD k 0).toNat (idxB (toE (plE es (rs.getD k 0))) es) (agO es p rs k) (idxB (toE (plE es (rs.getD k 0))) es).length
theorem web_agI {p ws st:List Int}{n r:Nat}(hw:∀j,j<ws.length→0≤ws.getD j 0∧ws.getD j 0<(n:Int))(hr:r<n)(hst:Web n st):∀m:Nat,m≤ws.length →
  Web n (agI p r ws st m)∧∀a b:Nat,a<n→(line (agI p r ws st m) a b=true↔line st a b=true∨(a=r∧∃q,q<m∧p.getD r 0<p.getD b 0∧ws.getD q 0=(b:Int)))
 | 0,_=>⟨hst,fun a b _=>by simp[agI]⟩
 |m+1,hm=>by
  obtain⟨h1,h2⟩:=web_agI (p:=p) hw hr hst m (by omega);obtain⟨b0,hb0⟩:=Int.eq_ofNat_of_zero_le (hw m (by omega)).1;have hb:b0<n:=by have:=(hw m (by omega)).2;omega
  by_cases hp:p.getD r 0<p.getD b0 0
  ·
   have e0:agI p r ws st (m+1)=(agI p r ws st m).set r (gAdd ((agI p r ws st m).getD r 0) (b0:Int)):=by rw[agI,hb0,Int.toNat_natCast,if_pos (decide_eq_true hp)]
   rw[e0];have hadd:=ok_add (h1.2.2 r hr) hb;refine⟨h1.set hadd.1,fun a b haa=>?_⟩;have e1:=h2 a b haa;unfold line at e1 ⊢;rw[getD_set _ _ _ _ (by rw[h1.2.1];exact hr)];by_cases e:r=a
   ·
    subst e;simp only[if_true];rw[hadd.2 b,Bool.or_eq_true,e1,decide_eq_true_eq];constructor
    ·
     rintro ((h|⟨-,q,hq,r1,r2⟩)|h)
     · exact .inl h
     · exact .inr ⟨trivial,q,by omega,r1,r2⟩
     · subst h;exact .inr ⟨trivial,m,by omega,hp,hb0⟩
    ·
     rintro (h|⟨-,q,hq,r1,r2⟩)
     · exact .inl (.inl h)
     ·
      by_cases eq:q=m
      ·
       subst eq;right;rw[hb0] at r2;omega
      · exact .inl (.inr ⟨rfl,q,by omega,r1,r2⟩)
   ·
    simp only[e,if_false];rw[e1];constructor
    ·
     rintro (h|⟨h,_⟩)
     · exact .inl h
     · exact absurd h.symm e
    ·
     rintro (h|⟨h,_⟩)
     · exact .inl h
     · exact absurd h.symm e
  ·
   have e0:agI p r ws st (m+1)=agI p r ws st m:=by rw[agI,hb0,Int.toNat_natCast,if_neg (by simpa using hp)]
   rw[e0];refine⟨h1,fun a b ha=>?_⟩;rw[h2 a b ha];constructor
   ·
    rintro (h|⟨h,q,hq,r⟩)
    · exact .inl h
    · exact .inr ⟨h,q,by omega,r⟩
   ·
    rintro (h|⟨h,q,hq,r1,r2⟩)
    · exact .inl h
    ·
     by_cases e:q=m
     ·
      subst e;rw[hb0] at r2;exfalso;obtain rfl:b0=b:=by omega
      exact hp r1
     · exact .inr ⟨h,q,by omega,r1,r2⟩
theorem web_agO {es:List Ev}{p rs:List Int}(hx:es.length≤12)(hr:∀j,j<rs.length→0≤rs.getD j 0∧rs.getD j 0<(es.length:Int)):∀m:Nat,m≤rs.length →
  Web es.length (agO es p rs m)∧∀a b:Nat,a<es.length→(line (agO es p rs m) a b=true↔∃i,i<m∧rs.getD i 0=(a:Int)∧p.getD a 0<p.getD b 0∧(b:Int)∈idxB (toE (plE es (a:Int))) es)
 | 0,_=>⟨Web.zero hx,fun a b _=>by unfold agO;rw[line_zero];simp⟩
 |m+1,hm=>by
  obtain⟨h1,h2⟩:=web_agO (p:=p) hx hr m (by omega);obtain⟨a0,ha0⟩:=Int.eq_ofNat_of_zero_le (hr m (by omega)).1;have hal:a0<es.length:=by have:=(hr m (by omega)).2;omega
  obtain⟨g1,g2⟩:=web_agI (p:=p) (ws:=idxB (toE (plE es (a0:Int))) es) (n:=es.length) (r:=a0) (fun j hj=>(idx_all hx (get_mem hj)).1) hal h1 _ (Nat.le_refl _);rw[agO,ha0,Int.toNat_natCast];refine⟨g1,fun a b ha=>?_⟩;rw[g2 a b ha,h2 a b ha];constructor
  ·
   rintro (⟨i,hi,r⟩|⟨rfl,q,hq,r1,r2⟩)
   · exact⟨i,by omega,r⟩
   · exact⟨m,by omega,ha0,r1,by rw[←r2];exact get_mem hq⟩
  ·
   rintro⟨i,hi,e1,r1,r2⟩;by_cases e:i=m
   ·
    subst e;have:a0=a:=by omega
    subst this;obtain⟨q,hq,eq⟩:=mem_get r2;exact .inr ⟨rfl,q,hq,r1,eq⟩
   · exact .inl ⟨i,by omega,e1,r1,r2⟩
theorem ag_same {dss:List (List Dd)}{f rows:List Int}(h:taleB dss f rows=true):agO (eventsB dss) (pageL (eventsB dss) f rows) (idxB rdE (eventsB dss)) (idxB rdE (eventsB dss)).length=agB dss f rows:=by
 obtain⟨hb,hs,hr⟩:=tale_use h;obtain⟨hx,sl,hf12,hr12,pw,pr,ru,fu,hall⟩:=page_use h;have rr:∀i,i<(idxB rdE (eventsB dss)).length→0≤(idxB rdE (eventsB dss)).getD i 0∧(idxB rdE (eventsB dss)).getD i 0<((eventsB dss).length:Int):=fun i hi=>(fu i (by omega)).2.1
 have e3:agB dss f rows=agK (eventsB dss).length (idxB rdE (eventsB dss)) f (rwL (eventsB dss) rows) (idxB rdE (eventsB dss)).length:=by rw[agB,if_pos h];rfl
 have wr:=web_rwAll hx ru rows.length (Nat.le_refl _);have wa:=web_ag hx (idx_nodup hx _) wr.1 (idxB rdE (eventsB dss)).length (Nat.le_refl _) rr (fun i hi=>(fu i (by omega)).1);have wo:=web_agO (p:=pageL (eventsB dss) f rows) hx rr _ (Nat.le_refl _);rw[e3];refine Web.ext wo.1 wa.1 (fun a j ha hj=>?_);rw[Bool.eq_iff_iff,wo.2 a j ha];have e4:=wa.2 a j ha;rw[show rwL (eventsB dss) rows=rwAll (eventsB dss) rows rows.length from rfl,e4];constructor
 ·
  rintro⟨i,hi,r1,r2,r3⟩;refine⟨i,hi,r1,?_⟩;obtain⟨q,hq,eq,pq⟩:=pr i (by omega);have fa:=fu i (by omega);rw[r1,Int.toNat_natCast] at pq;have t:=(idx_all hx r3).2;rw[Int.toNat_natCast] at t;unfold toE at t;simp only[Bool.and_eq_true,Bool.not_eq_true',beq_iff_eq] at t;obtain⟨k,hk,ek⟩:=hall j hj t.1;have pk:=pw k hk;rw[ek,Int.toNat_natCast] at pk;rw[wr.2 _ _ (by omega)];refine⟨q,k,hq,hk,?_,by omega,ek⟩;unfold rwP;rw[pq,pk] at r2;rw[decide_eq_true (show q<k by omega),eq,fa.2.2,r1,ek];show (true&&_)=true;rw[Bool.true_and,beq_iff_eq,←t.2];unfold plE;rw[Int.toNat_natCast]
 ·
  rintro⟨i,hi,r1,r2⟩;refine⟨i,hi,r1,?_⟩;have fa:=fu i (by omega);obtain⟨q,hq,eq,pq⟩:=pr i (by omega);rw[r1,Int.toNat_natCast] at pq;rw[wr.2 _ _ (by omega)] at r2;obtain⟨i',k,hi',hk,r3,r4,r5⟩:=r2;have pi:=pw i' hi';have pk:=pw k hk;have pq':=pw q hq;rw[r5,Int.toNat_natCast] at pk;have e5:rows.getD i' 0=rows.getD q 0:=by omega
  rw[e5,pq'] at pi;obtain rfl:q=i':=by omega
  unfold rwP at r3;rw[Bool.and_eq_true,decide_eq_true_eq,beq_iff_eq] at r3;refine⟨by rw[pq,pk];omega,idx_has hx hj ?_⟩;have hm:=(rows_perm hx hr).mem_iff.2 (get_mem hk)
  have fin:∀p,rows.getD k 0∈plcW (eventsB dss) p→((eventsB dss).getD (rows.getD k 0).toNat zE).2.2.1=false:=fun p hp=>by
   have:=(idx_all hx hp).2;unfold toE at this;simp only[Bool.and_eq_true,Bool.not_eq_true'] at this;exact this.1
  have hw:((eventsB dss).getD (rows.getD k 0).toNat zE).2.2.1=false:=by
   unfold allW at hm;rcases List.mem_append.1 hm with hm|hm
   ·
    rcases List.mem_append.1 hm with hm|hm
    · exact fin _ hm
    · exact fin _ hm
   · exact fin _ hm
  rw[r5,Int.toNat_natCast] at hw;have h3:=r3.2;rw[eq,fa.2.2,r1,r5] at h3;unfold toE;rw[hw,h3];unfold plE;rw[Int.toNat_natCast];simp
abbrev pgC (p:List Int):Array Value:=(p.map (Value.int .i64)).toArray
abbrev pgV (p:List Int):Value:= .agg (pgC p)
def Pg (w:World)(g:Nat)(p:List Int):Prop:=w.heap[g]? = some (.cells (pgC p) 165 (0,0))
theorem Pg.lt {w:World}{g:Nat}{p:List Int}(h:Pg w g p):g<w.heap.size:=(Array.getElem?_eq_some_iff.1 h).1
theorem Pg.row {w:World}{g:Nat}{p:List Int}(h:Pg w g p):RowAt w g p:=⟨_,_,h,by show List.take p.length (p.map _)=_;exact List.take_of_length_le (by simp)⟩
theorem Pg.cell {w:World}{g:Nat}{p:List Int}(h:Pg w g p){j:Nat}(hj:j<p.length):w.cell? ⟨g,j,none⟩=some (.int .i64 (p.getD j 0)):=h.row.cell hj
theorem Pg.free {w:World}{g:Nat}{p:List Int}(h:Pg w g p)(j:Nat):w.frozen? ⟨g,j,none⟩=false:=frozen_of_row w g j _ _ h
theorem Pg.kept {w w':World}{g:Nat}{p:List Int}{row:Option Nat}(h:Pg w g p)(hg:w.grownBy w' row)(hne:row≠some g):Pg w' g p:=by
 unfold Pg;rw[hg.block g h.lt (fun e=>hne e.symm)];exact h
theorem Pg.keep {w w':World}{g:Nat}{p:List Int}(h:Pg w g p)(k:Keep w w'):Pg w' g p:=h.kept k.grownBy (by simp)
theorem Pg.set {w:World}{g:Nat}{p:List Int}(h:Pg w g p)(j:Nat)(x:Int):Pg (w.setCell ⟨g,j,none⟩ (.int .i64 x)) g (p.set j x):=by
 unfold Pg at h ⊢;rw[heap_setCell_same w g j _ _ _ h]
 congr 2
 apply Array.ext';rw[Array.toList_setIfInBounds];simp[List.map_set]
theorem Pg.new {w:World}(p:List Int):Pg (w.alloc (.cells (pgC p) 165 (0,0))) w.heap.size p:=heap_alloc_new w _
theorem pg_size {p:List Int}(h:p.length=12):(pgC p).size=12:=by simp[pgC,h]
theorem pg_one (p:List Int):(pgC p).all (·.oneCell')=true:=by
 rw[Array.all_eq_true_iff_forall_mem];intro x hx;simp only[pgC,List.mem_toArray,List.mem_map] at hx;obtain⟨a,_,rfl⟩:=hx;rfl
theorem heap_setRow_same (w:World)(g:Nat)(t:TypeId)(old cs:Array Value)(hg:w.heap[g]? = some (.cells old t (0,0))):(w.setRow g cs).heap[g]? = some (.cells cs t (0,0)):=by
 unfold World.setRow;have hl:=(Array.getElem?_eq_some_iff.1 hg).1;rw[Array.getElem?_modify];simp[hg]
theorem grown_setRow (w:World)(g:Nat)(cs:Array Value):w.grownBy (w.setRow g cs) (some g):=
 ⟨rfl,rfl,rfl,by simp,fun k _ hk=>by
  unfold World.setRow;have hk':k≠g:=fun e=>hk (by rw[e])
  rw[Array.getElem?_modify]
  simp[hk'.symm]⟩
theorem page_info:(Tryz.prog.info? 165).map (·.size)=some 12:=by kernel_rfl
theorem ratB_len (dss:List (List Dd))(n:Int):(ratB dss n).length≤36:=by
 by_cases h:0≤n∧n<rcntB dss
 · exact (row_all h.1 h.2).2.2.1
 ·
  unfold ratB;rw[if_neg h];simp
theorem rwB_len (dss:List (List Dd))(f:List Int):(rwB dss f).length≤12:=by
 unfold rwB;split
 ·
  rename_i h;rw[rowsB,Bool.and_eq_true] at h;have hx:=eventsB_12 dss;obtain⟨_,_,hr⟩:=rows_use hx h.2;have:=(web_rwAll hx hr f.length (Nat.le_refl _)).1.2.1;unfold rwL;omega
 · simp
theorem agB_len (dss:List (List Dd))(f rows:List Int):(agB dss f rows).length≤12:=by
 unfold agB;split
 ·
  rename_i h;have hb:=(tale_use h).1;rw[agL,agK_len,eventsB,if_pos hb];exact (events_law hb).1
 · simp
theorem ocB_len (dss:List (List Dd))(f rows:List Int):(ocB dss f rows).length≤15:=by
 by_cases h:taleB dss f rows=true
 ·
  obtain⟨_,h1,h2,h3,_⟩:=ag_law h;omega
 ·
  unfold ocB;rw[if_neg h];simp
abbrev dAt (dss:List (List Dd))(c k:Nat):Dd:=(dss.getD c []).getD k zD
def offN (dss:List (List Dd))(c k:Nat):Nat:=(clkE c (dss.getD c []) (evsW dss c) k).1.length
def numD (d:Dd):Nat:=if d.1=4 then 0 else if d.1=3 then 2 else 1
theorem oneE_num (i k:Nat)(d:Dd)(c:Int):(oneE i k d c).length=numD d:=by
 unfold oneE numD;split
 · rfl
 ·
  split
  · rfl
  · split<;>rfl
def clsD (dss:List (List Dd))(c k:Nat):Int:=clsE (dAt dss c k).2.2.2 (offN dss c k) (clkE c (dss.getD c []) (evsW dss c) k).2
theorem clk_step (dss:List (List Dd))(c k:Nat):(clkE c (dss.getD c []) (evsW dss c) (k+1)).1=(clkE c (dss.getD c []) (evsW dss c) k).1++oneE c k (dAt dss c k) (clsD dss c k):=by
 rw[clkE,stepE];split
 ·
  rename_i h;have e:oneE c k (dAt dss c k) (clsD dss c k)=[]:=by unfold oneE;rw[if_pos h]
  rw[e,List.append_nil]
 · rfl
theorem off_succ (dss:List (List Dd))(c k:Nat):offN dss c (k+1)=offN dss c k+numD (dAt dss c k):=by
 unfold offN;rw[clk_step,List.length_append,oneE_num]
theorem off_zero (dss:List (List Dd))(c:Nat):offN dss c 0=(evsW dss c).length:=rfl
theorem off_end (dss:List (List Dd))(c:Nat):(evsW dss (c+1)).length=offN dss c (dss.getD c []).length:=rfl
theorem clk_pre (dss:List (List Dd))(c k:Nat):∀n:Nat,k≤n→∃t,(clkE c (dss.getD c []) (evsW dss c) n).1=(clkE c (dss.getD c []) (evsW dss c) k).1++t
 | 0,h=>by
  obtain rfl:k=0:=by omega
  exact⟨[],by simp⟩
 |n+1,h=>by
  by_cases e:k=n+1
  · subst e;exact⟨[],by simp⟩
  ·
   obtain⟨t,ht⟩:=clk_pre dss c k n (by omega);exact⟨t++oneE c n (dAt dss c n) (clsD dss c n),by rw[clk_step,ht,List.append_assoc]⟩
theorem evs_pre (dss:List (List Dd))(c:Nat):∀n:Nat,c≤n→∃t,evsW dss n=evsW dss c++t
 | 0,h=>by
  obtain rfl:c=0:=by omega
  exact⟨[],by simp⟩
 |n+1,h=>by
  by_cases e:c=n+1
  · subst e;exact⟨[],by simp⟩
  ·
   obtain⟨t,ht⟩:=evs_pre dss c n (by omega);obtain⟨t2,h2⟩:=clk_pre dss n 0 (dss.getD n []).length (Nat.zero_le _);refine⟨t++t2,?_⟩;show (clkE n (dss.getD n []) (evsW dss n) (dss.getD n []).length).1=_;rw[h2];show evsW dss n++t2=_;rw[ht,List.append_assoc]
theorem es_at {dss:List (List Dd)}{c k n:Nat}(hc:c<n)(hk:k<(dss.getD c []).length){i:Nat}{e:Ev}(h:(oneE c k (dAt dss c k) (clsD dss c k))[i]? = some e):(evsW dss n)[offN dss c k+i]? = some e:=by
 obtain⟨t1,h1⟩:=evs_pre dss (c+1) n hc;obtain⟨t2,h2⟩:=clk_pre dss c (k+1) (dss.getD c []).length hk;rw[h1];refine at_left t1 ?_;show (clkE c (dss.getD c []) (evsW dss c) (dss.getD c []).length).1[offN dss c k+i]? = some e;rw[h2];refine at_left t2 ?_;rw[clk_step,List.getElem?_append_right (by unfold offN;omega)];show (oneE c k (dAt dss c k) (clsD dss c k))[offN dss c k+i-offN dss c k]? = some e;rw[show offN dss c k+i-offN dss c k=i by omega];exact h
theorem clk_dec (dss:List (List Dd))(c:Nat){j:Nat}(h0:offN dss c 0≤j):∀k:Nat,j<offN dss c k→∃k' i,k'<k∧i<numD (dAt dss c k')∧j=offN dss c k'+i
 | 0,h=>by omega
 |k+1,h=>by
  by_cases hj:j<offN dss c k
  ·
   obtain⟨k',i,h1,h2,h3⟩:=clk_dec dss c h0 k hj;exact⟨k',i,by omega,h2,h3⟩
  ·
   rw[off_succ] at h;exact⟨k,j-offN dss c k,by omega,by omega,by omega⟩
theorem es_dec (dss:List (List Dd)){j:Nat}(h3:3≤j):∀n:Nat,j<(evsW dss n).length→∃c k i,c<n∧k<(dss.getD c []).length∧i<numD (dAt dss c k)∧j=offN dss c k+i
 | 0,h=>by simp[evsW,evBeg] at h;omega
 |n+1,h=>by
  by_cases hj:j<(evsW dss n).length
  ·
   obtain⟨c,k,i,h1,h2⟩:=es_dec dss h3 n hj;exact⟨c,k,i,by omega,h2⟩
  ·
   rw[off_end] at h;obtain⟨k,i,h1,h2⟩:=clk_dec dss n (by rw[off_zero];omega) _ h;exact⟨n,k,i,by omega,h1,h2⟩
theorem off_le (dss:List (List Dd))(c:Nat){k k':Nat}(h:k≤k'):offN dss c k≤offN dss c k':=by
 obtain⟨t,ht⟩:=clk_pre dss c k k' h;unfold offN;rw[ht,List.length_append];omega
theorem off_lt {dss:List (List Dd)}{c c' k k':Nat}(hk:k<(dss.getD c []).length)(h:c<c'∨(c=c'∧k<k')):offN dss c k+numD (dAt dss c k)≤offN dss c' k':=by
 rcases h with h|⟨rfl,h⟩
 ·
  have h1:=off_le dss c (k:=k+1) (k':=(dss.getD c []).length) hk;rw[off_succ] at h1;obtain⟨t,ht⟩:=evs_pre dss (c+1) c' h;have h2:=off_le dss c' (Nat.zero_le k');rw[off_zero,ht,List.length_append,off_end] at h2;omega
 ·
  have h1:=off_le dss c (k:=k+1) (k':=k') h;rw[off_succ] at h1;exact h1
theorem off_three (dss:List (List Dd))(c k:Nat):3≤offN dss c k:=by
 obtain⟨t,ht⟩:=evs_pre dss 0 c (Nat.zero_le _);have h:=off_le dss c (Nat.zero_le k);rw[off_zero,ht,List.length_append] at h;simp[evsW,evBeg] at h;omega
abbrev gAt (dss:List (List Dd))(c k:Nat):Int:=(dAt dss c k).2.2.2
def OkC (dss:List (List Dd))(c:Nat):Prop:=∀k,k<(dss.getD c []).length→okD (dAt dss c k)=true
theorem okC_of {dss:List (List Dd)}(h:workB dss=true){c:Nat}(hc:c<dss.length):OkC dss c:=by
 simp only[workB,Bool.and_eq_true,decide_eq_true_eq] at h;obtain⟨⟨⟨⟨_,h2⟩,_⟩,_⟩,_⟩:=h;have h3:=all_get [] h2 c hc;unfold okL at h3;rw[Bool.and_eq_true] at h3;exact fun k hk=>all_get zD h3.1 k hk
theorem g_in {dss:List (List Dd)}{c k:Nat}(h:OkC dss c)(hk:k<(dss.getD c []).length):0≤gAt dss c k∧gAt dss c k≤9∧(2<(dAt dss c k).1→gAt dss c k=0):=
 ⟨(okD_restE (h k hk)).2.2.1,(okD_restE (h k hk)).2.2.2.1,(okD_restE (h k hk)).2.2.2.2⟩
theorem fst_len (dss:List (List Dd))(c:Nat):∀k:Nat,(clkE c (dss.getD c []) (evsW dss c) k).2.length=10
 | 0=>by simp[clkE]
 |k+1=>by
  have ih:=fst_len dss c k;rw[clkE,stepE];split
  · exact ih
  ·
   show (fstE _ _ _).length=10;unfold fstE;split
   · rw[List.length_set];exact ih
   · exact ih
theorem fst_at {dss:List (List Dd)}{c:Nat}(hok:OkC dss c){g:Nat}(h0:0<g)(h9:g≤9):∀k:Nat,k≤(dss.getD c []).length →
  ((clkE c (dss.getD c []) (evsW dss c) k).2.getD g 0=0∧∀j,j<k→gAt dss c j≠g) ∨
  ∃j,j<k∧gAt dss c j=g∧(∀i,i<j→gAt dss c i≠g)∧(clkE c (dss.getD c []) (evsW dss c) k).2.getD g 0=(offN dss c j:Int)
 | 0,_ => .inl ⟨by
   show (List.replicate 10 (0:Int)).getD g 0=0;rw[List.getD_eq_getElem?_getD,List.getElem?_replicate]
   split<;>rfl,fun j hj=>by omega⟩
 |k+1,hk=>by
  have ih:=fst_at hok h0 h9 k (by omega);have hl:=fst_len dss c k;have hd:=g_in hok (k:=k) (by omega);have hkk:=okD_kindE (hok k (by omega));by_cases h4:(dAt dss c k).1=4
  ·
   have e:(clkE c (dss.getD c []) (evsW dss c) (k+1)).2=(clkE c (dss.getD c []) (evsW dss c) k).2:=by
    rw[clkE,stepE,if_pos h4]
   have hg:gAt dss c k=0:=hd.2.2 (by omega);rw[e];rcases ih with ⟨h1,h2⟩|⟨j,h1,h2,h3,h5⟩
   ·
    refine .inl ⟨h1,fun j hj=>?_⟩;by_cases e:j=k
    · subst e;omega
    · exact h2 j (by omega)
   · exact .inr ⟨j,by omega,h2,h3,h5⟩
  ·
   have e:(clkE c (dss.getD c []) (evsW dss c) (k+1)).2=fstE (gAt dss c k) (offN dss c k) (clkE c (dss.getD c []) (evsW dss c) k).2:=by
    rw[clkE,stepE,if_neg h4];rfl
   rw[e];by_cases hg:gAt dss c k=(g:Int)
   ·
    rcases ih with ⟨h1,h2⟩|⟨j,h1,h2,h3,h5⟩
    ·
     refine .inr ⟨k,by omega,hg,h2,?_⟩;unfold fstE;rw[hg,Int.toNat_natCast,if_pos ⟨by omega,h1⟩,getD_setE _ _ _ _ (by omega),if_pos rfl]
    ·
     refine .inr ⟨j,by omega,h2,h3,?_⟩;have h6:=off_three dss c j;unfold fstE;rw[hg,Int.toNat_natCast,if_neg (by rw[h5];omega)];exact h5
   ·
    have e2:(fstE (gAt dss c k) (offN dss c k) (clkE c (dss.getD c []) (evsW dss c) k).2).getD g 0=(clkE c (dss.getD c []) (evsW dss c) k).2.getD g 0:=by
     unfold fstE;split
     ·
      rename_i hp;have hx:(gAt dss c k).toNat≤9:=by have:=hd.2.1;omega
      rw[getD_setE _ _ _ _ (by omega),if_neg (by omega)]
     · rfl
    rw[e2];rcases ih with ⟨h1,h2⟩|⟨j,h1,h2,h3,h5⟩
    ·
     refine .inl ⟨h1,fun j hj=>?_⟩;by_cases e:j=k
     · subst e;exact hg
     · exact h2 j (by omega)
    · exact .inr ⟨j,by omega,h2,h3,h5⟩
theorem cls_at {dss:List (List Dd)}{c k:Nat}(hok:OkC dss c)(hk:k<(dss.getD c []).length)(h4:(dAt dss c k).1≠4):
  (gAt dss c k=0∧clsD dss c k=(offN dss c k:Int))∨(gAt dss c k≠0∧∃j,j≤k∧gAt dss c j=gAt dss c k∧(∀i,i<j→gAt dss c i≠gAt dss c k)∧clsD dss c k=(offN dss c j:Int)):=by
 have hd:=g_in hok hk;by_cases hg:gAt dss c k=0
 ·
  refine .inl ⟨hg,?_⟩;unfold clsD clsE;rw[if_neg (by have:(dAt dss c k).2.2.2=0:=hg;omega)]
 ·
  obtain⟨g,hgg⟩:=Int.eq_ofNat_of_zero_le hd.1;have hgg':gAt dss c k=(g:Int):=hgg;have h9:g≤9:=by have:=hd.2.1;omega
  refine .inr ⟨hg,?_⟩;have h1:=fst_at hok (g:=g) (by omega) h9 (k+1) hk
  have e:(clkE c (dss.getD c []) (evsW dss c) (k+1)).2=fstE (gAt dss c k) (offN dss c k) (clkE c (dss.getD c []) (evsW dss c) k).2:=by
   rw[clkE,stepE,if_neg h4];rfl
  rw[e] at h1;rcases h1 with ⟨_,h2⟩|⟨j,h1,h2,h3,h5⟩
  · exact absurd hgg' (h2 k (by omega))
  ·
   refine⟨j,by omega,by rw[hgg'];exact h2,fun i hi=>by rw[hgg'];exact h3 i hi,?_⟩;unfold clsD clsE;rw[if_pos (by have:(dAt dss c k).2.2.2=(g:Int):=hgg';omega)];have hq:(dAt dss c k).2.2.2.toNat=g:=by have:(dAt dss c k).2.2.2=(g:Int):=hgg';omega
   rw[hq];exact h5
theorem off_inj {dss:List (List Dd)}{c c' k k':Nat}(hk:k<(dss.getD c []).length)(hk':k'<(dss.getD c' []).length)(h1:0<numD (dAt dss c k))(h2:0<numD (dAt dss c' k'))(e:offN dss c k=offN dss c' k'):c=c'∧k=k':=by
 by_cases hc:c<c'
 · have:=off_lt (k':=k') hk (.inl hc);omega
 by_cases hc':c'<c
 · have:=off_lt (k':=k) hk' (.inl hc');omega
 obtain rfl:c=c':=by omega
 refine⟨rfl,?_⟩;by_cases hkk:k<k'
 · have:=off_lt (c':=c) (k':=k') hk (.inr ⟨rfl,hkk⟩);omega
 by_cases hkk':k'<k
 · have:=off_lt (c':=c) (k':=k) hk' (.inr ⟨rfl,hkk'⟩);omega
 omega
theorem num_grp {dss:List (List Dd)}{c k:Nat}(hok:OkC dss c)(hk:k<(dss.getD c []).length)(hg:gAt dss c k≠0):(dAt dss c k).1≠4∧(dAt dss c k).1≠3∧0<numD (dAt dss c k):=by
 have hd:=g_in hok hk;have hkk:=okD_kindE (hok k hk);have h3:¬ 2<(dAt dss c k).1:=fun h=>hg (hd.2.2 h)
 refine⟨by omega,by omega,?_⟩;unfold numD;rw[if_neg (by omega),if_neg (by omega)];omega
theorem num_pos {d:Dd}(h:d.1≠4):0<numD d:=by
 unfold numD;rw[if_neg h];split<;>omega
theorem cls_iff {dss:List (List Dd)}{c c' k k':Nat}(hok:OkC dss c)(hok':OkC dss c')(hk:k<(dss.getD c []).length)(hk':k'<(dss.getD c' []).length)(h4:(dAt dss c k).1≠4)(h4':(dAt dss c' k').1≠4):
  clsD dss c k=clsD dss c' k'↔c=c'∧(k=k'∨(gAt dss c k≠0∧gAt dss c k=gAt dss c' k')):=by
 constructor
 ·
  intro e;rcases cls_at hok hk h4 with ⟨g1,e1⟩|⟨g1,j,j1,j2,j3,e1⟩
  ·
   rcases cls_at hok' hk' h4' with ⟨g2,e2⟩|⟨g2,j',l1,l2,l3,e2⟩
   ·
    rw[e1,e2] at e;obtain⟨rfl,rfl⟩:=off_inj hk hk' (num_pos h4) (num_pos h4') (by omega);exact⟨rfl,.inl rfl⟩
   ·
    rw[e1,e2] at e;obtain⟨rfl,rfl⟩:=off_inj (k':=j') hk (by omega) (num_pos h4) (num_grp (k:=j') hok' (by omega) (by rw[l2];exact g2)).2.2 (by omega);exact absurd (l2.symm.trans g1) g2
  ·
   rcases cls_at hok' hk' h4' with ⟨g2,e2⟩|⟨g2,j',l1,l2,l3,e2⟩
   ·
    rw[e1,e2] at e;obtain⟨rfl,rfl⟩:=off_inj (k:=j) (by omega) hk' (num_grp (k:=j) hok (by omega) (by rw[j2];exact g1)).2.2 (num_pos h4') (by omega);exact absurd (j2.symm.trans g2) g1
   ·
    rw[e1,e2] at e;obtain⟨rfl,rfl⟩:=off_inj (k:=j) (k':=j') (by omega) (by omega) (num_grp (k:=j) hok (by omega) (by rw[j2];exact g1)).2.2 (num_grp (k:=j') hok' (by omega) (by rw[l2];exact g2)).2.2 (by omega);exact⟨rfl,.inr ⟨g1,by rw[←j2,l2]⟩⟩
 ·
  rintro⟨rfl,rfl|⟨g1,g2⟩⟩
  · rfl
  ·
   rcases cls_at hok hk h4 with ⟨g0,_⟩|⟨_,j,j1,j2,j3,e1⟩
   · exact absurd g0 g1
   rcases cls_at hok' hk' h4' with ⟨g0,_⟩|⟨_,j',l1,l2,l3,e2⟩
   · rw[g0] at g2;exact absurd g2 g1
   rw[e1,e2]
   have:j=j':=by
    by_cases a:j<j'
    · exact absurd (by rw[j2,g2]) (l3 j a)
    by_cases a':j'<j
    · exact absurd (by rw[l2,g2]) (j3 j' a')
    omega
   rw[this]
theorem place_ev {dss:List (List Dd)}(hb:workB dss=true){j:Nat}(hj:j<(eventsB dss).length):0≤((eventsB dss).getD j zE).2.2.2.1∧((eventsB dss).getD j zE).2.2.2.1≤2:=by
 have e1:eventsB dss=evsW dss dss.length:=by rw[eventsB,if_pos hb]
 rw[e1] at hj ⊢;exact place_in hb j hj
theorem row_has {es:List Ev}{rows:List Int}(hx:es.length≤12)(hr:rowsL es rows=true){x:Nat}(hxn:x<es.length)(hw:(es.getD x zE).2.2.1=false)(hp:0≤(es.getD x zE).2.2.2.1∧(es.getD x zE).2.2.2.1≤2):∃i,i<rows.length∧rows.getD i 0=(x:Int):=by
 have hm:∀p:Nat,(es.getD x zE).2.2.2.1=(p:Int)→(x:Int)∈plcW es p:=by
  intro p e;unfold plcW idxB;rw[if_pos hx];refine idxK_has _ _ ?_ _ hxn;unfold toE;rw[hw,e];simp
 have ha:(x:Int)∈allW es:=by
  unfold allW;simp only[List.mem_append];rcases (by omega:(es.getD x zE).2.2.2.1=((0:Nat):Int)∨(es.getD x zE).2.2.2.1=((1:Nat):Int)∨(es.getD x zE).2.2.2.1=((2:Nat):Int)) with h|h|h
  · exact .inl (.inl (hm 0 h))
  · exact .inl (.inr (hm 1 h))
  · exact .inr (hm 2 h)
 exact at_of_mem ((rows_perm hx hr).mem_iff.1 ha)
theorem row_tot {es:List Ev}{rows:List Int}(hx:es.length≤12)(hr:rowsL es rows=true){x y:Nat}(hxn:x<es.length)(hyn:y<es.length)(hwx:(es.getD x zE).2.2.1=false)(hwy:(es.getD y zE).2.2.1=false)
  (hp:0≤(es.getD x zE).2.2.2.1∧(es.getD x zE).2.2.2.1≤2) (he:(es.getD x zE).2.2.2.1=(es.getD y zE).2.2.2.1) (hne:x≠y):line (rwL es rows) x y=true∨line (rwL es rows) y x=true:=by
 obtain⟨i,hi,ei⟩:=row_has hx hr hxn hwx hp;obtain⟨k,hk,ek⟩:=row_has hx hr hyn hwy (by rw[←he];exact hp);have c1:=row_cell hx hr hi hk;have c2:=row_cell hx hr hk hi;rw[ei,ek,Int.toNat_natCast,Int.toNat_natCast] at c1 c2;rw[c1,c2];unfold rwP plE;rw[ei,ek,Int.toNat_natCast,Int.toNat_natCast,he];by_cases h:i<k
 · left;simp[h]
 ·
  have h2:i≠k:=fun e=>hne (by subst e;rw[ei] at ek;omega)
  have h3:k<i:=by omega
  right;simp[h3]
theorem row_use {es:List Ev}{f rows:List Int}(W:Webs es f rows)(hx:es.length≤12)(hr:rowsL es rows=true){a b:Nat}(ha:a<es.length)(h:line (rwL es rows) a b=true):
  b<es.length∧a≠b∧(es.getD a zE).2.2.2.1=(es.getD b zE).2.2.2.1:=by
 obtain⟨i,q,hi,hq,hp,e1,e2⟩:=(W.rwl a b ha).1 h;obtain⟨rn,_,ru⟩:=rows_use hx hr;unfold rwP plE at hp;rw[e1,e2,Int.toNat_natCast,Int.toNat_natCast] at hp;simp only[Bool.and_eq_true,decide_eq_true_eq,beq_iff_eq] at hp;refine⟨by have:=(ru q hq).2;omega,fun e=>?_,hp.2⟩;have:=nodup_get rn hi hq (by rw[e1,e2,e]);omega
theorem two_round {n:Nat}{zs:List Int}(hz:Web n zs)(hr:roundB zs=false){i j:Nat}(hi:i<n)(h1:line zs i j=true)(h2:line zs j i=true):False:=by
 rw[(round_iff hz).2 ⟨i,hi,(Way.one h1).more h2⟩] at hr;cases hr
theorem each_parts {dss:List (List Dd)}{f rows:List Int}(h:eachB dss f rows=true):taleB dss f rows=true∧roundB (pwL (eventsB dss) f rows)=false:=by
 unfold eachB at h;rw[Bool.and_eq_true,Bool.not_eq_true'] at h;exact h
theorem beg_ev {dss:List (List Dd)}(hb:workB dss=true):3≤(eventsB dss).length∧(eventsB dss).getD 0 zE=(-1,-1,false,0,0,0)∧(eventsB dss).getD 1 zE=(-1,-1,false,1,0,1)∧(eventsB dss).getD 2 zE=(-1,-1,false,2,0,2):=by
 have e1:eventsB dss=evsW dss dss.length:=by rw[eventsB,if_pos hb]
 obtain⟨t,ht⟩:=evs_pre dss 0 dss.length (Nat.zero_le _);have ht':evsW dss dss.length=evBeg++t:=ht;rw[e1];refine⟨by rw[ht'];simp[evBeg],beg_get ht'⟩
theorem beg_place {dss:List (List Dd)}(hb:workB dss=true){i:Nat}(hi:i<3):((eventsB dss).getD i zE).2.2.2.1=(i:Int)∧((eventsB dss).getD i zE).2.2.1=false∧csE ((eventsB dss).getD i zE)=(i:Int)∧((eventsB dss).getD i zE).1=-1:=by
 obtain⟨_,h0,h1,h2⟩:=beg_ev hb;rcases (by omega:i=0∨i=1∨i=2) with rfl|rfl|rfl
 · rw[h0];exact⟨rfl,rfl,rfl,rfl⟩
 · rw[h1];exact⟨rfl,rfl,rfl,rfl⟩
 · rw[h2];exact⟨rfl,rfl,rfl,rfl⟩
structure Told (dss:List (List Dd))(f rows:List Int):Prop where
 work:workB dss=true
 twelve:(eventsB dss).length≤12
 webs:Webs (eventsB dss) f rows
 src:srcB (chcL (eventsB dss)) f=true
 rws:rowsL (eventsB dss) rows=true
 pw:Web (eventsB dss).length (pwL (eventsB dss) f rows)
 pwl:∀i j,i<(eventsB dss).length→line (pwL (eventsB dss) f rows) i j=(line (plcL (eventsB dss)) i j||line (fwL (eventsB dss) f) i j||(line (rwL (eventsB dss) rows) i j||line (agL (eventsB dss) f rows) i j))
 sw:Web (eventsB dss).length (swL dss (eventsB dss) f rows)
 swl:∀i j,i<(eventsB dss).length→line (swL dss (eventsB dss) f rows) i j=(line (kepL dss (eventsB dss)) i j||line (owL (eventsB dss) f) i j||(line (rwL (eventsB dss) rows) i j||line (agL (eventsB dss) f rows) i j))
 xw:Web (eventsB dss).length (xwL (eventsB dss) f rows)
 xwl:∀i j,i<(eventsB dss).length→line (xwL (eventsB dss) f rows) i j=(line (behL (eventsB dss)) i j||line (fwL (eventsB dss) f) i j||(line (rwL (eventsB dss) rows) i j||line (agL (eventsB dss) f rows) i j))
 cls:(clsB (eventsB dss)).length=(eventsB dss).length
theorem told_of {dss:List (List Dd)}{f rows:List Int}(h:taleB dss f rows=true):Told dss f rows:=by
 obtain⟨hb,hs,hr⟩:=tale_use h;have hx:=eventsB_12 dss;have W:=webs_of hx hs hr;have p:=web_four (plc_line hx).1 W.fw W.rw' W.ag;have s:=web_four (kep_line (dss:=dss) hx).1 (ow_line W).1 W.rw' W.ag;have x:=web_four (beh_line hx).1 W.fw W.rw' W.ag;exact⟨hb,hx,W,hs,hr,p.1,p.2,s.1,s.2,x.1,x.2,by unfold clsB;rw[if_pos hx,List.length_map]⟩
theorem beh_is {es:List Ev}{i k:Nat}(hi:i<k)(h:(i<3∧3≤k)∨(3≤i∧(es.getD i zE).1=(es.getD k zE).1)):behP es i k=true:=by
 unfold behP;rcases h with ⟨h1,h2⟩|⟨h1,h2⟩
 · simp[hi,h1,h2]
 · rw[h2];simp[hi,h1]
theorem plc_is {es:List Ev}(hx:es.length≤12){i k:Nat}(hi:i<k)(hk:k<es.length)(h:(i<3∧3≤k)∨(3≤i∧(es.getD i zE).1=(es.getD k zE).1))(hp:(es.getD i zE).2.2.2.1=(es.getD k zE).2.2.2.1):line (plcL es) i k=true:=by
 rw[(plc_line hx).2 i k (by omega)];have h1:behP es i k=true:=beh_is hi h;have h2:plcP es i k=false:=by unfold plcP;rw[hp];simp
 simp[hk,h1,h2]
theorem each_use {dss:List (List Dd)}{f rows:List Int}(h:eachB dss f rows=true){i r k:Nat}(hi:i<(idxB rdE (eventsB dss)).length)(er:(idxB rdE (eventsB dss)).getD i 0=(r:Int))(hk:k<(eventsB dss).length)
  (hw:((eventsB dss).getD k zE).2.2.1=false) (hc:(k<3∧3≤r)∨(3≤k∧3≤r∧((eventsB dss).getD k zE).1=((eventsB dss).getD r zE).1)) (hp:((eventsB dss).getD k zE).2.2.2.1=((eventsB dss).getD r zE).2.2.2.1):
  (r<k→f.getD i 0≠(k:Int))∧(k<r→f.getD i 0≠(k:Int)→line (rwL (eventsB dss) rows) k (f.getD i 0).toNat=true):=by
 obtain⟨ht,hr0⟩:=each_parts h;have T:=told_of ht;obtain⟨sl,su⟩:=src_use T.twelve T.src;have hrn:r<(eventsB dss).length:=by have:=(rd_in T.twelve hi).2;omega
 constructor
 ·
  intro hlt e;refine two_round T.pw hr0 hk (j:=r) ?_ ?_
  · rw[T.pwl k r hk,(T.webs.fwl k r hk).2 ⟨i,hi,e,er⟩];simp
  ·
   have:=plc_is T.twelve hlt hk (.inr (by rcases hc with h|h<;>omega)) hp.symm;rw[T.pwl r k hrn,this];simp
 ·
  intro hlt hne;obtain⟨⟨q1,q2⟩,q3⟩:=su i hi;obtain⟨a,ea⟩:=Int.eq_ofNat_of_zero_le q1;have ha:a<(eventsB dss).length:=by omega
  have hfw:=fr_is T.twelve T.src hi;rw[ea,Int.toNat_natCast] at hfw q3 ⊢;unfold plE at q3;rw[er,Int.toNat_natCast] at q3;rcases row_tot T.twelve T.rws hk ha hw hfw (place_ev T.work hk) (by rw[hp,q3]) (by omega) with h1|h1
  · exact h1
  ·
   exfalso;refine two_round T.pw hr0 hrn (j:=k) ?_ ?_
   ·
    have:line (agL (eventsB dss) f rows) r k=true:=(T.webs.agl r k hrn).2 ⟨i,hi,er,by rw[ea,Int.toNat_natCast];exact h1⟩;rw[T.pwl r k hrn,this];simp
   ·
    have:=plc_is T.twelve hlt hrn (by rcases hc with h|h<;>omega) hp;rw[T.pwl k r hk,this];simp
theorem slow_each {dss:List (List Dd)}{f rows:List Int}(h:slowB dss f rows=true):eachB dss f rows=true:=by
 unfold slowB at h;simp only[Bool.and_eq_true] at h;unfold eachB;rw[h.1,h.2.1];rfl
theorem slow_in {dss:List (List Dd)}{f rows:List Int}(T:Told dss f rows):∀i j,i<(eventsB dss).length→j<(eventsB dss).length→line (swL dss (eventsB dss) f rows) i j=true→line (xwL (eventsB dss) f rows) i j=true:=by
 intro i j hi hj hl;rw[T.swl i j hi] at hl;rw[T.xwl i j hi];simp only[Bool.or_eq_true] at hl ⊢;rcases hl with (h|h)|h
 ·
  refine .inl (.inl ?_);rw[(kep_line T.twelve).2 i j hi] at h;rw[(beh_line T.twelve).2 i j hi];simp only[Bool.and_eq_true] at h ⊢;exact h.1
 ·
  refine .inl (.inr ?_);rw[(ow_line T.webs).2 i j hi,Bool.and_eq_true] at h;exact h.1
 · exact .inr h
theorem strict_slow {dss:List (List Dd)}{f rows:List Int}(h:strictB dss f rows=true):slowB dss f rows=true:=by
 unfold strictB at h;simp only[Bool.and_eq_true,Bool.not_eq_true'] at h;have T:=told_of h.1;unfold slowB;rw[h.1,h.2.1,less_lift T.sw T.xw T.cls (slow_in T) h.2.2];rfl
theorem pwB_len (dss:List (List Dd))(f rows:List Int):(pwB dss f rows).length≤12:=by
 unfold pwB;split
 ·
  rename_i h;have T:=told_of h;rw[T.pw.2.1];exact T.twelve
 · simp
theorem xwB_len (dss:List (List Dd))(f rows:List Int):(xwB dss f rows).length≤12:=by
 unfold xwB;split
 ·
  rename_i h;have T:=told_of h;rw[T.xw.2.1];exact T.twelve
 · simp
def mapK (f:Int→Int)(a:List Int)(k:Nat):List Int:=(a.map f).take k++List.replicate (a.length-k) 0
theorem mapK_len (f:Int→Int)(a:List Int){k:Nat}(hk:k≤a.length):(mapK f a k).length=a.length:=by
 unfold mapK;rw[List.length_append,List.length_take,List.length_map,List.length_replicate];omega
theorem mapK_zero (f:Int→Int)(a:List Int):mapK f a 0=List.replicate a.length 0:=by simp[mapK]
theorem mapK_end (f:Int→Int)(a:List Int):mapK f a a.length=a.map f:=by
 unfold mapK;rw[Nat.sub_self,List.replicate_zero,List.append_nil,List.take_of_length_le (by simp)]
theorem mapK_set (f:Int→Int)(a:List Int){k:Nat}(hk:k<a.length):(mapK f a k).set k (f (a.getD k 0))=mapK f a (k+1):=by
 unfold mapK;have hz:k<(a.map f).length:=by simpa using hk
 have hl:((a.map f).take k).length=k:=by rw[List.length_take];omega
 rw[List.set_append_right _ _ (by omega),hl,Nat.sub_self,show a.length-k=(a.length-(k+1))+1 from by omega,List.replicate_succ,List.set_cons_zero,List.take_succ_eq_append_getElem hz,List.append_assoc,List.getElem_map,List.getD_eq_getElem?_getD,List.getElem?_eq_getElem hk];rfl
theorem mapK_same (f:Int→Int)(a:List Int){k:Nat}(hk:k<a.length):(mapK f a k).set k 0=mapK f a k:=by
 unfold mapK;have hl:((a.map f).take k).length=k:=by rw[List.length_take,List.length_map];omega
 rw[List.set_append_right _ _ (by omega),hl,Nat.sub_self,show a.length-k=(a.length-(k+1))+1 from by omega,List.replicate_succ,List.set_cons_zero]
def mateS (cl:List Int)(c:Int):Nat→Int
 | 0=>0
 |m+1=>if c=cl.getD m 0 then gAdd (mateS cl c m) m else mateS cl c m
def matesL (cl:List Int):List Int:=cl.map fun c=>mateS cl c cl.length
theorem ok_mate {n:Nat}(hn:n≤12)(cl:List Int)(c:Int)(m:Nat)(hm:m≤n):okB n (mateS cl c m)=true∧∀j:Nat,inSetB (mateS cl c m) j=true↔j<m∧c=cl.getD j 0:=by
 induction m with
 |zero=>exact⟨ok_zero hn,fun j=>by rw[show mateS cl c 0=0 from rfl,zero_bit];simp⟩
 |succ m ih=>
  have ih:=ih (by omega);unfold mateS;by_cases hc:c=cl.getD m 0
  ·
   rw[if_pos hc];have ha:=ok_add ih.1 (show m<n by omega);refine⟨ha.1,fun j=>?_⟩;rw[ha.2 j,Bool.or_eq_true,ih.2 j,decide_eq_true_eq];constructor
   ·
    rintro (⟨h1,h2⟩|h)
    · exact⟨by omega,h2⟩
    · subst h;exact⟨by omega,hc⟩
   ·
    rintro⟨h1,h2⟩;by_cases e:m=j
    · exact .inr e
    · exact .inl ⟨by omega,h2⟩
  ·
   rw[if_neg hc];refine⟨ih.1,fun j=>?_⟩;rw[ih.2 j];constructor
   · rintro⟨h1,h2⟩;exact⟨by omega,h2⟩
   ·
    rintro⟨h1,h2⟩;have:j≠m:=fun e=>hc (by rw[←e];exact h2)
    exact⟨by omega,h2⟩
theorem web_mates {n:Nat}(hn:n≤12){cl:List Int}(hc:cl.length=n):Web n (matesL cl)∧∀i j,i<n→(line (matesL cl) i j=true↔j<n∧cl.getD i 0=cl.getD j 0):=by
 have hg:∀i,i<n→(matesL cl).getD i 0=mateS cl (cl.getD i 0) n:=by
  intro i hi;unfold matesL;subst hc;rw[List.getD_eq_getElem?_getD,List.getElem?_map,List.getD_eq_getElem?_getD,List.getElem?_eq_getElem hi];rfl
 refine⟨⟨hn,by simp[matesL,hc],fun i hi=>?_⟩,fun i j hi=>?_⟩
 · rw[hg i hi];exact (ok_mate hn cl _ n (Nat.le_refl _)).1
 ·
  unfold line;rw[hg i hi];exact (ok_mate hn cl _ n (Nat.le_refl _)).2 j
theorem lift_mates {n:Nat}{zs cl:List Int}(hz:Web n zs)(hc:cl.length=n):mixL notI (thenL (thenL (matesL cl) zs) (matesL cl)) (matesL cl)=liftL zs cl:=by
 have hm:=web_mates hz.1 hc;have h1:=web_then hm.1 hz;have h2:=web_then h1.1 hm.1;have h3:=web_less h2.1 hm.1;have hl:=web_lift hz hc;refine h3.1.ext hl.1 fun i j hi hj=>?_
 rw[Bool.eq_iff_iff,h3.2 i j hi,Bool.and_eq_true,h2.2 i j hi,hl.2.2 i j hi,Bool.not_eq_true',←Bool.not_eq_true,hm.2 i j hi];constructor
 ·
  rintro⟨⟨b,hb,hab,hbj⟩,hne⟩;obtain⟨a,ha,hia,hline⟩:=(h1.2 i b hi).1 hab;have e1:=((hm.2 i a hi).1 hia).2;have e2:=((hm.2 b j hb).1 hbj).2;exact⟨hj,fun e=>hne ⟨hj,e.symm⟩,a,b,ha,hb,e1.symm,e2,hline⟩
 ·
  rintro⟨_,hne,a,b,ha,hb,e1,e2,hline⟩;exact⟨⟨b,hb,(h1.2 i b hi).2 ⟨a,ha,(hm.2 i a hi).2 ⟨ha,e1.symm⟩,hline⟩,(hm.2 b j hb).2 ⟨hj,e2⟩⟩,fun h=>hne h.2.symm⟩
theorem clsB_len (es:List Ev):(clsB es).length≤12:=by
 unfold clsB;split
 · simpa
 · simp
end Go.Proofs.YtkmjmnljkidobaaGreat
